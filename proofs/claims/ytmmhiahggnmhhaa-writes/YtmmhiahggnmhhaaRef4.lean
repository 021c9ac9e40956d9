/-
  The document's answer: Part, Commit, Cancel, New.
-/
import Derived.Test.YtmmhiahggnmhhaaRef3
namespace Go.Proofs.Ytmmhiahggnmhhaa
open Go Go.RowKit

section
variable {w : World} {τ : Nat → Tag} {sid b : Nat} {s : MS} {A : RA}

theorem allPrep_true {n : Nat} {m : MW} (h : ∀ q, q < n → onPart n m.items q = true → m.prep q = true) : allPrep n m = true := by
  simp only [allPrep, List.all_eq_true, List.mem_range]
  intro q hq
  cases ho : onPart n m.items q
  · rfl
  · simpa using h q hq ho
theorem allPrep_false {n : Nat} {m : MW} {q : Nat} (hq : q < n) (ho : onPart n m.items q = true) (hp : m.prep q = false) : allPrep n m = false := by
  cases ha : allPrep n m
  · rfl
  · simp only [allPrep, List.all_eq_true, List.mem_range] at ha
    have := ha q hq
    simp [ho, hp] at this

set_option maxRecDepth 100000 in
set_option maxHeartbeats 800000 in
theorem rCommit (h : RepR w τ sid b s A) (n p : Int) (hn : -9223372036854775808 ≤ n) (hn' : n ≤ 9223372036854775807) :
    Calls Try.prog 15 #[ptr b, .int .i64 n, .int .i64 p] w (RPost w τ sid b A (mCommit s n p)) := by
  cases hf : mFind s n with
  | none =>
    have Hr : Hid (mCommit s n p = (7, s)) := by unfold Hid mCommit; rw [hf]
    have c := rwrite_none h n hn hn' hf
    unfold ptr at c ⊢
    clear hf
    go_enter Try.func15, Try.ntmps15
    go_wp2_with fail
    refine c.mono ?_
    rintro e w' ⟨rfl, rfl⟩
    go_wp2_with fail
    go_ret
    rw [Hr.out]
    exact ⟨rfl, h, Stp.refl _ _ _⟩
  | some m =>
    obtain ⟨h1, h2, hm, hc⟩ := mFind_some hf
    have c := rwrite_some h n m hf
    generalize hi : (n - 1).toNat = i at *
    have con := on_any h hm p
    have hp4 := h.ok.p4
    have hp1 := h.ok.p1
    cases hon : onPart s.parts m.items p with
    | false =>
      have Hr : Hid (mCommit s n p = (8, s)) := by unfold Hid mCommit; rw [hf]; simp [hon]
      rw [hon] at con
      unfold ptr at c con ⊢
      clear hf hon
      go_enter Try.func15, Try.ntmps15
      go_wp2_with fail
      refine c.mono ?_
      rintro e w' ⟨rfl, rfl⟩
      go_wp2_with fail
      refine con.mono ?_
      rintro e w' ⟨rfl, rfl⟩
      go_wp2_with fail
      go_ret
      rw [Hr.out]
      exact ⟨rfl, h, Stp.refl _ _ _⟩
    | true =>
      obtain ⟨hb0, hb1⟩ := onPart_bd (by omega) hon
      obtain ⟨q, rfl⟩ := Int.eq_ofNat_of_zero_le hb0
      have hq : q < 4 := by omega
      have cq := h.cComm hm hq
      have fq := (h.wr i m hm).frozen (5 + q)
      have cP := h.cParts
      rw [hon] at con
      have H9 : Hid (allPrep s.parts m = false → mCommit s n q = (9, s)) := by intro ha; unfold mCommit; rw [hf]; simp [hon, ha]
      have H10 : Hid (allPrep s.parts m = true → m.comm q = true → mCommit s n q = (10, s)) := by intro ha hcq; unfold mCommit; rw [hf]; simp [hon, ha, hcq]
      have H0 : Hid (allPrep s.parts m = true → m.comm q = false → mCommit s n q = (0, { s with ws := s.ws.set i { m with comm := put m.comm q } })) := by
        intro ha hcq; unfold mCommit; rw [hf]; simp [hon, ha, hcq, setW, hi]
      have hR := h.comm hm hq
      unfold ptr at c con ⊢
      clear hf hon
      go_enter Try.func15, Try.ntmps15
      go_wp2_with fail
      refine c.mono ?_
      rintro e w' ⟨rfl, rfl⟩
      go_wp2_with fail
      refine con.mono ?_
      rintro e w' ⟨rfl, rfl⟩
      clear c con
      go_wp2_with fail
      go_loop [9] (fun u => ∃ k : Nat, k ≤ s.parts ∧ u = .int .i64 k ∧ Hid (∀ j, j < k → onPart s.parts m.items j = true → m.prep j = true)) (fun u => s.parts - (intOf u).toNat)
      case atStart => exact ⟨0, Nat.zero_le _, rfl, fun j hj => by omega⟩
      case round =>
        obtain ⟨k, hk, rfl, HO⟩ := hrel
        by_cases hlt : k < s.parts
        · have con := on_any h hm k
          have ck := h.cPrep hm (q := k) (by omega)
          unfold ptr at con
          cases hon : onPart s.parts m.items k with
          | false =>
            have HO' : Hid (∀ j, j < k + 1 → onPart s.parts m.items j = true → m.prep j = true) := by
              intro j hj hoj
              by_cases e : j = k
              · subst e; rw [hon] at hoj; cases hoj
              · exact HO.out j (by omega) hoj
            rw [hon] at con
            clear hon
            go_wp2_with fail
            refine con.mono ?_
            rintro e w' ⟨rfl, rfl⟩
            clear con
            go_wp2_with fail
            go_round
            case rel => exact ⟨k + 1, by omega, by go_num, HO'⟩
            case measure => simp [intOf]; omega
          | true =>
            cases hpk : m.prep k with
            | true =>
              have HO' : Hid (∀ j, j < k + 1 → onPart s.parts m.items j = true → m.prep j = true) := by
                intro j hj hoj
                by_cases e : j = k
                · subst e; exact hpk
                · exact HO.out j (by omega) hoj
              rw [hon] at con
              rw [hpk] at ck
              clear hon hpk
              go_wp2_with fail
              refine con.mono ?_
              rintro e w' ⟨rfl, rfl⟩
              clear con
              go_wp2_with fail
              go_round
              case rel => exact ⟨k + 1, by omega, by go_num, HO'⟩
              case measure => simp [intOf]; omega
            | false =>
              have Hr := H9.out (allPrep_false hlt hon hpk)
              have Hr' : Hid (mCommit s n q = (9, s)) := Hr
              rw [hon] at con
              rw [hpk] at ck
              clear hon hpk Hr
              go_wp2_with fail
              refine con.mono ?_
              rintro e w' ⟨rfl, rfl⟩
              clear con
              go_wp2_with fail
              go_ret
              rw [Hr'.out]
              exact ⟨rfl, h, Stp.refl _ _ _⟩
        · have ha : allPrep s.parts m = true := allPrep_true (fun j hj => HO.out j (by omega))
          cases hcq : m.comm q with
          | true =>
            have Hr : Hid (mCommit s n q = (10, s)) := H10.out ha hcq
            rw [hcq] at cq
            clear ha hcq
            go_wp2_with fail
            go_ret
            rw [Hr.out]
            exact ⟨rfl, h, Stp.refl _ _ _⟩
          | false =>
            have Hr := H0.out ha hcq
            have Hr' : Hid (mCommit s n q = _) := Hr
            rw [hcq] at cq
            clear ha hcq Hr
            go_wp2_with fail
            go_ret
            rw [Hr'.out]
            exact ⟨rfl, hR, (Stp.refl _ _ _).setCell (by rw [h.wrTag i (lt_of_some hm)]) _⟩

end
end Go.Proofs.Ytmmhiahggnmhhaa
