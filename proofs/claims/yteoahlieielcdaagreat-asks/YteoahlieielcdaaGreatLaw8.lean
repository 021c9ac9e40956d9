/-
  The statement's own functions: step, on a store.
-/
import Derived.Test.YteoahlieielcdaaGreatLaw7
namespace Go.Proofs.YteoahlieielcdaaGreat
open Go Go.RowKit

section
variable {w : World} {τ : Nat → Tag} {wb : Nat} {c : Int} {a : LA} {M : List MS} {i : Nat} {m : MS}

set_option maxRecDepth 100000 in
set_option maxHeartbeats 8000000 in
theorem step_on (h : LW w τ wb c a M) (hM : 0 < M.length) (kd on A B : Int) (s : ByteArray) (ia : Option Addr) (L : List KV) (cap : Nat) (ka : Option Addr) (Kn : List ByteArray) (kcap : Nat) (hk1 : kd ≠ 1) (hk6 : kd ≤ 8)
    (ho : -9223372036854775808 ≤ on) (ho' : on ≤ 9223372036854775807) (hA : -9223372036854775808 ≤ A) (hA' : A ≤ 9223372036854775807) (hB : -9223372036854775808 ≤ B) (hB' : B ≤ 9223372036854775807) (hs : s.size ≤ maxLen)
    (hL : L.length ≤ 4398046511099) (hz : sizesOk L) (hI : ItemsAt w ia L) (hf : ∀ ib io, ia = some ⟨ib, io, none⟩ ∧ L ≠ [] → ib < w.heap.size ∧ (τ ib).1 = 0) (hKL : Kn.length ≤ 8796093021952) (hKz : sizesK Kn) (hKI : TextsAt w ka Kn) (hKf : ∀ ib io, ka = some ⟨ib, io, none⟩ ∧ Kn ≠ [] → ib < w.heap.size ∧ (τ ib).1 = 0) (hJ : a.J < 4398046511104) (hK : a.K < 4398046511104) (h0 : 0 ≤ c) (h1 : c ≤ 4398046511104) :
    Calls Tryz.prog 32 #[ptr wb, opVal kd on A B s (.slice ia L.length cap) (.slice ka Kn.length kcap)] w fun e w' => e = .returned (.bool true) ∧ Left1 w τ wb c a w' := by
  obtain ⟨p, hp, hpk⟩ := pickOf_nat on M.length hM
  obtain ⟨h1w, k1⟩ := box_keeps h (opCells kd on A B s (.slice ia L.length cap) (.slice ka Kn.length kcap))
  obtain ⟨g, scap, hsv, g0, g1, hgl⟩ := h1w.base.store hp
  have e0 := h1w.base.blk.cell (o := 0) (v := a.stv) rfl
  rw [hsv] at e0
  have hbx : Blk (w.alloc (opCells kd on A B s (.slice ia L.length cap) (.slice ka Kn.length kcap))) w.heap.size #[.int .i64 kd, .int .i64 on, .int .i64 A, .int .i64 B, .string s, .slice ia L.length cap, .slice ka Kn.length kcap] 86 := Blk.new _ _ _
  have b1 := hbx.cell (o := 1) rfl
  have hwl := h1w.base.blk.lt
  have hbl := hbx.lt
  have hn8 := h.base.n8
  unfold ptr opVal
  unfold opCells ptr at *
  go_enter Tryz.func32, Tryz.ntmps32
  go_upto_region 5 with (fail)
  generalize w.alloc (.cells #[.int .i64 kd, .int .i64 on, .int .i64 A, .int .i64 B, .string s, .slice ia L.length cap, .slice ka Kn.length kcap] 86) = w1 at *
  go_cut [5] (fun s5 wx => ∃ ob, s5 = .pointer (some ⟨ob, 0, none⟩) ∧ Blk wx ob #[.pointer (some ⟨a.sB p, 0, none⟩), .pointer (some ⟨a.rB p, 0, none⟩)] 127 ∧ Below w1.heap.size w1 wx ∧ w1.heap.size ≤ ob)
  case first =>
    go_region_held3 (fun W => W.cell? ⟨wb, 0, none⟩ = some (.slice (some ⟨g, 0, none⟩) M.length scap) ∧ W.cell? ⟨w.heap.size, 1, none⟩ = some (.int .i64 on) ∧ W.cell? ⟨g, p * 2, none⟩ = some (.pointer (some ⟨a.sB p, 0, none⟩)) ∧ W.cell? ⟨g, p * 2 + 1, none⟩ = some (.pointer (some ⟨a.rB p, 0, none⟩))) (first | (simp [*]; done) | (refine ⟨?_, ?_, ?_, ?_⟩ <;> (rw [World.cell?_of_block (w := w1.drew) (Below.heap_alloc w1.drew _ _ (by simp only; assumption))]; assumption)) | (go_keep; done)) ((go_at_call 57; refine (pick_any on M.length _ ho ho' (by omega) (by omega)).mono ?_; rintro e w2 ⟨rfl, rfl⟩; rw [hpk]))
    all_goals
      go_wp2_with fail
      go_meet
      case rel => exact ⟨w1.heap.size, rfl, Blk.new _ _ _, ((Below.refl _ _).alloc (Nat.le_refl _) _).drew, Nat.le_refl _⟩
  case rest =>
    obtain ⟨ob, rfl, hob, hBc, hol⟩ := hcut
    have hob1 := hob.lt
    have hobw : ob ≠ w.heap.size := by omega
    have ht2 : ∀ k, k < w1.heap.size → boxT (boxT τ w.heap.size) ob k = boxT τ w.heap.size k := fun k hk => boxT_old (by omega)
    have h2 : LW wc (boxT (boxT τ w.heap.size) ob) wb c a M := h1w.new hBc ht2
    have k2 : Kp τ w (boxT (boxT τ w.heap.size) ob) wc := k1.trans (Kp.of_below hBc ht2)
    have hbo : Blk wc w.heap.size _ 86 := hbx.of_eq (hBc.block _ hbl)
    have t1 : (boxT (boxT τ w.heap.size) ob w.heap.size).1 = 0 := by rw [boxT_old (fun e => hobw e.symm)]; exact boxT_new
    have t2 : (boxT (boxT τ w.heap.size) ob ob).1 = 0 := boxT_new
    have hm : M[p]? = some M[p] := List.getElem?_eq_getElem hp
    generalize M[p] = m at hm
    obtain ⟨As, hS⟩ := h2.st.s p m hm
    have hI2 : ItemsAt wc ia L := hI.keep (fun ib io e => k2.block ib (hf ib io e).1 (hf ib io e).2)
    have hf2 : ∀ ib io, ia = some ⟨ib, io, none⟩ ∧ L ≠ [] → ib < wc.heap.size ∧ (boxT (boxT τ w.heap.size) ob ib).1 = 0 := fun ib io e => ⟨by have := (hf ib io e).1; have := k2.size; omega, by rw [k2.tag ib (hf ib io e).1]; exact (hf ib io e).2⟩
    have hKI2 : TextsAt wc ka Kn := hKI.keep (fun ib io e => k2.block ib (hKf ib io e).1 (hKf ib io e).2)
    have hKf2 : ∀ ib io, ka = some ⟨ib, io, none⟩ ∧ Kn ≠ [] → ib < wc.heap.size ∧ (boxT (boxT τ w.heap.size) ob ib).1 = 0 := fun ib io e => ⟨by have := (hKf ib io e).1; have := k2.size; omega, by rw [k2.tag ib (hKf ib io e).1]; exact (hKf ib io e).2⟩
    generalize boxT (boxT τ w.heap.size) ob = τ2 at *
    have o0 : wc.cell? ⟨w.heap.size, 0, none⟩ = some (.int .i64 kd) := hbo.cell (o := 0) rfl
    have o2 : wc.cell? ⟨w.heap.size, 2, none⟩ = some (.int .i64 A) := hbo.cell (o := 2) rfl
    have o3 : wc.cell? ⟨w.heap.size, 3, none⟩ = some (.int .i64 B) := hbo.cell (o := 3) rfl
    have o4 : wc.cell? ⟨w.heap.size, 4, none⟩ = some (.string s) := hbo.cell (o := 4) rfl
    have x0 : wc.cell? ⟨ob, 0, none⟩ = some (.pointer (some ⟨a.sB p, 0, none⟩)) := hob.cell (o := 0) rfl
    have hrl := h.rl p m hm
    have hrw := h.rl
    have hc0 := h.c0
    clear e0 b1 g0 g1 hgl hI hf hKI hKf ht2 hbx hBc hpk k1 h1w
    by_cases q2 : kd = 2
    · subst q2
      have cp := pPart hS s hs
      unfold ptr at cp
      go_wp2_with fail
      refine cp.mono ?_
      rintro e w3 ⟨rfl, hB3⟩
      have h3 : LW w3 τ2 wb c a M := h2.new hB3 (fun _ _ => rfl)
      obtain ⟨Bs, hR⟩ := h3.st.r p m hm
      have cr := rPart hR s hs
      unfold ptr at cr
      have y1 : w3.cell? ⟨ob, 1, none⟩ = some (.pointer (some ⟨a.rB p, 0, none⟩)) := (hob.of_eq (hB3.block _ hob1)).cell (o := 1) rfl
      have y4 : w3.cell? ⟨w.heap.size, 4, none⟩ = some (.string s) := (hbo.of_eq (hB3.block _ hbo.lt)).cell (o := 4) rfl
      have hq : mPart m.parts s = (if goodKey s then partOf m.parts s else 0, if goodKey s then 0 else 4) := by
        unfold mPart; split <;> simp_all
      rw [hq] at cr
      simp only at cr
      generalize (if goodKey s then partOf m.parts s else 0) = r1 at *
      generalize (if goodKey s then (0 : Int) else 4) = r2 at *
      clear cp hq
      go_wp2_with fail
      refine cr.mono ?_
      rintro e w4 ⟨rfl, hw4⟩
      obtain rfl := hw4.symm
      clear cr
      go_wp2_with fail
      go_ret
      exact ⟨rfl, h3.left.lift (k2.trans (Kp.of_below hB3 (fun _ _ => rfl)))⟩
    · by_cases q3 : kd = 3
      · subst q3
        have cp := writes_any h2 hm 3 on A B s ia L cap (.slice ka Kn.length kcap) hL hz hI2 hf2 hJ h0 (by omega)
        unfold ptr opVal at cp
        have o1 : wc.cell? ⟨w.heap.size, 1, none⟩ = some (.int .i64 on) := hbo.cell (o := 1) rfl
        have o5 : wc.cell? ⟨w.heap.size, 5, none⟩ = some (.slice ia L.length cap) := hbo.cell (o := 5) rfl
        have o6 : wc.cell? ⟨w.heap.size, 6, none⟩ = some (.slice ka Kn.length kcap) := hbo.cell (o := 6) rfl
        have x1 : wc.cell? ⟨ob, 1, none⟩ = some (.pointer (some ⟨a.rB p, 0, none⟩)) := hob.cell (o := 1) rfl
        clear hI2 hf2 hKI2 hKf2
        go_wp2_with fail
        refine cp.mono ?_
        rintro e w3 ⟨rfl, hL3⟩
        clear cp
        go_wp2_with fail
        go_ret
        exact ⟨rfl, hL3.lift k2⟩
      · by_cases q4 : kd = 4
        · subst q4
          have cp := pPrepare hS A B hA hA' hB hB'
          unfold ptr at cp
          have cr := fun (w3 : World) (Bs : RA) (hR : RepR w3 τ2 (3 + 2 * p) (a.rB p) m Bs) => rPrepare hR A B hA hA'
          unfold ptr RPost at cr
          unfold PPost at cp
          have hrs := congrArg List.length (mPrepare_rs m A B)
          generalize mPrepare m A B = r at *
          obtain ⟨r1, m'⟩ := r
          simp only at cp cr hrs
          go_wp2_with fail
          refine cp.mono ?_
          rintro e w3 ⟨A3, rfl, hS3, hT3⟩
          clear cp
          have h3b : LBase w3 τ2 wb M.length c a := h2.base.stp hT3 (by omega)
          have h3s : LS w3 τ2 a (M.set p m') M := h2.st.stepS hT3 hS3
          have k3 := k2.trans (hT3.kp (by omega))
          have hob3 := hT3.blk hob (by rw [t2]; omega)
          have hbo3 := hT3.blk hbo (by rw [t1]; omega)
          obtain ⟨Bs, hR⟩ := h3s.r p m hm
          have cr3 := cr w3 Bs hR
          clear cr
          have y1 : w3.cell? ⟨ob, 1, none⟩ = some (.pointer (some ⟨a.rB p, 0, none⟩)) := hob3.cell (o := 1) rfl
          have y2 : w3.cell? ⟨w.heap.size, 2, none⟩ = some (.int .i64 A) := hbo3.cell (o := 2) rfl
          have y3 : w3.cell? ⟨w.heap.size, 3, none⟩ = some (.int .i64 B) := hbo3.cell (o := 3) rfl
          go_wp2_with fail
          refine cr3.mono ?_
          rintro e w4 ⟨rfl, hR4, hT4⟩
          clear cr3
          go_wp2_with fail
          go_ret
          exact ⟨rfl, τ2, a, M.set p m', c, ⟨by rw [List.length_set]; exact h3b.stp hT4 (by omega), h3s.stepR hT4 hR4, rl_set hrw (Int.le_refl _) (by omega), hc0⟩, by omega, by omega, by omega, by omega, k3.trans (hT4.kp (by omega))⟩
        · by_cases q5 : kd = 5
          · subst q5
            have cp := pCommit hS A B hA hA' hB hB'
            unfold ptr at cp
            have cr := fun (w3 : World) (Bs : RA) (hR : RepR w3 τ2 (3 + 2 * p) (a.rB p) m Bs) => rCommit hR A B hA hA'
            unfold ptr RPost at cr
            unfold PPost at cp
            have hrs := congrArg List.length (mCommit_rs m A B)
            generalize mCommit m A B = r at *
            obtain ⟨r1, m'⟩ := r
            simp only at cp cr hrs
            go_wp2_with fail
            refine cp.mono ?_
            rintro e w3 ⟨A3, rfl, hS3, hT3⟩
            clear cp
            have h3b : LBase w3 τ2 wb M.length c a := h2.base.stp hT3 (by omega)
            have h3s : LS w3 τ2 a (M.set p m') M := h2.st.stepS hT3 hS3
            have k3 := k2.trans (hT3.kp (by omega))
            have hob3 := hT3.blk hob (by rw [t2]; omega)
            have hbo3 := hT3.blk hbo (by rw [t1]; omega)
            obtain ⟨Bs, hR⟩ := h3s.r p m hm
            have cr3 := cr w3 Bs hR
            clear cr
            have y1 : w3.cell? ⟨ob, 1, none⟩ = some (.pointer (some ⟨a.rB p, 0, none⟩)) := hob3.cell (o := 1) rfl
            have y2 : w3.cell? ⟨w.heap.size, 2, none⟩ = some (.int .i64 A) := hbo3.cell (o := 2) rfl
            have y3 : w3.cell? ⟨w.heap.size, 3, none⟩ = some (.int .i64 B) := hbo3.cell (o := 3) rfl
            go_wp2_with fail
            refine cr3.mono ?_
            rintro e w4 ⟨rfl, hR4, hT4⟩
            clear cr3
            go_wp2_with fail
            go_ret
            exact ⟨rfl, τ2, a, M.set p m', c, ⟨by rw [List.length_set]; exact h3b.stp hT4 (by omega), h3s.stepR hT4 hR4, rl_set hrw (Int.le_refl _) (by omega), hc0⟩, by omega, by omega, by omega, by omega, k3.trans (hT4.kp (by omega))⟩
          · by_cases q6 : kd = 6
            · subst q6
              have cp := pCancel hS A hA hA'
              unfold ptr at cp
              have cr := fun (w3 : World) (Bs : RA) (hR : RepR w3 τ2 (3 + 2 * p) (a.rB p) m Bs) => rCancel hR A hA hA'
              unfold ptr RPost at cr
              unfold PPost at cp
              have hrs := congrArg List.length (mCancel_rs m A)
              generalize mCancel m A = r at *
              obtain ⟨r1, m'⟩ := r
              simp only at cp cr hrs
              go_wp2_with fail
              refine cp.mono ?_
              rintro e w3 ⟨A3, rfl, hS3, hT3⟩
              clear cp
              have h3b : LBase w3 τ2 wb M.length c a := h2.base.stp hT3 (by omega)
              have h3s : LS w3 τ2 a (M.set p m') M := h2.st.stepS hT3 hS3
              have k3 := k2.trans (hT3.kp (by omega))
              have hob3 := hT3.blk hob (by rw [t2]; omega)
              have hbo3 := hT3.blk hbo (by rw [t1]; omega)
              obtain ⟨Bs, hR⟩ := h3s.r p m hm
              have cr3 := cr w3 Bs hR
              clear cr
              have y1 : w3.cell? ⟨ob, 1, none⟩ = some (.pointer (some ⟨a.rB p, 0, none⟩)) := hob3.cell (o := 1) rfl
              have y2 : w3.cell? ⟨w.heap.size, 2, none⟩ = some (.int .i64 A) := hbo3.cell (o := 2) rfl
              go_wp2_with fail
              refine cr3.mono ?_
              rintro e w4 ⟨rfl, hR4, hT4⟩
              clear cr3
              go_wp2_with fail
              go_ret
              exact ⟨rfl, τ2, a, M.set p m', c, ⟨by rw [List.length_set]; exact h3b.stp hT4 (by omega), h3s.stepR hT4 hR4, rl_set hrw (Int.le_refl _) (by omega), hc0⟩, by omega, by omega, by omega, by omega, k3.trans (hT4.kp (by omega))⟩
            · by_cases q7 : kd = 7
              · subst q7
                have cp := reads_any h2 hm 7 on A B s (.slice ia L.length cap) ka Kn kcap hKL hKz hKI2 hKf2 hK h0 h1
                unfold ptr opVal at cp
                have o1 : wc.cell? ⟨w.heap.size, 1, none⟩ = some (.int .i64 on) := hbo.cell (o := 1) rfl
                have o5 : wc.cell? ⟨w.heap.size, 5, none⟩ = some (.slice ia L.length cap) := hbo.cell (o := 5) rfl
                have o6 : wc.cell? ⟨w.heap.size, 6, none⟩ = some (.slice ka Kn.length kcap) := hbo.cell (o := 6) rfl
                have x1 : wc.cell? ⟨ob, 1, none⟩ = some (.pointer (some ⟨a.rB p, 0, none⟩)) := hob.cell (o := 1) rfl
                clear hI2 hf2 hKI2 hKf2
                go_wp2_with fail
                refine cp.mono ?_
                rintro e w3 ⟨rfl, hL3⟩
                clear cp
                go_wp2_with fail
                go_ret
                exact ⟨rfl, hL3.lift k2⟩
              · by_cases q8 : kd = 8
                · subst q8
                  have cp := pAsk hS A s hs hA hA'
                  unfold ptr at cp
                  have cr := fun (w3 : World) (Bs : RA) (hR : RepR w3 τ2 (3 + 2 * p) (a.rB p) m Bs) => rAsk hR A s hA hA'
                  unfold ptr RPost at cr
                  unfold PPost at cp
                  have hrs := mAsk_rs m A s
                  generalize mAsk m A s = r at *
                  obtain ⟨r1, m'⟩ := r
                  simp only at cp cr hrs
                  clear hI2 hf2 hKI2 hKf2
                  go_wp2_with fail
                  refine cp.mono ?_
                  rintro e w3 ⟨A3, rfl, hS3, hT3⟩
                  clear cp
                  have h3b : LBase w3 τ2 wb M.length c a := h2.base.stp hT3 (by omega)
                  have h3s : LS w3 τ2 a (M.set p m') M := h2.st.stepS hT3 hS3
                  have k3 := k2.trans (hT3.kp (by omega))
                  have hob3 := hT3.blk hob (by rw [t2]; omega)
                  have hbo3 := hT3.blk hbo (by rw [t1]; omega)
                  obtain ⟨Bs, hR⟩ := h3s.r p m hm
                  have cr3 := cr w3 Bs hR
                  clear cr
                  have y1 : w3.cell? ⟨ob, 1, none⟩ = some (.pointer (some ⟨a.rB p, 0, none⟩)) := hob3.cell (o := 1) rfl
                  have y2 : w3.cell? ⟨w.heap.size, 2, none⟩ = some (.int .i64 A) := hbo3.cell (o := 2) rfl
                  have y4 : w3.cell? ⟨w.heap.size, 4, none⟩ = some (.string s) := hbo3.cell (o := 4) rfl
                  go_wp2_with fail
                  refine cr3.mono ?_
                  rintro e w4 ⟨rfl, hR4, hT4⟩
                  clear cr3
                  go_wp2_with fail
                  go_ret
                  exact ⟨rfl, τ2, a, M.set p m', c, ⟨by rw [List.length_set]; exact h3b.stp hT4 (by omega), h3s.stepR hT4 hR4, rl_set hrw (Int.le_refl _) (by omega), hc0⟩, by omega, by omega, by omega, by omega, k3.trans (hT4.kp (by omega))⟩
                · have n9 : ¬ kd = 9 := by omega
                  clear hI2 hf2 hKI2 hKf2
                  go_wp2_with fail
                  go_ret
                  exact ⟨rfl, h2.left.lift k2⟩

end
end Go.Proofs.YteoahlieielcdaaGreat
