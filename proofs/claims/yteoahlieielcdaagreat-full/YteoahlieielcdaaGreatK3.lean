/-
  The statement Full: the walk.
-/
import Derived.Test.YteoahlieielcdaaGreatK2
namespace Go.Proofs.YteoahlieielcdaaGreat
open Go Go.RowKit Go.MuLone

theorem two_texts {w : World} (x y : ByteArray) : TextsAt (w.alloc (.cells #[.string x, .string y] 9)) (some ⟨w.heap.size, 0, none⟩) [x, y] := by
  intro k z hz
  match k, hz with
  | 0, hz =>
    simp at hz; subst hz
    exact ⟨w.heap.size, 0, rfl, (Blk.new w _ _).cell (o := 0) rfl⟩
  | 1, hz =>
    simp at hz; subst hz
    exact ⟨w.heap.size, 0, rfl, (Blk.new w _ _).cell (o := 1) rfl⟩

section
variable {w : World}

set_option maxRecDepth 100000 in
set_option maxHeartbeats 16000000 in
theorem full_any (cancel which : Int) (h3 : -9223372036854775808 ≤ which) (h4 : which ≤ 9223372036854775807) :
    Calls Tryz.prog 12 #[.int .i64 cancel, .int .i64 which] w fun e w' => e = .returned (.bool true) ∧ Below w.heap.size w w' := by
  have hE : Env w w (fun _ => (0, 0, 0)) := ⟨Below.refl _ _, fun _ _ => rfl⟩
  have c1 := empty_any hE 0 0 (by decide) (by decide) (by decide) (by decide)
  have e1 : newMS (1 + pickOf 0 4).toNat (1 + pickOf 0 3) = newMS 1 1 := rfl
  rw [e1] at c1
  unfold ptr at c1
  clear hE e1
  go_enter Tryz.func12, Tryz.ntmps12
  go_wp2_with fail
  refine c1.mono ?_
  rintro e wa ⟨τa, sb, A, rfl, hS, hEa⟩
  clear c1
  go_wp2_with fail
  go_loopw [6] (fun u wr => ∃ (k : Nat) (s : MS) (τ : Nat → Tag) (A : SA), 1 ≤ k ∧ k ≤ 201 ∧ u = .int .i64 k ∧ Hid (RepS wr τ 2 sb s A) ∧ Hid (Env w wr τ) ∧ Hid (FullI s k)) (fun u _ => 201 - (intOf u).toNat)
  case atStart => exact ⟨1, _, τa, A, by omega, by omega, rfl, hS, hEa, ⟨rfl, rfl, rfl, fun i m hm => by simp [newMS] at hm⟩⟩
  case round =>
    obtain ⟨k, s, τ, A, hk1, hk2, rfl, HR, HE, HF⟩ := hrel
    by_cases hlt : k ≤ 200
    · have c2 := pWrite (HR.out.box (.cells #[.string kA, .string kE] 70)) (some ⟨wr.heap.size, 0, none⟩) 1 (L := [(kA, kE)]) (by decide) (by decide) (by decide) (fun x hx => by simp at hx; subst hx; decide) (one_item (kA, kE)) (fun ib io e => by cases e; rw [retag_self]; decide)
      have HE2 : Hid (Env w (wr.alloc (.cells #[.string kA, .string kE] 70)) (retag τ wr.heap.size)) := HE.out.alloc _
      rw [full_write HF.out hlt] at c2
      unfold ptr at c2
      have kA_eq : kA = ⟨#[97]⟩ := rfl
      have kE_eq : kE = ⟨#[]⟩ := rfl
      rw [show (.cells #[.string kA, .string kE] 70 : Obj) = .cells #[.string ⟨#[97]⟩, .string ⟨#[]⟩] 70 from rfl] at c2 HE2
      clear kA_eq kE_eq
      go_wp2_with fail
      refine c2.mono ?_
      rintro e wb ⟨τb, B, rfl, hRb, hPb⟩
      clear c2
      have HRb : Hid _ := hRb
      have HEb : Hid (Env w wb τb) := HE2.out.stp hPb (by decide)
      clear hRb hPb HE2
      have cp := pickK_any (wrap64 (cancel + k)) 7 wb (by unfold wrap64; omega) (by unfold wrap64; omega) (by omega) (by omega)
      go_wp2_with fail
      refine cp.mono ?_
      rintro e wc ⟨rfl, rfl⟩
      clear cp
      generalize pickOf (wrap64 (cancel + k)) 7 = pv at *
      by_cases hp0 : pv = 0
      · subst hp0
        have c3 := pCancel HRb.out k (by omega) (by omega)
        rw [full_cancel HF.out] at c3
        unfold ptr at c3
        go_wp2_with fail
        refine c3.mono ?_
        rintro e wd ⟨D, rfl, hRd, hPd⟩
        clear c3
        have HRd : Hid _ := hRd
        have HEd : Hid (Env w wd τb) := HEb.out.stp hPd (by decide)
        have HFd : Hid _ := full_canc HF.out
        clear hRd hPd
        go_wp2_with fail
        go_roundw
        case rel => exact ⟨k + 1, _, τb, D, by omega, by omega, by go_num, HRd, HEd, HFd⟩
        case measure => simp [intOf]; omega
      · have hpb : (pv == 0) = false := beq_eq_false_iff_ne.2 hp0
        have HFd : Hid _ := full_push HF.out
        clear hp0
        go_wp2_with fail
        go_roundw
        case rel => exact ⟨k + 1, _, τb, B, by omega, by omega, by go_num, HRb, HEb, HFd⟩
        case measure => simp [intOf]; omega
    · have hk : k = 201 := by omega
      subst hk
      have c2 := pWrite (HR.out.box (.cells #[.string kA, .string kE] 70)) (some ⟨wr.heap.size, 0, none⟩) 1 (L := [(kA, kE)]) (by decide) (by decide) (by decide) (fun x hx => by simp at hx; subst hx; decide) (one_item (kA, kE)) (fun ib io e => by cases e; rw [retag_self]; decide)
      have HE2 : Hid (Env w (wr.alloc (.cells #[.string kA, .string kE] 70)) (retag τ wr.heap.size)) := HE.out.alloc _
      rw [full_full HF.out] at c2
      unfold ptr at c2
      rw [show (.cells #[.string kA, .string kE] 70 : Obj) = .cells #[.string ⟨#[97]⟩, .string ⟨#[]⟩] 70 from rfl] at c2 HE2
      go_wp2_with fail
      refine c2.mono ?_
      rintro e wb ⟨τb, B, rfl, hRb, hPb⟩
      clear c2
      have HRb : Hid _ := hRb
      have HEb : Hid (Env w wb τb) := HE2.out.stp hPb (by decide)
      have HFb : Hid (FullR s 0) := ⟨by rw [HF.out.rs]; rfl, HF.out.mode, HF.out.nc⟩
      clear hRb hPb HE2 HR HE HF hS hEa
      go_wp2_with fail
      go_loopw [12] (fun u wr => ∃ (k : Nat) (s : MS) (τ : Nat → Tag) (A : SA), k ≤ 50 ∧ u = .int .i64 ((k : Int) + 1) ∧ Hid (RepS wr τ 2 sb s A) ∧ Hid (Env w wr τ) ∧ Hid (FullR s k)) (fun u _ => 51 - (intOf u).toNat)
      case atStart => exact ⟨0, _, τb, B, by omega, rfl, HRb, HEb, HFb⟩
      case round =>
        rename World => wr2
        obtain ⟨k, s, τ, A, hk2, rfl, HR, HE, HF⟩ := hrel
        by_cases hlt : k < 50
        · have c2 := pRead (HR.out.box (.cells #[.string kA, .string kB] 9)) (some ⟨wr2.heap.size, 0, none⟩) 2 (L := [kA, kB]) (by decide) (by decide) (by decide) (fun x hx => by simp at hx; rcases hx with rfl | rfl <;> decide) (two_texts kA kB) (fun ib io e => by cases e; rw [retag_self]; decide) (by rw [HF.out.rs, List.length_replicate]; omega)
          have HE2 : Hid (Env w (wr2.alloc (.cells #[.string kA, .string kB] 9)) (retag τ wr2.heap.size)) := HE.out.alloc _
          rw [full_read HF.out hlt] at c2
          unfold ptr at c2
          rw [show (.cells #[.string kA, .string kB] 9 : Obj) = .cells #[.string ⟨#[97]⟩, .string ⟨#[98]⟩] 9 from rfl] at c2 HE2
          go_wp2_with fail
          refine c2.mono ?_
          rintro e wc ⟨τc, C, rfl, hRc, hPc⟩
          clear c2
          have HRc : Hid _ := hRc
          have HEc : Hid (Env w wc τc) := HE2.out.stp hPc (by decide)
          have HFc : Hid _ := full_readS HF.out
          clear hRc hPc HE2
          go_wp2_with fail
          go_roundw
          case rel => exact ⟨k + 1, _, τc, C, by omega, by go_num, HRc, HEc, HFc⟩
          case measure => simp [intOf]; omega
        · have hk : k = 50 := by omega
          subst hk
          have HO : Hid (openReads s.rs = 50) := by unfold Hid; rw [HF.out.rs, openReads_rep]
          have HL : Hid (s.rs.length = 50) := by unfold Hid; rw [HF.out.rs, List.length_replicate]
          have cwdr := pRead (HR.out.box (.cells #[.string kA] 9)) (some ⟨wr2.heap.size, 0, none⟩) 1 (L := [kA]) (by decide) (by decide) (by decide) (fun x hx => by simp at hx; subst hx; decide) (one_text kA) (fun ib io e => by cases e; rw [retag_self]; decide) (by rw [HL.out]; decide)
          have HEwdr : Hid (Env w (wr2.alloc (.cells #[.string kA] 9)) (retag τ wr2.heap.size)) := HE.out.alloc _
          rw [full_readF HO.out] at cwdr
          unfold ptr at cwdr
          rw [show (.cells #[.string kA] 9 : Obj) = .cells #[.string ⟨#[97]⟩] 9 from rfl] at cwdr HEwdr
          go_wp2_with fail
          refine cwdr.mono ?_
          rintro e wd ⟨τwd, Bwd, rfl, hRwd, hPwd⟩
          clear cwdr
          have HRwd : Hid _ := hRwd
          have HEwd : Hid (Env w wd τwd) := HEwdr.out.stp hPwd (by decide)
          clear hRwd hPwd HEwdr
          have cp := pickK_any which 50 wd h3 h4 (by omega) (by omega)
          obtain ⟨K, hK, hKp⟩ := pickK_nat which 50 (by omega)
          rw [show ((50 : Nat) : Int) = 50 from rfl] at hKp
          rw [hKp] at cp
          clear hKp
          go_wp2_with fail
          refine cp.mono ?_
          rintro e we ⟨rfl, rfl⟩
          clear cp
          have c5 := pAsk HRwd.out ((K : Int) + 1) kB (by decide) (by omega) (by omega)
          rw [full_ask1 HF.out hK] at c5
          unfold ptr at c5
          rw [show kB = (⟨#[98]⟩ : ByteArray) from rfl] at c5
          have hcomm : (1 : Int) + (K : Int) = (K : Int) + 1 := by omega
          go_wp2_with fail
          refine c5.mono ?_
          rintro e wf ⟨Bwf, rfl, hRwf, hPwf⟩
          clear c5
          have HRwf : Hid _ := hRwf
          have HEwf : Hid (Env w wf τwd) := HEwd.out.stp hPwf (by decide)
          clear hRwf hPwf
          have c6 := pAsk HRwf.out ((K : Int) + 1) kA (by decide) (by omega) (by omega)
          rw [full_ask2 HF.out hK] at c6
          unfold ptr at c6
          rw [show kA = (⟨#[97]⟩ : ByteArray) from rfl] at c6
          go_wp2_with fail
          refine c6.mono ?_
          rintro e wg ⟨Bwg, rfl, hRwg, hPwg⟩
          clear c6
          have HRwg : Hid _ := hRwg
          have HEwg : Hid (Env w wg τwd) := HEwf.out.stp hPwg (by decide)
          clear hRwg hPwg
          have c7 := pFinish_lone HRwg.out ((K : Int) + 1) (by omega) (by omega) fr2 (full_find2 HF.out hK) rfl 0 (fun j x hx => rfl) (Or.inl rfl)
          rw [show ((K : Int) + 1 - 1).toNat = K from by omega, show fr2.keys.length = 2 from rfl] at c7
          unfold ptr at c7
          go_wp2_with fail
          refine c7.mono ?_
          rintro e wh ⟨ab, C, rfl, hC, hCs, hA, hab, hRwh, hPwh⟩
          clear c7 hC hCs hA hab
          have HRwh : Hid _ := hRwh
          have HEwh : Hid (Env w wh τwd) := HEwg.out.stp hPwh (by decide)
          clear hRwh hPwh
          obtain ⟨f1, f2⟩ := full_fin HF.out hK
          obtain ⟨f3, f4⟩ := full_again f1 f2
          have F3 : Hid _ := f3
          have F4 : Hid _ := f4
          have F2 : Hid _ := f2
          clear f1 f2 f3 f4
          have cwir := pRead (HRwh.out.box (.cells #[.string kA] 9)) (some ⟨wh.heap.size, 0, none⟩) 1 (L := [kA]) (by decide) (by decide) (by decide) (fun x hx => by simp at hx; subst hx; decide) (one_text kA) (fun ib io e => by cases e; rw [retag_self]; decide) (by rw [F2.out]; decide)
          have HEwir : Hid (Env w (wh.alloc (.cells #[.string kA] 9)) (retag τwd wh.heap.size)) := HEwh.out.alloc _
          rw [F3.out] at cwir
          unfold ptr at cwir
          rw [show (.cells #[.string kA] 9 : Obj) = .cells #[.string ⟨#[97]⟩] 9 from rfl] at cwir HEwir
          go_wp2_with fail
          refine cwir.mono ?_
          rintro e wi ⟨τwi, Bwi, rfl, hRwi, hPwi⟩
          clear cwir
          have HRwi : Hid _ := hRwi
          have HEwi : Hid (Env w wi τwi) := HEwir.out.stp hPwi (by decide)
          clear hRwi hPwi HEwir
          have cwjr := pRead (HRwi.out.box (.cells #[.string kA] 9)) (some ⟨wi.heap.size, 0, none⟩) 1 (L := [kA]) (by decide) (by decide) (by decide) (fun x hx => by simp at hx; subst hx; decide) (one_text kA) (fun ib io e => by cases e; rw [retag_self]; decide) (by show (_ ++ _ : List MR).length < _; rw [List.length_append, F2.out]; decide)
          have HEwjr : Hid (Env w (wi.alloc (.cells #[.string kA] 9)) (retag τwi wi.heap.size)) := HEwi.out.alloc _
          rw [full_readF F4.out] at cwjr
          unfold ptr at cwjr
          rw [show (.cells #[.string kA] 9 : Obj) = .cells #[.string ⟨#[97]⟩] 9 from rfl] at cwjr HEwjr
          go_wp2_with fail
          refine cwjr.mono ?_
          rintro e wj ⟨τwj, Bwj, rfl, hRwj, hPwj⟩
          clear cwjr
          have HRwj : Hid _ := hRwj
          have HEwj : Hid (Env w wj τwj) := HEwjr.out.stp hPwj (by decide)
          clear hRwj hPwj HEwjr
          go_wp2_with fail
          go_ret
          exact ⟨rfl, HEwj.out.below⟩

end
end Go.Proofs.YteoahlieielcdaaGreat
