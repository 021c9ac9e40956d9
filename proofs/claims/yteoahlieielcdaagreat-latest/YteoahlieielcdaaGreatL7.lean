/-
  The statement Latest: the walk.
-/
import Derived.Test.YteoahlieielcdaaGreatL6
import Derived.Test.YteoahlieielcdaaGreatK7
namespace Go.Proofs.YteoahlieielcdaaGreat
open Go Go.RowKit Go.MuLone

theorem infoKPtr : (Tryz.prog.info? 45).map (fun i => (i.zero, i.size, i.bytes)) = some (some (.pointer none), 1, 8) := by kernel_rfl

section
variable {w : World}

set_option maxRecDepth 100000 in
set_option maxHeartbeats 40000000 in
theorem latest_any (oa : Option Addr) (ocap : Nat) (O : List Int) (hO : ∀ (j : Nat) (z : Int), O[j]? = some z → ∃ ob oo, oa = some ⟨ob, oo, none⟩ ∧ ob < w.heap.size ∧ w.cell? ⟨ob, oo + j, none⟩ = some (.int .i64 z) ∧ -9223372036854775808 ≤ z ∧ z ≤ 9223372036854775807)
    (parts mode : Int) (h3 : -9223372036854775808 ≤ parts) (h4 : parts ≤ 9223372036854775807) (h5 : -9223372036854775808 ≤ mode) (h6 : mode ≤ 9223372036854775807) :
    Calls Tryz.prog 9 #[.slice oa O.length ocap, .int .i64 parts, .int .i64 mode] w fun e w' => e = .returned (.bool true) ∧ Below w.heap.size w w' := by
  obtain ⟨p0, hp0, hpp⟩ := pickQ_nat parts 4 (by omega)
  rw [show ((4 : Nat) : Int) = 4 from rfl] at hpp
  have hE : Env w w (fun _ => (0, 0, 0)) := ⟨Below.refl _ _, fun _ _ => rfl⟩
  have c3 := empty_any hE parts mode h3 h4 h5 h6
  rw [hpp, show (1 + (p0 : Int)).toNat = p0 + 1 from by omega] at c3
  generalize 1 + pickOf mode 3 = M at c3
  obtain ⟨q1, q2⟩ := partOf_bd ((p0 + 1 : Nat) : Int) kK (by omega)
  obtain ⟨p, hp⟩ : ∃ p : Nat, partOf ((p0 + 1 : Nat) : Int) kK = p := ⟨(partOf ((p0 + 1 : Nat) : Int) kK).toNat, by omega⟩
  have hp4 : p < 4 := by omega
  have HP : Hid (partOf ((p0 + 1 : Nat) : Int) kK = p) := hp
  have HO : Hid (∀ (j : Nat) (z : Int), O[j]? = some z → ∃ ob oo, oa = some ⟨ob, oo, none⟩ ∧ ob < w.heap.size ∧ w.cell? ⟨ob, oo + j, none⟩ = some (.int .i64 z) ∧ -9223372036854775808 ≤ z ∧ z ≤ 9223372036854775807) := hO
  unfold ptr at c3
  clear hE q1 q2 hp hO h3 h4 h5 h6 hpp
  go_enter Tryz.func9, Tryz.ntmps9
  go_wp2_with fail
  refine c3.mono ?_
  rintro e wa ⟨τa, sb, A, rfl, hS, hEa⟩
  clear c3
  have HM0 : Hid (LatM w (wa.alloc (.cells #[ptr sb, nilSlice, nilSlice] 32)) (fun q => if q = wa.heap.size then (1, 21, 0) else τa q) sb wa.heap.size (latS (p0 + 1) M p (fun _ => false) 0 []) A nilSlice (fun _ => 0) (fun _ => nilSlice) p (fun _ => false) 0) := by
    have ht : ∀ q, q < wa.heap.size → (if q = wa.heap.size then ((1, 21, 0) : Tag) else τa q) = τa q := fun q hq => by rw [if_neg (by omega)]
    have hsz := hEa.below.size
    refine ⟨hS.frame (fun q hq _ => ⟨Below.heap_alloc _ _ _ hq, ht q hq⟩), ⟨hEa.below.alloc hsz _, fun q hq => by rw [ht q (by omega)]; exact hEa.tag0 q hq⟩, Blk.new _ _ _, by simp, World.ownsRow_nil _ _ _ _, (fun q hq => by cases hq), (fun j hj => by omega), (fun j hj => by omega)⟩
  unfold ptr nilSlice at HM0
  clear hS hEa
  obtain ⟨si, hsi, sz0, sz1, sz2⟩ := info_parts infoStr2
  obtain ⟨pi, hpi, pz0, pz1, pz2⟩ := info_parts infoKPtr
  go_wp2_with fail
  generalize hxb : wa.heap.size = xb at *
  generalize wa.alloc (.cells #[.pointer (some ⟨sb, 0, none⟩), .slice none 0 0, .slice none 0 0] 32) = wx at *
  generalize (fun q => if q = xb then ((1, 21, 0) : Tag) else τa q) = τx at *
  clear hxb
  go_loopw [9] (fun u wr => ∃ (k : Nat) (τ : Nat → Tag) (A' : SA) (wv : Value) (kb : Nat → Nat) (kv : Nat → Value), k ≤ 8 ∧ u = .int .i64 k ∧ Hid (LatM w wr τ sb xb (latS (p0 + 1) M p (fun _ => false) k []) A' wv kb kv p (fun _ => false) k)) (fun u _ => 8 - (intOf u).toNat)
  case atStart => exact ⟨0, τx, A, _, _, _, by omega, rfl, HM0⟩
  case round =>
    obtain ⟨k, τ, A1, wv, kb, kv, hk, rfl, HM⟩ := hrel
    by_cases hlt : k < 8
    · obtain ⟨l1, l2, l3, l4⟩ := latL_ok k hlt
      have HL1 : Hid _ := l1
      have HL2 : Hid _ := l2
      have ck := keys_any (w := wr) (1 + k * 7 % 63)
      have hw1 : (k : Int) * 7 ≤ 9223372036854775807 := by omega
      clear l1 l2
      rw [show ((1 + k * 7 % 63 : Nat) : Int) = 1 + (k : Int) * 7 % 63 from by omega] at ck
      have hlk : (latL k).length = (keysOf (1 + k * 7 % 63)).length + 1 := by simp [latL]
      have HLC : Hid ((latL k).map Value.string = (keysOf (1 + k * 7 % 63)).map Value.string ++ [.string ⟨#[107]⟩]) := by unfold Hid latL; rw [List.map_append]; rfl
      go_wp2_with fail
      refine ck.mono ?_
      rintro e wk ⟨kvl, rfl, hrow, hBk⟩
      clear ck
      have hkl6 : (keysOf (1 + k * 7 % 63)).length ≤ 7 := by omega
      obtain ⟨av, capv, hv⟩ := row_len hrow
      have hszk := hBk.size
      generalize (keysOf (1 + k * 7 % 63)).map Value.string = xs at *
      generalize (keysOf (1 + k * 7 % 63)).length = nk at *
      subst hv
      have HFt : Hid (∀ q, wr.heap.size ≤ q → fresh τ wr.heap.size q = (0, 0, 0)) := fun q hq => by unfold fresh; rw [if_pos hq]
      go_wp2_with (at_builtin; refine wpList_append_own_at _ rfl (.tmp 46) (.tmp 47) 38 rfl wr.heap.size 9 si _ 1 16 Tryz.underlying38 hsi sz0 sz1 sz2 rfl (by decide) (.slice av nk capv) nk xs rfl (hrow.alloc _) ⟨_, 0, none⟩ 1 1 [.string ⟨#[107]⟩] rfl rfl (cell_one_new _ _ _) (by simp [Value.oneCell']) (by unfold maxLen; omega) (by omega) (by simp; omega) ?_; intro v2 w2 hO2 hG2 hN2 hA2)
      have hB2 : Below wr.heap.size wr w2 := (hBk.alloc hszk _).grown hG2 (by simp; omega) (fun q e => (row_ge hrow q e).1)
      have HM2 : Hid _ := HM.out.fresh hB2
      rw [← HLC.out, ← hlk] at hO2
      obtain ⟨kg, kcap, hv2, hkc1, hkc2, hkcell, -⟩ := row_form hO2 (by omega)
      have hkgl : kg < w2.heap.size := (row_ge hO2 kg (by rw [hv2]; rfl)).2
      have hkgw : wr.heap.size ≤ kg := (row_ge hO2 kg (by rw [hv2]; rfl)).1
      subst hv2
      have hkc : ∀ (j : Nat) (x : ByteArray), (latL k)[j]? = some x → w2.cell? ⟨kg, j, none⟩ = some (.string x) := fun j x hx => by
        have hj := lt_of_some hx
        rw [hkcell j (by omega), List.getElem?_map, hx]; rfl
      have cw := write_any HM2.out.rep kg kcap (L := latL k) l3 l4 HL1.out HL2.out hkc hkgl (by rw [HFt.out kg hkgw]) (by rw [lat_len]; omega)
      rw [lat_len, show (latS (p0 + 1) M p (fun _ => false) k []).parts = p0 + 1 from rfl, lat_write rfl, show ((2 * k : Nat) : Int) + 2 = ((2 * k + 2 : Nat) : Int) from by omega] at cw
      unfold ptr at cw
      obtain ⟨nn, hnn⟩ : ∃ nn, 2 * k + 2 = nn := ⟨_, rfl⟩
      rw [hnn] at cw
      have hn0 : ((nn : Int) == 0) = false := by simp; omega
      generalize latL k = Lk at *
      clear hO2 hG2 hN2 hA2 HLC HL1 HL2 hB2 hrow hBk hkcell hkc HM
      go_wp2_with fail
      refine cw.mono ?_
      rintro e w3 ⟨τ3, A3, rfl, hR3, hP3⟩
      clear cw
      have HM3 : Hid _ := HM2.out.step hR3 hP3
      clear hR3 hP3 HM2
      have y1 : w3.cell? ⟨xb, 1, none⟩ = some wv := HM3.out.x.cell (o := 1) rfl
      have f1 := HM3.out.x.frozen 1
      have hrowk := HM3.out.row
      obtain ⟨bv, cv, hbv⟩ := row_len hrowk
      have hxl3 := HM3.out.x.lt
      have hszw := HM3.out.env.below.size
      have HG : Hid (∀ (w4 : World) (v4 : Value) (o : Obj), ((w3.alloc (.cells #[.int .i64 nn, .slice (some ⟨kg, 0, none⟩) (nk + 1) kcap, .bool false, .bool false, .bool false, .bool false] 48)).alloc o).grownBy w4 (Value.slice bv k cv).ownBlock → w4.ownsRow w.heap.size 45 1 v4 (k + 1) ((List.range k).map (fun j => ptr (kb j)) ++ [ptr w3.heap.size]) → (v4.ownBlock = (Value.slice bv k cv).ownBlock ∨ v4.ownBlock = some (w3.heap.size + 2)) →
          w4.cell? ⟨xb, 1, none⟩ = some (.slice bv k cv) ∧ w4.frozen? ⟨xb, 1, none⟩ = false ∧ ∃ τ' kb' kv', LatM w (w4.setCell ⟨xb, 1, none⟩ v4) τ' sb xb (latS (p0 + 1) M p (fun _ => false) (k + 1) []) A3 v4 kb' kv' p (fun _ => false) (k + 1)) := fun w4 v4 o a1 a2 a3 => by
        have hm := HM3.out
        rw [hbv] at hm
        have hx4 : Blk w4 xb _ _ := hm.x.of_eq ((a1.block xb (by have := hm.x.lt; simp; omega) (fun e => by have := hm.rowTag xb e.symm; rw [hm.xTag] at this; cases this)).trans ((Below.heap_alloc _ _ _ (by have := hm.x.lt; simp; omega)).trans (Below.heap_alloc _ _ _ hm.x.lt)))
        rw [← hnn] at a1
        exact ⟨hx4.cell (o := 1) rfl, hx4.frozen 1, _, _, _, hm.push rfl _ a1 a2 a3⟩
      subst hbv
      go_wp2_with (at_builtin; refine wpList_append_own_at _ rfl (.tmp 58) (.tmp 63) 29 rfl w.heap.size 45 pi _ 1 8 Tryz.underlying29 hpi pz0 pz1 pz2 rfl (by decide) (.slice bv k cv) k _ rfl ((hrowk.alloc _).alloc _) ⟨_, 0, none⟩ 1 1 [.pointer (some ⟨w3.heap.size, 0, none⟩)] rfl rfl (by first | exact cell_one_new _ _ _ | (simpa using cell_one_new (w3.alloc _) (.pointer (some ⟨w3.heap.size, 0, none⟩)) 45)) (by simp [Value.oneCell']) (by unfold maxLen; omega) (by omega) (by simp; omega) ?_; intro v4 w4 hO4 hG4 hN4 hA4; clear hN4; obtain ⟨b4, d4, hv4⟩ := row_len hO4; subst hv4; obtain ⟨y4, f4, hL4⟩ := HG.out w4 _ _ hG4 hO4 (by simpa using hA4); clear hG4 hO4 hA4)
      have HL4 : Hid _ := hL4
      clear hL4 y4 f4 HG HM3 hrowk y1 f1
      go_roundw
      case rel =>
        obtain ⟨τ', kb', kv', h⟩ := HL4.out
        exact ⟨k + 1, τ', A3, _, kb', kv', by omega, by go_num, h⟩
      case measure => simp [intOf]; omega
    · have hk8 : k = 8 := by omega
      subst hk8
      clear HM0
      go_wp2_with fail
      go_loopw [12, 13] (fun s12 u wr => ∃ (i : Nat) (τ : Nat → Tag) (A' : SA) (cm : Nat → Bool) (rs : List MR), i ≤ O.length ∧ i ≤ 20 ∧ s12 = .int .i64 (bestTo cm 8 : Nat) ∧ u = .int .i64 i ∧ rs.length = 2 * i ∧ Hid (AllFin rs) ∧ Hid (LatM w wr τ sb xb (latS (p0 + 1) M p cm 8 rs) A' wv kb kv p cm 8)) (fun _ u _ => 20 - (intOf u).toNat)
      case atStart => exact ⟨0, τ, A1, fun _ => false, [], Nat.zero_le _, by omega, rfl, rfl, rfl, (fun r hr => by cases hr), HM⟩
      case round =>
        rename World => wr2
        obtain ⟨i, τ2, A2, cm, rs, hi, hi20, rfl, rfl, hrl, HF, HM2⟩ := hrel
        have hb16 := best_le cm 8
        by_cases hlt : i < O.length ∧ i < 20
        · obtain ⟨hltO, hlt20⟩ := hlt
          have q0 : (i : Int) < (O.length : Int) := by omega
          have q1 : (i : Int) < 20 := by omega
          obtain ⟨ob, oo, rfl, hobl, hoc, hz1, hz2⟩ := HO.out i _ (List.getElem?_eq_getElem hltO)
          generalize O[i] = z at *
          have c1 := pRead (HM2.out.box (.cells #[.string kK] 9)).rep (some ⟨wr2.heap.size, 0, none⟩) 1 (L := [kK]) (by decide) (by decide) (by decide) (fun x hx => by simp at hx; subst hx; decide) (one_text kK) (fun ib io e => by cases e; rw [retag_self]; decide) (by show rs.length < _; omega)
          have HM3 : Hid _ := HM2.out.box (.cells #[.string kK] 9)
          rw [lat_read (by rw [allFin_open HF.out]; omega)] at c1
          unfold ptr at c1
          have kK_eq : kK = ⟨#[107]⟩ := rfl
          rw [show (Value.string kK) = .string ⟨#[107]⟩ from rfl] at c1 HM3
          obtain ⟨n1, hn1⟩ : ∃ n1 : Nat, (rs.length : Int) + 1 = (n1 : Int) := ⟨rs.length + 1, by omega⟩
          rw [hn1] at c1
          go_wp2_with fail
          refine c1.mono ?_
          rintro e wb ⟨τb, B, rfl, hRb, hPb⟩
          clear c1
          have HMb : Hid _ := HM3.out.step hRb hPb
          clear hRb hPb HM3 HM2
          have c2 := pAsk HMb.out.rep ((rs.length : Int) + 1) kK (by decide) (by omega) (by omega)
          rw [lat_ask HP.out (i := rs.length) (by simp), List.set_append_right _ _ (by omega), show rs.length - rs.length = 0 from by omega, List.set_cons_zero, hn1] at c2
          unfold ptr at c2
          rw [kK_eq] at c2
          go_wp2_with fail
          refine c2.mono ?_
          rintro e wc ⟨C, rfl, hRc, hPc⟩
          clear c2
          have HMc : Hid _ := HMb.out.step hRc hPc
          clear hRc hPc HMb
          obtain ⟨j, hj8, hjz⟩ := pickQ_nat z 8 (by omega)
          rw [show ((8 : Nat) : Int) = 8 from rfl] at hjz
          have cpk := pickK_any z 8 wc.drew hz1 hz2 (by omega) (by omega)
          rw [hjz] at cpk
          obtain ⟨g, gcap, hwv, hg1⟩ := HMc.out.get hj8
          have x1 : wc.cell? ⟨xb, 1, none⟩ = some (.slice (some ⟨g, 0, none⟩) 8 gcap) := by have := HMc.out.x.cell (o := 1) (v := wv) rfl; rw [hwv] at this; exact this
          have oc1 : wc.cell? ⟨ob, oo + i, none⟩ = some (.int .i64 z) := (HMc.out.env.below.cell (p := ⟨ob, oo + i, none⟩) hobl).trans hoc
          have q2 : (j : Int) < 8 := by omega
          have HJ : Hid (Blk wc (kb j) (knCells ((2 * j + 2 : Nat) : Int) (kv j) (latComm p (cm j))) 48) := HMc.out.kn j hj8
          go_wp2_with fail
          go_region_held3 (fun W => W.cell? ⟨xb, 1, none⟩ = some (.slice (some ⟨g, 0, none⟩) 8 gcap) ∧ W.cell? ⟨ob, oo + i, none⟩ = some (.int .i64 z) ∧ W.cell? ⟨g, j, none⟩ = some (.pointer (some ⟨kb j, 0, none⟩))) (simp [*]) ((go_at_call 18; refine cpk.mono ?_; rintro e w3 ⟨rfl, rfl⟩))
          clear cpk oc1 x1 hg1
          have HMd : Hid (LatM w wc.drew τb sb xb (latS (p0 + 1) M p cm 8 (rs ++ [lrAsk (bestTo cm 8)])) C wv kb kv p cm 8) := HMc.out.below ((Below.refl _ _).drew)
          clear HMc
          have c4 := commits_any HMd.out.rep xb (kb j) _ HMd.out.x rfl (by rw [HMd.out.xTag]; decide) (2 * j + 2) (by omega) (kv j) _ (HMd.out.kn j hj8) (by rw [HMd.out.knTag j hj8]; simp) kK (by decide +kernel) p HP.out (lat_find hj8) (lat_on HP.out) lat_all (by show latComm p (cm j) p = _; rfl)
          rw [lat_commit hj8] at c4
          unfold ptr at c4
          rw [kK_eq] at c4
          have HBP : Hid (bestTo (put cm j) 8 = if bestTo cm 8 < 2 * j + 2 then 2 * j + 2 else bestTo cm 8) := best_put hj8
          have hbp2 := best_le (put cm j) 8
          go_wp2_with fail
          refine c4.mono ?_
          rintro e we ⟨E, wd, rfl, hRd, hPd, rfl⟩
          clear c4
          have HMe : Hid _ := (HMd.out.step hRd hPd).known hp4 hj8
          clear hRd hPd HMd HJ
          generalize wd.setCell ⟨kb j, 2 + p, none⟩ (.bool true) = we at *
          have n1c : we.cell? ⟨kb j, 0, none⟩ = some (.int .i64 ((2 * j + 2 : Nat) : Int)) := (HMe.out.kn j hj8).cell (o := 0) rfl
          have HB1 : Hid (1 ≤ bestTo (put cm j) 8) := by
            have h9 := HBP.out
            show 1 ≤ bestTo (put cm j) 8
            rw [h9]
            split <;> omega
          obtain ⟨best, hbe⟩ : ∃ best, bestTo (put cm j) 8 = best := ⟨_, rfl⟩
          obtain ⟨was, hwa⟩ : ∃ was, bestTo cm 8 = was := ⟨_, rfl⟩
          obtain ⟨nn, hnn⟩ : ∃ nn, 2 * j + 2 = nn := ⟨_, rfl⟩
          have HBE : Hid (bestTo (put cm j) 8 = best) := hbe
          rw [hbe, hwa, hnn] at HBP
          rw [hbe] at HB1 hbp2
          rw [hwa] at HMe hb16 ⊢
          rw [hnn] at n1c
          go_upto_if 106 with (fail)
          go_cut [12] (fun s12 wy => s12 = .int .i64 (best : Nat) ∧ wy = we)
          case first =>
            by_cases hcmp : was < nn
            · have hb : best = nn := by rw [HBP.out, if_pos hcmp]
              have hcmp' : (nn : Int) > (was : Int) := by omega
              go_wp2_with fail
              go_meet
              case rel => first | exact ⟨by rw [hb], rfl⟩ | exact ⟨by rw [hb]⟩
            · have hb : best = was := by rw [HBP.out, if_neg hcmp]
              have hcmp' : ¬ (nn : Int) > (was : Int) := by omega
              go_wp2_with fail
              go_meet
              case rel => exact ⟨by rw [hb], rfl⟩
          case rest =>
            obtain ⟨rfl, hwe⟩ := hcut
            subst hwe
            have HBW : Hid (was = bestTo cm 8) := hwa.symm
            clear HBP hbe hwa n1c
            have c5 := pRead (HMe.out.box (.cells #[.string kK] 9)).rep (some ⟨wc.heap.size, 0, none⟩) 1 (L := [kK]) (by decide) (by decide) (by decide) (fun x hx => by simp at hx; subst hx; decide) (one_text kK) (fun ib io e => by cases e; rw [retag_self]; decide) (by show (rs ++ [lrAsk was]).length < _; simp; omega)
            have HM5 : Hid _ := HMe.out.box (.cells #[.string kK] 9)
            have hop : openReads (rs ++ [lrAsk was]) < 50 := lr_open HF.out
            rw [lat_read hop] at c5
            unfold ptr at c5
            rw [show (Value.string kK) = .string ⟨#[107]⟩ from rfl] at c5 HM5
            have hn2 : ((rs ++ [lrAsk was]).length : Int) + 1 = (n1 : Int) + 1 := by simp; omega
            rw [hn2] at c5
            clear hop HMe
            go_wp2_with fail
            refine c5.mono ?_
            rintro e wf ⟨τf, F, rfl, hRf, hPf⟩
            clear c5
            have HMf : Hid _ := HM5.out.step hRf hPf
            clear hRf hPf HM5
            have hlen1 : (rs ++ [lrAsk was]).length = rs.length + 1 := by simp
            have c6 := pAsk HMf.out.rep (((rs ++ [lrAsk was]).length : Int) + 1) kK (by decide) (by omega) (by omega)
            rw [lat_ask HP.out (i := (rs ++ [lrAsk was]).length) (by simp), List.set_append_right _ _ (by omega), show (rs ++ [lrAsk was]).length - (rs ++ [lrAsk was]).length = 0 from by omega, List.set_cons_zero, HBE.out, hn2] at c6
            unfold ptr at c6
            rw [kK_eq] at c6
            go_wp2_with fail
            refine c6.mono ?_
            rintro e wg ⟨G, rfl, hRg, hPg⟩
            clear c6
            have HMg : Hid _ := (HMf.out.step hRg hPg).fresh (Below.refl _ _)
            clear hRg hPg HMf
            have hgw : ∀ q, wg.heap.size ≤ q → fresh τf wg.heap.size q = (0, 0, 0) := fun q hq => by unfold fresh; rw [if_pos hq]
            have HGW : Hid _ := hgw
            generalize fresh τf wg.heap.size = τg at *
            clear hgw
            have c7 := pFinish_lone HMg.out.rep (((rs ++ [lrAsk was]).length : Int) + 1) (by omega) (by omega) (lrAsk best) (findR_at lr_at rfl) (lrAsk_all _) best (fun q x hx => by
              match q, hx with
              | 0, _ => rfl) (Or.inr (by rintro ⟨_, e⟩; exact lr_key _ e))
            rw [show ((((rs ++ [lrAsk was]).length : Int) + 1) - 1).toNat = (rs ++ [lrAsk was]).length from by omega, lat_fin, List.set_append_right _ _ (by omega), show (rs ++ [lrAsk was]).length - (rs ++ [lrAsk was]).length = 0 from by omega, List.set_cons_zero, hn2, show (lrAsk best).keys = [kK] from rfl, show ([kK] : List ByteArray).length = 1 from rfl] at c7
            unfold ptr at c7
            go_wp2_with fail
            refine c7.mono ?_
            rintro e wh ⟨ab, C7, rfl, hC7, -, hA7, hab, hRh, hPh⟩
            clear c7
            have HMh : Hid _ := HMg.out.step hRh hPh
            obtain ⟨-, a1, a2⟩ := hA7 0 kK rfl
            rw [lat_val HBE.out.symm, if_neg (by have := HB1.out; omega)] at a2
            have HC7 : Hid (Blk wh ab C7 62) := hC7
            have HA1 : Hid (C7[0 * 3 + 1]? = some (.int .i64 best)) := a1
            have HA2 : Hid (C7[0 * 3 + 2]? = some (.string (kK ++ digs best))) := a2
            have HTa : Hid (τg ab = (0, 0, 0)) := HGW.out ab hab
            clear hRh hPh HMg hA7 hC7 a1 a2 hab
            have c8 := pFinish_lone HMh.out.rep ((rs.length : Int) + 1) (by omega) (by omega) (lrAsk was) (findR_at lr_at0 rfl) (lrAsk_all _) was (fun q x hx => by
              match q, hx with
              | 0, _ => rfl) (Or.inr (by rintro ⟨_, e⟩; exact lr_key _ e))
            rw [show (((rs.length : Int) + 1) - 1).toNat = rs.length from by omega, lat_fin, List.append_assoc, List.set_append_right _ _ (by omega), show rs.length - rs.length = 0 from by omega, List.singleton_append, List.set_cons_zero, hn1, show (lrAsk was).keys = [kK] from rfl, show ([kK] : List ByteArray).length = 1 from rfl] at c8
            unfold ptr at c8
            go_wp2_with fail
            refine c8.mono ?_
            rintro e wi ⟨bb, C8, rfl, hC8, -, hA8, hbb, hRi, hPi⟩
            clear c8
            have HMi : Hid _ := HMh.out.step hRi hPi
            obtain ⟨-, b1, -⟩ := hA8 0 kK rfl
            have hC7i := HC7.out.of_eq (hPi.block ab HC7.out.lt (by rw [HTa.out]; decide))
            have l1 : wi.cell? ⟨ab, 1, none⟩ = some (.int .i64 best) := hC7i.cell HA1.out
            have l2 : wi.cell? ⟨ab, 2, none⟩ = some (.string (kK ++ digs best)) := hC7i.cell HA2.out
            have l3 : wi.cell? ⟨bb, 1, none⟩ = some (.int .i64 was) := hC8.cell b1
            have habl := hC7i.lt
            have hbbl := hC8.lt
            clear hRi hPi HMh hA8 hC8 b1 hC7i HC7 HA1 HA2 HTa hbb
            have hbest1 := HB1.out
            have cd := digits_any (w := wi.drew) best hbest1 (by omega)
            have hdz := digs_size best
            rw [kK_eq] at l2
            generalize digs best = dg at *
            have hxd : 1 + dg.size ≤ 9223372036854775807 := by omega
            have hcat : ∀ W : World, (Op.stringOp BinOp.add ⟨#[107]⟩ dg).run Tryz.prog W = .ok (.string (⟨#[107]⟩ ++ dg)) W := by
              intro W
              go_simp
            have hseq : (((⟨#[107]⟩ : ByteArray) ++ dg).toList == ((⟨#[107]⟩ : ByteArray) ++ dg).toList) = true := by simp
            have hn12 : IntKind.i64.wrap ((n1 : Int) + 1) = (n1 : Int) + 1 := IntWalk.i64_in _ (by omega)
            go_wp2_with fail
            go_region_held3 (fun W => W.cell? ⟨ab, 1, none⟩ = some (.int .i64 best) ∧ W.cell? ⟨ab, 2, none⟩ = some (.string (⟨#[107]⟩ ++ dg)) ∧ W.cell? ⟨bb, 1, none⟩ = some (.int .i64 was)) (simp [*]) ((go_at_call 25; refine cd.mono ?_; rintro e wj ⟨rfl, hBj⟩; have m1 := (hBj.cell (p := ⟨ab, 1, none⟩) habl).trans l1; have m2 := (hBj.cell (p := ⟨ab, 2, none⟩) habl).trans l2; have m3 := (hBj.cell (p := ⟨bb, 1, none⟩) hbbl).trans l3))
            clear cd l1 l2 l3 m1 m2 m3 hcat hseq
            have HMj : Hid _ := HMi.out.below (w' := wj) ⟨hBj.os, hBj.tape, hBj.output, hBj.size, hBj.block⟩
            clear hBj HMi
            go_wp2_with fail
            go_roundw
            case rel =>
              exact ⟨i + 1, τg, G, put cm j, rs ++ [lrFin was, lrFin best], by omega, by omega, by rw [HBE.out], by go_num, by simp; omega, lr_fin HF.out, HMj⟩
            case measure => simp [intOf]; omega
        · have hge : ¬ ((i : Int) < (O.length : Int)) ∨ ¬ ((i : Int) < 20) := by omega
          by_cases h1 : (i : Int) < (O.length : Int)
          · have h2 : ¬ ((i : Int) < 20) := by omega
            go_wp2_with fail
            go_ret
            exact ⟨rfl, HM2.out.env.below⟩
          · go_wp2_with fail
            go_ret
            exact ⟨rfl, HM2.out.env.below⟩

end
end Go.Proofs.YteoahlieielcdaaGreat
