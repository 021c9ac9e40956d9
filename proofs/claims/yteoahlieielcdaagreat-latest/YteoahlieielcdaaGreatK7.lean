/-
  The statement Orderly: the walk.
-/
import Derived.Test.YteoahlieielcdaaGreatK6
namespace Go.Proofs.YteoahlieielcdaaGreat
open Go Go.RowKit Go.MuLone

theorem pickQ_nat (on : Int) (n : Nat) (hn : 0 < n) : ∃ p : Nat, p < n ∧ pickOf on n = (p : Int) := by
  obtain ⟨h1, h2⟩ := pick_bd on n (by omega)
  exact ⟨(pickOf on n).toNat, by omega, by omega⟩
theorem ordItems_snoc (L : List ByteArray) (x : ByteArray) : ordItems (L ++ [x]) = ordItems L ++ [(x, vv)] := by simp [ordItems]

section
variable {w : World}

set_option maxRecDepth 100000 in
set_option maxHeartbeats 2000000 in
theorem pFinish_noneS {τ : Nat → Tag} {sid b : Nat} {s : MS} {A : SA} (h : RepS w τ sid b s A) (n : Int) (hn : -9223372036854775808 ≤ n) (hn' : n ≤ 9223372036854775807) (hf : mFindR s n = none) :
    Calls Tryz.prog 23 #[ptr b, .int .i64 n] w fun e w' => e = .returned (.tuple #[.slice none 0 0, .int .i64 0, .int .i64 7]) ∧ Same w w' := by
  have c := findRead_any h n hn hn'
  have hv : findRVal s A n = (.pointer none, false) := by unfold findRVal; rw [hf]
  rw [hv] at c
  unfold ptr at c ⊢
  clear hf hv
  go_enter Tryz.func23, Tryz.ntmps23
  go_wp2_with fail
  refine c.mono ?_
  rintro e w1 ⟨rfl, hS⟩
  go_wp2_with fail
  go_ret3
  exact ⟨rfl, hS⟩

set_option maxRecDepth 100000 in
set_option maxHeartbeats 40000000 in
theorem orderly_any (set parts mode at_ : Int) (h1 : -9223372036854775808 ≤ set) (h2 : set ≤ 9223372036854775807) (h3 : -9223372036854775808 ≤ parts) (h4 : parts ≤ 9223372036854775807) (h5 : -9223372036854775808 ≤ mode) (h6 : mode ≤ 9223372036854775807) (h7 : -9223372036854775808 ≤ at_) (h8 : at_ ≤ 9223372036854775807) :
    Calls Tryz.prog 10 #[.int .i64 set, .int .i64 parts, .int .i64 mode, .int .i64 at_] w fun e w' => e = .returned (.bool true) ∧ Below w.heap.size w w' := by
  obtain ⟨b0, hb0, hbp⟩ := pickQ_nat set 63 (by omega)
  obtain ⟨p0, hp0, hpp⟩ := pickQ_nat parts 4 (by omega)
  obtain ⟨a0, ha0, hap⟩ := pickQ_nat at_ 4 (by omega)
  rw [show ((63 : Nat) : Int) = 63 from rfl] at hbp
  rw [show ((4 : Nat) : Int) = 4 from rfl] at hpp hap
  have c1 := pickK_any set 63 w h1 h2 (by omega) (by omega)
  rw [hbp] at c1
  obtain ⟨k1, k2, k3, k4⟩ := keysOf_ok (b0 + 1) (by omega)
  obtain ⟨k5, k6⟩ := ord_ok (b0 + 1) (by omega) (by omega)
  have c2 := keys_any (w := w) (b0 + 1)
  rw [show ((b0 + 1 : Nat) : Int) = (b0 : Int) + 1 from by omega] at c2
  have hcomm : (1 : Int) + (b0 : Int) = (b0 : Int) + 1 := by omega
  have k3' := k3 (by omega)
  generalize keysOf (b0 + 1) = L at *
  have K1 : Hid L.Nodup := k1
  have K2 : Hid (∀ x ∈ L, goodKey x = true) := k2
  have K5 : Hid (mCheck (ordItems L) = 0) := k5
  have K6 : Hid (mKeys L = 0) := k6
  clear k1 k2 k3 k5 k6 hbp
  go_enter Tryz.func10, Tryz.ntmps10
  go_wp2_with fail
  refine c1.mono ?_
  rintro e w' ⟨rfl, rfl⟩
  clear c1
  go_wp2_with fail
  refine c2.mono ?_
  rintro e w1 ⟨kvl, rfl, hrow, hB1⟩
  clear c2
  obtain ⟨kg, kcap, rfl, hkc1, hkc2, hkcell, -⟩ := row_form hrow (by omega)
  have hkgl : kg < w1.heap.size := (row_ge hrow kg rfl).2
  have HKC : Hid (∀ (j : Nat) (x : ByteArray), L[j]? = some x → w1.cell? ⟨kg, j, none⟩ = some (.string x)) := fun j x hx => by
    have hj := lt_of_some hx
    rw [hkcell j (by omega), List.getElem?_map, hx]; rfl
  have hE : Env w1 w1 (fun _ => (0, 0, 0)) := ⟨Below.refl _ _, fun _ _ => rfl⟩
  have c3 := empty_any hE parts mode h3 h4 h5 h6
  rw [hpp, show (1 + (p0 : Int)).toNat = p0 + 1 from by omega] at c3
  generalize 1 + pickOf mode 3 = M at c3
  unfold ptr at c3
  clear hE hrow hkcell
  go_wp2_with fail
  refine c3.mono ?_
  rintro e wa ⟨τa, sb, A, rfl, hS, hEa⟩
  clear c3
  have HS : Hid (RepS wa τa 2 sb (newMS (p0 + 1) M) A) := hS
  have HE : Hid (Env w1 wa τa) := hEa
  clear hS hEa
  obtain ⟨ii, hii, iz0, iz1, iz2⟩ := info_parts infoItm
  go_wp2_with fail
  go_loopw [11, 12] (fun s11 u wr => ∃ (j : Nat) (τ : Nat → Tag), j ≤ L.length ∧ u = .int .i64 j ∧ wr.ownsRow w1.heap.size 70 2 s11 j (kvCells (ordItems (L.take j))) ∧ Hid (∀ k, s11.ownBlock = some k → τ k = (0, 0, 0)) ∧ Hid (RepS wr τ 2 sb (newMS (p0 + 1) M) A) ∧ Hid (Env w1 wr τ)) (fun _ u _ => L.length - (intOf u).toNat)
  case atStart => exact ⟨0, τa, Nat.zero_le _, rfl, World.ownsRow_nil _ _ _ _, (fun k e => (by cases e)), HS, HE⟩
  case round =>
    obtain ⟨j, τ, hj, rfl, hrow, HT, HR, HE⟩ := hrel
    by_cases hlt : j < L.length
    · have hx : L[j]? = some L[j] := List.getElem?_eq_getElem hlt
      have HTk : Hid (ordItems (L.take (j + 1)) = ordItems (L.take j) ++ [(L[j], vv)]) := by unfold Hid; rw [List.take_succ_eq_append_getElem hlt, ordItems_snoc]
      have ck := (HE.out.below.cell (p := ⟨kg, j, none⟩) hkgl).trans (HKC.out j _ hx)
      generalize L[j] = x at *
      obtain ⟨av, capv, hv⟩ := row_len hrow
      have hszr := HE.out.below.size
      have HX : Hid (∀ (w2 : World) (v2 : Value) (o : Obj), w2.ownsRow w1.heap.size 70 2 v2 (j + 1) (kvCells (ordItems (L.take j)) ++ [.string x, .string ⟨#[118]⟩]) → (wr.alloc o).grownBy w2 (Value.slice av j capv).ownBlock → (v2.ownBlock = (Value.slice av j capv).ownBlock ∨ v2.ownBlock = some (wr.alloc o).heap.size) →
          w2.ownsRow w1.heap.size 70 2 v2 (j + 1) (kvCells (ordItems (L.take (j + 1)))) ∧ (∀ k, v2.ownBlock = some k → fresh τ wr.heap.size k = (0, 0, 0)) ∧ RepS w2 (fresh τ wr.heap.size) 2 sb (newMS (p0 + 1) M) A ∧ Env w1 w2 (fresh τ wr.heap.size)) := fun w2 v2 o a1 a2 a3 => by
        rw [hv] at hrow HT
        refine ⟨by rw [HTk.out, kvCells_snoc]; exact a1, fun k hk => ?_, HR.out.grown a2 HT.out (by decide), HE.out.grown a2 (fun k hk => (row_ge hrow k hk).1)⟩
        rcases a3 with e | e
        · rw [hk] at e
          have := HT.out k e.symm
          unfold fresh
          split
          · rfl
          · exact this
        · rw [hk] at e
          have := Option.some.inj e
          simp at this
          unfold fresh
          rw [if_pos (by omega)]
      generalize kvCells (ordItems (L.take j)) = xs at *
      subst hv
      clear HTk hx
      go_wp2_with (at_builtin; refine wpList_append_own_at _ rfl (.tmp 63) (.tmp 69) 68 rfl w1.heap.size 70 ii _ 2 32 Tryz.underlying68 hii iz0 iz1 iz2 rfl (by decide) (.slice av j capv) j xs rfl (hrow.alloc _) ⟨_, 0, none⟩ 1 1 [.string x, .string ⟨#[118]⟩] rfl rfl (cell_two_new _ _ _ _) (by simp [Value.oneCell']) (by unfold maxLen; omega) (by omega) (by simp; omega) ?_; intro v2 w2 hO2 hG2 hN2 hA2)
      obtain ⟨r1, r2, r3, r4⟩ := HX.out w2 v2 _ hO2 hG2 hA2
      have R2 : Hid _ := r2
      have R3 : Hid _ := r3
      have R4 : Hid _ := r4
      clear r2 r3 r4 hO2 hG2 hN2 hA2 HX
      go_wp2_with fail
      go_roundw
      case rel => exact ⟨j + 1, _, by omega, by go_num, r1, R2, R3, R4⟩
      case measure => simp [intOf]; omega
    · have hjL : j = L.length := by omega
      rw [hjL, List.take_length] at hrow
      clear hjL
      obtain ⟨ig, icap, hv, hi1, hi2, hicell, -⟩ := row_form hrow (by omega)
      subst hv
      have higl : ig < wr.heap.size := (row_ge hrow ig rfl).2
      have hlen : (ordItems L).length = L.length := by simp [ordItems]
      have HIt : Hid (ItemsAt wr (some ⟨ig, 0, none⟩) (ordItems L)) := fun k x hx => by
        obtain ⟨e1, e2⟩ := kvCells_at _ k x hx
        have hk := lt_of_some hx
        rw [hlen] at hk
        refine ⟨ig, 0, rfl, ?_, ?_⟩
        · rw [show 0 + k * 2 = k * 2 from by omega, hicell (k * 2) (by omega), e1]
        · rw [show 0 + k * 2 + 1 = k * 2 + 1 from by omega, hicell (k * 2 + 1) (by omega), e2]
      have higt : τ ig = (0, 0, 0) := HT.out ig rfl
      have hsok : sizesOk (ordItems L) := fun x hx => by
        have := goodKV_size ((check_items K5.out).2.2 x hx)
        exact ⟨by unfold maxLen; omega, by unfold maxLen; omega⟩
      have HOK : Hid (sizesOk (ordItems L)) := hsok
      have c4 := pWrite HR.out (some ⟨ig, 0, none⟩) icap (L := ordItems L) (by rw [hlen]; unfold maxLen; omega) (by rw [hlen]; exact hi1) hi2 hsok HIt.out (fun ib io e => by cases e; rw [higt]; decide)
      rw [hlen, ord_write K5.out] at c4
      unfold ptr at c4
      clear hsok hicell hrow HS
      go_wp2_with fail
      refine c4.mono ?_
      rintro e wb ⟨τb, B, rfl, hRb, hPb⟩
      clear c4
      have HO : Hid (Ord w1 (wb.alloc (.cells #[.bool false, .bool false, .bool false, .bool false] 46)) (retag τb wb.heap.size) sb (ordS (p0 + 1) M L (fun _ => false) []) B L ig wb.heap.size (ordOn (p0 + 1) (L.take 0))) := by
        have hsl := hPb.size
        have hitb := items_keep (w' := wb) HIt.out (hPb.block ig higl (by rw [higt]; decide))
        refine ⟨hRb.box _, (HE.out.stp hPb (by decide)).alloc _, items_keep hitb (Below.heap_alloc _ _ _ (by simp only; omega)), ?_, by simp; omega, ?_, retag_self _ _, by omega⟩
        · unfold retag
          rw [if_neg (by omega), hPb.tag ig higl, higt]
        · rw [List.take_zero, ordOn_nil]
          exact Blk.new wb _ _
      have hlon : w1.heap.size ≤ wb.heap.size := by have := HE.out.below.size; have := hPb.size; omega
      clear hRb hPb HIt HR HT
      have cpk := fun (W : World) => pickK_any parts 4 W h3 h4 (by omega) (by omega)
      rw [hpp] at cpk
      go_wp2_with fail
      generalize retag τb wb.heap.size = τb at *
      generalize hwd : wb.alloc (.cells #[.bool false, .bool false, .bool false, .bool false] 46) = wd at *
      generalize hgon : wb.heap.size = onb at *
      clear hwd
      go_loopw [16, 17] (fun s16 u wr => ∃ (j : Nat), j ≤ L.length ∧ s16 = .int .i64 (cnt4 (ordOn (p0 + 1) (L.take j)) : Nat) ∧ u = .int .i64 j ∧ Hid (Ord w1 wr τb sb (ordS (p0 + 1) M L (fun _ => false) []) B L ig onb (ordOn (p0 + 1) (L.take j)))) (fun _ u _ => L.length - (intOf u).toNat)
      case atStart => exact ⟨0, Nat.zero_le _, by rw [List.take_zero, ordOn_nil]; rfl, rfl, HO⟩
      case round =>
        rename World => wr3
        obtain ⟨j, hj, rfl, rfl, HJ⟩ := hrel
        have hc4 := cnt4_le (ordOn (p0 + 1) (L.take j))
        by_cases hlt : j < L.length
        · have hx : L[j]? = some L[j] := List.getElem?_eq_getElem hlt
          have HTk : Hid (L.take (j + 1) = L.take j ++ [L[j]]) := List.take_succ_eq_append_getElem hlt
          have ck := (HJ.out.env.below.cell (p := ⟨kg, j, none⟩) hkgl).trans (HKC.out j _ hx)
          have hgk := K2.out _ (List.getElem_mem hlt)
          have hsz := goodKey_size hgk
          generalize L[j] = x at *
          have cp := pPart HJ.out.rep x (by unfold maxLen; omega)
          rw [hgk] at cp
          obtain ⟨q1, q2⟩ := partOf_bd ((p0 + 1 : Nat) : Int) x (by omega)
          obtain ⟨p, hp⟩ : ∃ p : Nat, partOf ((p0 + 1 : Nat) : Int) x = p := ⟨(partOf ((p0 + 1 : Nat) : Int) x).toNat, by omega⟩
          have hpP : p < p0 + 1 := by omega
          simp only [if_true] at cp
          rw [show (ordS (p0 + 1) M L (fun _ => false) []).parts = p0 + 1 from rfl, hp] at cp
          have HON : Hid (ordOn (p0 + 1) (L.take (j + 1)) = put (ordOn (p0 + 1) (L.take j)) p) := by unfold Hid; rw [HTk.out]; exact ordOn_snoc hp
          have HCN : Hid (cnt4 (put (ordOn (p0 + 1) (L.take j)) p) = if ordOn (p0 + 1) (L.take j) p then cnt4 (ordOn (p0 + 1) (L.take j)) else cnt4 (ordOn (p0 + 1) (L.take j)) + 1) := cnt4_put (by omega)
          generalize ordOn (p0 + 1) (L.take j) = f at *
          unfold ptr at cp
          clear q1 q2 hp hx HTk hgk
          go_wp2_with fail
          refine cp.mono ?_
          rintro e wc ⟨rfl, hBc⟩
          clear cp
          have HJc : Hid _ := HJ.out.below hBc
          have on1 := HJc.out.onCell (p := p) (by omega)
          have cpc := cpk wc
          have g0 : ¬ ((p : Int) < 0) := by omega
          have g1 : ¬ ((p0 : Int) < (p : Int)) := by omega
          go_wp2_with fail
          refine cpc.mono ?_
          rintro e wc' ⟨rfl, rfl⟩
          clear cpc
          have fz := HJc.out.on.frozen p
          have HP : Hid _ := HJc.out.put (p := p) (by omega) (by omega)
          have g2 : (p : Int) < 4 := by omega
          cases hfp : f p with
          | true =>
            rw [hfp] at on1
            have HC1 : Hid (cnt4 (put f p) = cnt4 f) := by unfold Hid; rw [HCN.out, hfp]; rfl
            clear hfp
            go_wp2_with fail
            go_roundw
            case rel => exact ⟨j + 1, by omega, by rw [HON.out, HC1.out], by go_num, by rw [HON.out]; exact HP⟩
            case measure => simp [intOf]; omega
          | false =>
            rw [hfp] at on1
            have HC1 : Hid (cnt4 (put f p) = cnt4 f + 1) := by unfold Hid; rw [HCN.out, hfp]; rfl
            clear hfp
            go_wp2_with fail
            go_roundw
            case rel => exact ⟨j + 1, by omega, by rw [HON.out, HC1.out]; go_num, by go_num, by rw [HON.out]; exact HP⟩
            case measure => simp [intOf]; omega
        · have hjL : j = L.length := by omega
          subst hjL
          rw [List.take_length] at HJ
          simp only [List.take_length] at hc4 ⊢
          have cpa := fun (W : World) => pickK_any at_ 4 W h7 h8 (by omega) (by omega)
          rw [hap] at cpa
          have HJ' : Hid (Ord w1 wr3 τb sb (ordS (p0 + 1) M L (ordPf (ordOn (p0 + 1) L) a0 0) []) B L ig onb (ordOn (p0 + 1) L)) := by rw [ordPf_zero]; exact HJ
          obtain ⟨on, hon⟩ : ∃ on, ordOn (p0 + 1) L = on := ⟨_, rfl⟩
          have HON : Hid (ordOn (p0 + 1) L = on) := hon
          rw [hon] at HJ' ⊢
          clear hon HJ HO
          go_wp2_with fail
          go_loopw [20, 21] (fun s20 u wr => ∃ (k : Nat) (τ : Nat → Tag) (A : SA), k ≤ 4 ∧ s20 = .int .i64 (cnt4 (ordPf on a0 k) : Nat) ∧ u = .int .i64 k ∧ Hid (Ord w1 wr τ sb (ordS (p0 + 1) M L (ordPf on a0 k) []) A L ig onb on)) (fun _ u _ => 4 - (intOf u).toNat)
          case atStart => exact ⟨0, τb, B, by omega, by rw [ordPf_zero]; rfl, rfl, HJ'⟩
          case round =>
            rename World => wr4
            obtain ⟨k, τ, A4, hk, rfl, rfl, HK⟩ := hrel
            have hc5 := cnt4_le (ordPf on a0 k)
            by_cases hlt : k < 4
            · have cpw := cpa wr4
              go_wp2_with fail
              refine cpw.mono ?_
              rintro e wx ⟨rfl, rfl⟩
              clear cpw
              obtain ⟨p, hp⟩ : ∃ p, (a0 + k) % 4 = p := ⟨_, rfl⟩
              have hp4 : p < 4 := by omega
              have hpe : ((a0 : Int) + (k : Int)) % 4 = (p : Int) := by omega
              have cc := pCommit HK.out.rep 1 p (by decide) (by decide) (by omega) (by omega)
              have hpn := ordPf_new (on := on) (a := a0) hlt
              rw [hp] at hpn
              have on1 := HK.out.onCell hp4
              have g2 : (p : Int) < 4 := by omega
              cases hfp : on p with
              | false =>
                have e1 := ord_comm_off (P := p0 + 1) (M := M) (L := L) (pf := ordPf on a0 k) (rs := []) (p := p) (by rw [HON.out]; exact hfp)
                rw [e1] at cc
                have HPF : Hid (ordPf on a0 (k + 1) = ordPf on a0 k) := ordPf_off (by rw [hp]; exact hfp)
                have e2 := ord_prep_off (P := p0 + 1) (M := M) (L := L) (pf := ordPf on a0 k) (rs := []) (p := p) (by rw [HON.out]; exact hfp)
                have E2 : Hid _ := e2
                have HFP : Hid (on p = false) := hfp
                rw [hfp] at on1
                unfold ptr at cc
                clear hfp e1 e2 hp
                go_wp2_with fail
                refine cc.mono ?_
                rintro e wy ⟨Ay, rfl, hRy, hPy⟩
                clear cc
                have HY : Hid _ := HK.out.step hRy hPy
                have on2 := HY.out.onCell hp4
                rw [HFP.out] at on2
                have cq := pPrepare HY.out.rep 1 p (by decide) (by decide) (by omega) (by omega)
                rw [E2.out] at cq
                unfold ptr at cq
                clear hRy hPy on1
                go_wp2_with fail
                refine cq.mono ?_
                rintro e wz ⟨Az, rfl, hRz, hPz⟩
                clear cq on2
                have HZ : Hid _ := HY.out.step hRz hPz
                clear hRz hPz
                go_wp2_with fail
                go_roundw
                case rel => exact ⟨k + 1, τ, Az, by omega, by rw [HPF.out], by go_num, by rw [HPF.out]; exact HZ⟩
                case measure => simp [intOf]; omega
              | true =>
                have e1 := ord_comm_early (P := p0 + 1) (M := M) (L := L) (pf := ordPf on a0 k) (rs := []) (p := p) (q := p) (by rw [HON.out]; exact hfp) (by omega) (by rw [HON.out]; exact hfp) hpn
                rw [e1] at cc
                have HPF : Hid (ordPf on a0 (k + 1) = put (ordPf on a0 k) p) := by
                  have := ordPf_on (on := on) (a := a0) (k := k) (by rw [hp]; exact hfp)
                  rw [hp] at this; exact this
                have HCN : Hid (cnt4 (put (ordPf on a0 k) p) = cnt4 (ordPf on a0 k) + 1) := by
                  unfold Hid
                  rw [cnt4_put hp4, hpn]; rfl
                have E2 : Hid _ := ord_prep_on (P := p0 + 1) (M := M) (L := L) (pf := ordPf on a0 k) (rs := []) (p := p) (by rw [HON.out]; exact hfp) hpn
                have E3 : Hid _ := ord_prep_done (P := p0 + 1) (M := M) (L := L) (pf := put (ordPf on a0 k) p) (rs := []) (p := p) (by rw [HON.out]; exact hfp) (by simp [put])
                have HFP : Hid (on p = true) := hfp
                have HLT : Hid (cnt4 (ordPf on a0 k) + 1 < cnt4 on → mCommit (ordS (p0 + 1) M L (put (ordPf on a0 k) p) []) 1 p = (9, ordS (p0 + 1) M L (put (ordPf on a0 k) p) [])) := fun hl => by
                  rw [← HCN.out] at hl
                  obtain ⟨q, _, h1, h2⟩ := cnt4_lt hl
                  exact ord_comm_early (by rw [HON.out]; exact hfp) (by omega) (by rw [HON.out]; exact h1) h2
                unfold ptr at cc
                rw [hfp] at on1
                clear hfp e1 hp hpn
                go_wp2_with fail
                refine cc.mono ?_
                rintro e wy ⟨Ay, rfl, hRy, hPy⟩
                clear cc
                have HY : Hid _ := HK.out.step hRy hPy
                have on2 := HY.out.onCell hp4
                rw [HFP.out] at on2
                have cq := pPrepare HY.out.rep 1 p (by decide) (by decide) (by omega) (by omega)
                rw [E2.out] at cq
                unfold ptr at cq
                clear hRy hPy on1
                go_wp2_with fail
                refine cq.mono ?_
                rintro e wz ⟨Az, rfl, hRz, hPz⟩
                clear cq on2
                have HZ : Hid _ := HY.out.step hRz hPz
                clear hRz hPz
                have cr := pPrepare HZ.out.rep 1 p (by decide) (by decide) (by omega) (by omega)
                rw [E3.out] at cr
                unfold ptr at cr
                go_wp2_with fail
                refine cr.mono ?_
                rintro e wq ⟨Aq, rfl, hRq, hPq⟩
                clear cr
                have HQ : Hid _ := HZ.out.step hRq hPq
                clear hRq hPq
                by_cases hl : cnt4 (ordPf on a0 k) + 1 < cnt4 on
                · have cs := pCommit HQ.out.rep 1 p (by decide) (by decide) (by omega) (by omega)
                  rw [HLT.out hl] at cs
                  unfold ptr at cs
                  have hl' : (cnt4 (ordPf on a0 k) : Int) + 1 < (cnt4 on : Int) := by omega
                  go_wp2_with fail
                  refine cs.mono ?_
                  rintro e wt ⟨At, rfl, hRt, hPt⟩
                  clear cs
                  have HT9 : Hid _ := HQ.out.step hRt hPt
                  clear hRt hPt
                  go_wp2_with fail
                  go_roundw
                  case rel => exact ⟨k + 1, τ, At, by omega, by rw [HPF.out, HCN.out]; go_num, by go_num, by rw [HPF.out]; exact HT9⟩
                  case measure => simp [intOf]; omega
                · have hl' : ¬ (cnt4 (ordPf on a0 k) : Int) + 1 < (cnt4 on : Int) := by omega
                  go_wp2_with fail
                  go_roundw
                  case rel => exact ⟨k + 1, τ, Aq, by omega, by rw [HPF.out, HCN.out]; go_num, by go_num, by rw [HPF.out]; exact HQ⟩
                  case measure => simp [intOf]; omega
            · have hk4 : k = 4 := by omega
              subst hk4
              generalize ordPf on a0 4 = pf at *
              have hti : TextsAt wr4 (some ⟨kg, 0, none⟩) L := fun k x hx => ⟨kg, 0, rfl, by rw [show 0 + k = k from by omega]; exact (HK.out.env.below.cell (p := ⟨kg, k, none⟩) hkgl).trans (HKC.out k x hx)⟩
              have hzk : sizesK L := fun x hx => by have := goodKey_size (K2.out x hx); unfold maxLen; omega
              have cr := pRead HK.out.rep (some ⟨kg, 0, none⟩) kcap (L := L) (by unfold maxLen; omega) hkc1 hkc2 hzk hti (fun ib io e => by cases e; rw [HK.out.env.tag0 kg hkgl]; decide) (by show (0 : Nat) < _; omega)
              rw [ord_read K6.out] at cr
              unfold ptr at cr
              clear hti hzk
              go_wp2_with fail
              refine cr.mono ?_
              rintro e wf ⟨τf, Bf, rfl, hRf, hPf⟩
              clear cr
              have HF : Hid _ := HK.out.step hRf hPf
              clear hRf hPf
              have cf := pFinish_order HF.out.rep 1 (by decide) (by decide) (ordR L 0) (ord_findR 0) (ord_not k3')
              unfold ptr at cf
              go_wp2_with fail
              refine cf.mono ?_
              rintro e wg ⟨rfl, hRg, hPg⟩
              clear cf
              have HG : Hid _ := HF.out.step hRg hPg
              clear hRg hPg
              go_wp2_with fail
              go_loopw [33] (fun u wr => ∃ (j : Nat) (A : SA), j ≤ L.length ∧ u = .int .i64 j ∧ Hid (Ord w1 wr τf sb (ordS (p0 + 1) M L pf [ordR L j]) A L ig onb on)) (fun u _ => L.length - (intOf u).toNat)
              case atStart => exact ⟨0, Bf, Nat.zero_le _, rfl, HG⟩
              case round =>
                rename World => wr5
                obtain ⟨j, A5, hj, rfl, HJ5⟩ := hrel
                by_cases hlt : j < L.length
                · have hx : L[j]? = some L[j] := List.getElem?_eq_getElem hlt
                  have ck := (HJ5.out.env.below.cell (p := ⟨kg, j, none⟩) hkgl).trans (HKC.out j _ hx)
                  have hsz := goodKey_size (K2.out _ (List.getElem_mem hlt))
                  have E1 : Hid _ := ord_ask (P := p0 + 1) (M := M) (pf := pf) K1.out hx
                  have E2 : Hid _ := ord_ask_done (P := p0 + 1) (M := M) (pf := pf) K1.out hx
                  generalize L[j] = x at *
                  have ca := pAsk HJ5.out.rep 1 x (by unfold maxLen; omega) (by decide) (by decide)
                  rw [E1.out] at ca
                  unfold ptr at ca
                  go_wp2_with fail
                  refine ca.mono ?_
                  rintro e wh ⟨Ah, rfl, hRh, hPh⟩
                  clear ca
                  have HH : Hid _ := HJ5.out.step hRh hPh
                  clear hRh hPh ck
                  have ck := (HH.out.env.below.cell (p := ⟨kg, j, none⟩) hkgl).trans (HKC.out j _ hx)
                  have cb := pAsk HH.out.rep 1 x (by unfold maxLen; omega) (by decide) (by decide)
                  rw [E2.out] at cb
                  unfold ptr at cb
                  clear hx
                  go_wp2_with fail
                  refine cb.mono ?_
                  rintro e wi ⟨Ai, rfl, hRi, hPi⟩
                  clear cb
                  have HI : Hid _ := HH.out.step hRi hPi
                  clear hRi hPi ck
                  go_wp2_with fail
                  go_roundw
                  case rel => exact ⟨j + 1, Ai, by omega, by go_num, HI⟩
                  case measure => simp [intOf]; omega
                · have hjL : j = L.length := by omega
                  subst hjL
                  have cf := pFinish_lone HJ5.out.rep 1 (by decide) (by decide) (ordR L L.length) (ord_findR L.length) ord_asked 0 (fun _ _ _ => rfl) (Or.inl rfl)
                  rw [show ((1 : Int) - 1).toNat = 0 from rfl, ord_fin, show (ordR L L.length).keys = L from rfl] at cf
                  unfold ptr at cf
                  go_wp2_with fail
                  refine cf.mono ?_
                  rintro e wh ⟨ab, C, rfl, hC, hCs, hA, hab, hRh, hPh⟩
                  clear cf hab
                  have HH : Hid _ := HJ5.out.step hRh hPh
                  have HC : Hid (Blk wh ab C 62) := hC
                  have HA : Hid (AnsOk C L 0 (ansVal (ordS (p0 + 1) M L pf [ordR L L.length]) 0)) := hA
                  clear hRh hPh hC hA hCs
                  have cn := pFinish_noneS HH.out.rep 1 (by decide) (by decide) ord_late
                  unfold ptr at cn
                  go_wp2_with fail
                  refine cn.mono ?_
                  rintro e wi ⟨rfl, hSi⟩
                  clear cn
                  have HI : Hid (Ord w1 wi τf sb (ordS (p0 + 1) M L pf [ordF L]) A5 L ig onb on) := HH.out.step (HH.out.rep.same hSi) (hSi.stp _ _)
                  have HCi : Hid (Blk wi ab C 62) := HC.out.of_eq (by rw [hSi.heap])
                  clear hSi
                  go_wp2_with fail
                  go_loopw [42] (fun u wr => ∃ (j : Nat), j ≤ L.length ∧ u = .int .i64 j ∧ wr = wi) (fun u _ => L.length - (intOf u).toNat)
                  case atStart => exact ⟨0, Nat.zero_le _, rfl, rfl⟩
                  case round =>
                    rename World => wr6
                    obtain ⟨j, hj, rfl, rfl⟩ := hrel
                    by_cases hlt : j < L.length
                    · obtain ⟨-, t1, t2⟩ := HA.out j _ (List.getElem?_eq_getElem hlt)
                      have u1 : wr6.cell? ⟨ab, j * 3 + 1, none⟩ = some (.int .i64 0) := HCi.out.cell t1
                      have u2 : wr6.cell? ⟨ab, j * 3 + 2, none⟩ = some (.string ⟨#[]⟩) := HCi.out.cell t2
                      clear t1 t2
                      go_wp2_with fail
                      go_roundw
                      case rel => exact ⟨j + 1, by omega, by go_num, by first | rfl | trivial⟩
                      case measure => simp [intOf]; omega
                    · have c1 := pCancel HI.out.rep 1 (by decide) (by decide)
                      rw [ord_cancel] at c1
                      unfold ptr at c1
                      go_wp2_with fail
                      refine c1.mono ?_
                      rintro e wk ⟨Ak, rfl, hRk, hPk⟩
                      clear c1
                      have HK1 : Hid _ := HI.out.step hRk hPk
                      clear hRk hPk
                      have c2 := pCancel HK1.out.rep 1 (by decide) (by decide)
                      rw [ord_cancel2] at c2
                      unfold ptr at c2
                      go_wp2_with fail
                      refine c2.mono ?_
                      rintro e wl ⟨Al, rfl, hRl, hPl⟩
                      clear c2
                      have HL : Hid _ := HK1.out.step hRl hPl
                      clear hRl hPl
                      have c3 := pWrite HL.out.rep (some ⟨ig, 0, none⟩) icap (L := ordItems L) (by rw [hlen]; unfold maxLen; omega) (by rw [hlen]; exact hi1) hi2 HOK.out HL.out.it (fun ib io e => by cases e; rw [HL.out.itTag]; decide)
                      rw [hlen, ord_write2 K5.out] at c3
                      unfold ptr at c3
                      go_wp2_with fail
                      refine c3.mono ?_
                      rintro e wm ⟨τm, Am, rfl, hRm, hPm⟩
                      clear c3
                      have HM : Hid _ := HL.out.step hRm hPm
                      clear hRm hPm
                      have c4 := pCommit HM.out.rep 1 0 (by decide) (by decide) (by decide) (by decide)
                      rw [ord_commit2] at c4
                      unfold ptr at c4
                      go_wp2_with fail
                      refine c4.mono ?_
                      rintro e wn ⟨An, rfl, hRn, hPn⟩
                      clear c4
                      have HN : Hid _ := HM.out.step hRn hPn
                      clear hRn hPn
                      go_wp2_with fail
                      go_ret
                      exact ⟨rfl, hB1.trans (HN.out.env.below.mono hB1.size)⟩

end
end Go.Proofs.YteoahlieielcdaaGreat
