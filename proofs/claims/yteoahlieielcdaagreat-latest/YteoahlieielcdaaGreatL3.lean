/-
  The statements without the document's answer: write, walked.
-/
import Derived.Test.YteoahlieielcdaaGreatL2
namespace Go.Proofs.YteoahlieielcdaaGreat
open Go Go.RowKit Go.MuLone

theorem Stp.grownNew {s : Nat} {w0 w w2 : World} {τ0 τ : Nat → Tag} {o : Obj} {rb : Option Nat} (h : Stp s τ0 w0 τ w) (hG : (w.alloc o).grownBy w2 rb) (hrb : ∀ k, rb = some k → w0.heap.size ≤ k) : Stp s τ0 w0 (fresh τ w.heap.size) w2 := by
  have hs2 : w.heap.size < w2.heap.size := by have := hG.size; simp at this; omega
  refine ⟨hG.os.trans h.os, hG.tape.trans h.tape, hG.output.trans h.output, by have := h.size; omega, fun k hk => ?_, fun k hk hs => ?_⟩
  · unfold fresh; rw [if_neg (by have := h.size; omega)]; exact h.tag k hk
  · exact (hG.block k (by have := h.size; simp; omega) (fun e => by have := hrb k e.symm; omega)).trans ((Below.heap_alloc _ _ _ (by have := h.size; omega)).trans (h.block k hk hs))
theorem Stp.box {s : Nat} {w0 w : World} {τ0 τ : Nat → Tag} (h : Stp s τ0 w0 τ w) (o : Obj) : Stp s τ0 w0 (retag τ w.heap.size) (w.alloc o) := by
  refine ⟨h.os, h.tape, h.output, by have := h.size; simp; omega, fun k hk => ?_, fun k hk hs => ?_⟩
  · unfold retag; rw [if_neg (by have := h.size; omega)]; exact h.tag k hk
  · exact (Below.heap_alloc _ _ _ (by have := h.size; omega)).trans (h.block k hk hs)
theorem keyItems_snoc (L : List ByteArray) (x : ByteArray) : keyItems (L ++ [x]) = keyItems L ++ [(x, kNo)] := by simp [keyItems]

/-- the items of write while their values are laid -/
def midItems (L : List ByteArray) (n j : Nat) : List KV := valItems (L.take j) n ++ keyItems (L.drop j)
theorem midItems_len (L : List ByteArray) (n j : Nat) : (midItems L n j).length = L.length := by
  simp [midItems, valItems, keyItems]; omega
theorem midItems_zero (L : List ByteArray) (n : Nat) : midItems L n 0 = keyItems L := by simp [midItems, valItems]
theorem midItems_end (L : List ByteArray) (n : Nat) : midItems L n L.length = valItems L n := by simp [midItems, keyItems]
theorem kvCells_app (a b : List KV) : kvCells (a ++ b) = kvCells a ++ kvCells b := by simp [kvCells]
theorem midItems_step (L : List ByteArray) (n j : Nat) (x : ByteArray) (h : L[j]? = some x) : (kvCells (midItems L n j)).set (j * 2 + 1) (.string (x ++ digs n)) = kvCells (midItems L n (j + 1)) := by
  obtain ⟨hj, rfl⟩ := List.getElem?_eq_some_iff.1 h
  unfold midItems
  rw [List.take_succ_eq_append_getElem hj, valItems_snoc, List.drop_eq_getElem_cons hj, List.append_assoc, kvCells_app, kvCells_app]
  have hl : (kvCells (valItems (L.take j) n)).length = j * 2 := by rw [kvCells_length]; simp [valItems]; omega
  have e : kvCells (keyItems (L[j] :: L.drop (j + 1))) = .string L[j] :: .string kNo :: kvCells (keyItems (L.drop (j + 1))) := rfl
  rw [e, List.set_append_right _ _ (by rw [hl]; omega), hl, show j * 2 + 1 - j * 2 = 1 from by omega]
  simp [kvCells]

/-- what write has beside the store -/
structure WrE (w0 : World) (τ0 : Nat → Tag) (w : World) (τ : Nat → Tag) (sb : Nat) (s : MS) (A : SA) : Prop where
  rep : RepS w τ 2 sb s A
  stp : Stp 2 τ0 w0 τ w

section
variable {w : World} {τ : Nat → Tag} {sb : Nat} {s : MS} {A : SA} {L : List ByteArray}

theorem row_keep {w w' : World} {base : Nat} {e : TypeId} {size : Nat} {g n cap : Nat} {xs : List Value} (h : w.ownsRow base e size (.slice (some ⟨g, 0, none⟩) n cap) n xs) (hb : w'.heap[g]? = w.heap[g]?) : w'.ownsRow base e size (.slice (some ⟨g, 0, none⟩) n cap) n xs :=
  row_of_block h (fun k hk => by cases hk; exact hb)

set_option maxRecDepth 100000 in
set_option maxHeartbeats 40000000 in
theorem write_any (hR : RepS w τ 2 sb s A) (kg kcap : Nat) (hl1 : 1 ≤ L.length) (hl8 : L.length ≤ 8) (hnd : L.Nodup) (hg : ∀ x ∈ L, goodKey x = true)
    (hkc : ∀ (j : Nat) (x : ByteArray), L[j]? = some x → w.cell? ⟨kg, j, none⟩ = some (.string x)) (hkl : kg < w.heap.size) (hkt : (τ kg).1 = 0) (hlen : s.ws.length + 2 ≤ 200) :
    Calls Tryz.prog 19 #[ptr sb, .slice (some ⟨kg, 0, none⟩) L.length kcap] w fun e w' => ∃ τ' A', e = .returned (.int .i64 ((s.ws.length : Int) + 2)) ∧ RepS w' τ' 2 sb (wrS s L (ordOn s.parts L)) A' ∧ Stp 2 τ w τ' w' := by
  have HG : Hid (∀ x ∈ L, goodKey x = true) := hg
  have HKC : Hid (∀ (j : Nat) (x : ByteArray), L[j]? = some x → w.cell? ⟨kg, j, none⟩ = some (.string x)) := hkc
  have HV : Hid (mCheck (valItems L (s.ws.length + 2)) = 0) := val_ok _ hnd hg hl1 hl8
  have HW : Hid (WrE w τ w τ sb s A) := ⟨hR, Stp.refl _ _ _⟩
  have HP : Hid (1 ≤ s.parts ∧ s.parts ≤ 4) := ⟨hR.ok.p1, hR.ok.p4⟩
  have HKcell : Hid (∀ (τr : Nat → Tag) (wr : World), Stp 2 τ w τr wr → ∀ (j : Nat) (x : ByteArray), L[j]? = some x → wr.cell? ⟨kg, j, none⟩ = some (.string x)) := fun τr wr hs j x hx =>
    (World.cell?_of_block (w := w) (a := ⟨kg, j, none⟩) (hs.block kg hkl (by rw [hkt]; decide))).trans (hkc j x hx)
  unfold ptr
  clear hg hkc hR hnd hkt
  obtain ⟨ii, hii, iz0, iz1, iz2⟩ := info_parts infoItm
  go_enter Tryz.func19, Tryz.ntmps19
  go_wp2_with fail
  go_loopw [5, 6] (fun s5 u wr => ∃ (j : Nat) (τr : Nat → Tag), j ≤ L.length ∧ u = .int .i64 j ∧ wr.ownsRow w.heap.size 70 2 s5 j (kvCells (keyItems (L.take j))) ∧ Hid (∀ k, s5.ownBlock = some k → τr k = (0, 0, 0)) ∧ Hid (WrE w τ wr τr sb s A)) (fun _ u _ => L.length - (intOf u).toNat)
  case atStart => exact ⟨0, τ, Nat.zero_le _, rfl, World.ownsRow_nil _ _ _ _, (fun k e => (by cases e)), HW⟩
  case round =>
    obtain ⟨j, τr, hj, rfl, hrow, HT, HR⟩ := hrel
    by_cases hlt : j < L.length
    · have hx : L[j]? = some L[j] := List.getElem?_eq_getElem hlt
      have HTk : Hid (keyItems (L.take (j + 1)) = keyItems (L.take j) ++ [(L[j], kNo)]) := by unfold Hid; rw [List.take_succ_eq_append_getElem hlt, keyItems_snoc]
      have ck := HKcell.out τr wr HR.out.stp j _ hx
      generalize L[j] = x at *
      obtain ⟨av, capv, hv⟩ := row_len hrow
      have hszr := HR.out.stp.size
      have HX : Hid (∀ (w2 : World) (v2 : Value) (o : Obj), w2.ownsRow w.heap.size 70 2 v2 (j + 1) (kvCells (keyItems (L.take j)) ++ [.string x, .string ⟨#[]⟩]) → (wr.alloc o).grownBy w2 (Value.slice av j capv).ownBlock → (v2.ownBlock = (Value.slice av j capv).ownBlock ∨ v2.ownBlock = some (wr.alloc o).heap.size) →
          w2.ownsRow w.heap.size 70 2 v2 (j + 1) (kvCells (keyItems (L.take (j + 1)))) ∧ (∀ k, v2.ownBlock = some k → fresh τr wr.heap.size k = (0, 0, 0)) ∧ WrE w τ w2 (fresh τr wr.heap.size) sb s A) := fun w2 v2 o a1 a2 a3 => by
        rw [hv] at hrow HT
        refine ⟨by rw [HTk.out, kvCells_snoc]; exact a1, fun k hk => ?_, HR.out.rep.grown a2 HT.out (by decide), HR.out.stp.grownNew a2 (fun k hk => (row_ge hrow k hk).1)⟩
        rcases a3 with e | e
        · rw [hk] at e
          have := HT.out k e.symm
          unfold fresh
          split
          · rfl
          · exact this
        · rw [hk] at e
          have := Option.some.inj e
          simp at this
          unfold fresh
          rw [if_pos (by omega)]
      generalize kvCells (keyItems (L.take j)) = xs at *
      subst hv
      clear HTk hx
      go_wp2_with (at_builtin; refine wpList_append_own_at _ rfl (.tmp 23) (.tmp 29) 68 rfl w.heap.size 70 ii _ 2 32 Tryz.underlying68 hii iz0 iz1 iz2 rfl (by decide) (.slice av j capv) j xs rfl (hrow.alloc _) ⟨_, 0, none⟩ 1 1 [.string x, .string ⟨#[]⟩] rfl rfl (cell_two_new _ _ _ _) (by simp [Value.oneCell']) (by unfold maxLen; omega) (by omega) (by simp; omega) ?_; intro v2 w2 hO2 hG2 hN2 hA2)
      obtain ⟨r1, r2, r3⟩ := HX.out w2 v2 _ hO2 hG2 hA2
      have R2 : Hid _ := r2
      have R3 : Hid _ := r3
      clear r2 r3 hO2 hG2 hN2 hA2 HX
      go_wp2_with fail
      go_roundw
      case rel => exact ⟨j + 1, _, by omega, by go_num, r1, R2, R3⟩
      case measure => simp [intOf]; omega
    · have hjL : j = L.length := by omega
      rw [hjL, List.take_length] at hrow
      clear hjL
      obtain ⟨ig, icap, hv, hi1, hi2, hicell, -⟩ := row_form hrow (by omega)
      subst hv
      have higl : ig < wr.heap.size := (row_ge hrow ig rfl).2
      have higw : w.heap.size ≤ ig := (row_ge hrow ig rfl).1
      have higt : τr ig = (0, 0, 0) := HT.out ig rfl
      have HRow : Hid (wr.ownsRow w.heap.size 70 2 (.slice (some ⟨ig, 0, none⟩) L.length icap) L.length (kvCells (midItems L (s.ws.length + 2) 0))) := by rw [midItems_zero]; exact hrow
      have c5 := pWrite (HR.out.rep.box (.cells #[.string kx, .string kNo] 70)) (some ⟨wr.heap.size, 0, none⟩) 1 (L := [(kx, kNo)]) (by decide) (by decide) (by decide) (fun x hx => by simp at hx; subst hx; decide) (one_item (kx, kNo)) (fun ib io e => by cases e; rw [retag_self]; decide)
      have HS5 : Hid (Stp 2 τ w (retag τr wr.heap.size) (wr.alloc (.cells #[.string kx, .string kNo] 70))) := HR.out.stp.box _
      have HG5 : Hid (retag τr wr.heap.size ig = (0, 0, 0)) := by unfold Hid retag; rw [if_neg (by omega)]; exact higt
      have HRow5 : Hid ((wr.alloc (.cells #[.string kx, .string kNo] 70)).ownsRow w.heap.size 70 2 (.slice (some ⟨ig, 0, none⟩) L.length icap) L.length (kvCells (midItems L (s.ws.length + 2) 0))) := HRow.out.alloc _
      have hig5 : ig < (wr.alloc (.cells #[.string kx, .string kNo] 70)).heap.size := by simp; omega
      obtain ⟨m, hm⟩ : ∃ m : Nat, (s.ws.length : Int) + 1 = (m : Int) := ⟨s.ws.length + 1, by omega⟩
      rw [wr_x (by omega), hm] at c5
      unfold ptr at c5
      have kx_eq : kx = ⟨#[120]⟩ := rfl
      have kNo_eq : kNo = ⟨#[]⟩ := rfl
      rw [kx_eq, kNo_eq] at c5 HS5 HRow5 hig5
      clear hrow hicell HRow
      go_wp2_with fail
      refine c5.mono ?_
      rintro e wb ⟨τb, B, rfl, hRb, hPb⟩
      clear c5
      have HRow6 : Hid _ := row_keep (w' := wb) HRow5.out (hPb.block ig hig5 (by rw [HG5.out]; decide))
      have HG6 : Hid (τb ig = (0, 0, 0)) := (hPb.tag ig hig5).trans HG5.out
      have hig6 : ig < wb.heap.size := Nat.lt_of_lt_of_le hig5 hPb.size
      have HS6 : Hid (Stp 2 τ w τb wb) := HS5.out.trans hPb
      clear hPb HS5 HG5 HRow5 hig5 higt higl HR HT
      have c6 := pCancel hRb ((s.ws.length : Int) + 1) (by omega) (by omega)
      rw [wr_cancel, hm] at c6
      unfold ptr at c6
      clear hRb
      go_wp2_with fail
      refine c6.mono ?_
      rintro e wc ⟨C, rfl, hRc, hPc⟩
      clear c6
      have HRow7 : Hid _ := row_keep (w' := wc) HRow6.out (hPc.block ig hig6 (by rw [HG6.out]; decide))
      have HG7 : Hid (τb ig = (0, 0, 0)) := HG6
      have hig7 : ig < wc.heap.size := Nat.lt_of_lt_of_le hig6 hPc.size
      have HS7 : Hid (WrE w τ wc τb sb (xS s) C) := ⟨hRc, HS6.out.trans hPc⟩
      clear hPc hRc HS6 HRow6 HG6 hig6
      go_wp2_with fail
      go_loopw [10] (fun u wr => ∃ (j : Nat), j ≤ L.length ∧ u = .int .i64 j ∧ Hid (wr.ownsRow w.heap.size 70 2 (.slice (some ⟨ig, 0, none⟩) L.length icap) L.length (kvCells (midItems L (s.ws.length + 2) j))) ∧ ig < wr.heap.size ∧ Hid (WrE w τ wr τb sb (xS s) C)) (fun u _ => L.length - (intOf u).toNat)
      case atStart => exact ⟨0, Nat.zero_le _, rfl, HRow7, hig7, HS7⟩
      case round =>
        rename World => wr2
        obtain ⟨j, hj, rfl, HRow, higr, HR⟩ := hrel
        by_cases hlt : j < L.length
        · have hx : L[j]? = some L[j] := List.getElem?_eq_getElem hlt
          have HST : Hid _ := midItems_step L (s.ws.length + 2) j _ hx
          have ck := HKcell.out τb wr2 HR.out.stp j _ hx
          have hxz := goodKey_size (HG.out _ (List.getElem_mem hlt))
          have hkw : kg < wr2.heap.size := Nat.lt_of_lt_of_le hkl HR.out.stp.size
          generalize L[j] = x at *
          have q0 : (j : Int) < (L.length : Int) := by omega
          have q1 : (0 : Int) ≤ (j : Int) := by omega
          have q2 : j < L.length := hlt
          have cd := digits_any (w := wr2.drew) (s.ws.length + 2) (by omega) (by omega)
          rw [show ((s.ws.length + 2 : Nat) : Int) = (m : Int) + 1 from by omega, ← IntWalk.i64_in ((m : Int) + 1) (by omega)] at cd
          have hdz := digs_size (s.ws.length + 2)
          generalize digs (s.ws.length + 2) = dg at *
          have fz := HRow.out.frozenAt (j * 2 + 1)
          clear hx
          go_wp2_with fail
          have hxd : x.size + dg.size ≤ 9223372036854775807 := by omega
          have hcat : ∀ W : World, (Op.stringOp BinOp.add x dg).run Tryz.prog W = .ok (.string (x ++ dg)) W := by
            intro W
            go_simp
          have hmid : (kvCells (midItems L (s.ws.length + 2) j)).length = L.length * 2 := by rw [kvCells_length, midItems_len]
          obtain ⟨old, hold⟩ : ∃ old, (kvCells (midItems L (s.ws.length + 2) j))[j * 2 + 1]? = some old := ⟨_, List.getElem?_eq_getElem (by rw [hmid]; omega)⟩
          have HOld : Hid ((kvCells (midItems L (s.ws.length + 2) j))[j * 2 + 1]? = some old) := hold
          clear hmid hold
          go_region_held3 (fun W => W.cell? ⟨kg, j, none⟩ = some (.string x)) (first | (simp [*]; done) | (rw [cell_far (by simp only; omega)]; assumption)) ((go_at_call 25; refine cd.mono ?_; rintro e w6 ⟨rfl, hB6⟩; have x6 := (hB6.cell (p := ⟨kg, j, none⟩) hkw).trans ck; have HR6 := row_keep (w' := w6) HRow.out (hB6.block ig higr); have fz6 := HR6.frozenAt (j * 2 + 1); have y6 := (HR6.cellAt (j * 2 + 1) (by omega)).trans HOld.out))
          have HRow' : Hid ((w6.setCell ⟨ig, j * 2 + 1, none⟩ (.string (x ++ dg))).ownsRow w.heap.size 70 2 (.slice (some ⟨ig, 0, none⟩) L.length icap) L.length (kvCells (midItems L (s.ws.length + 2) (j + 1)))) := by
            have := (HR6.stored (j * 2 + 1) (.string (x ++ dg))).1
            rw [HST.out] at this
            exact this
          have HE' : Hid (WrE w τ (w6.setCell ⟨ig, j * 2 + 1, none⟩ (.string (x ++ dg))) τb sb (xS s) C) := by
            have hB6' : Below wr2.heap.size wr2 w6 := ⟨hB6.os, hB6.tape, hB6.output, hB6.size, hB6.block⟩
            refine ⟨(HR.out.rep.below hB6').frame (fun k hk e => ⟨Below.heap_setCell _ _ _ _ (fun e' => ?_), rfl⟩), (HR.out.stp.trans (stp_below hB6')).setNew (a := ⟨ig, j * 2 + 1, none⟩) higw _⟩
            have e'' : k = ig := e'
            rw [e'', HG7.out] at e; exact absurd e (by decide)
          have hig' : ig < (w6.setCell ⟨ig, j * 2 + 1, none⟩ (.string (x ++ dg))).heap.size := by
            have := hB6.size
            have h2 : wr2.drew.heap.size = wr2.heap.size := rfl
            simp [World.setCell]; omega
          clear hcat HR6 fz6 y6 x6 hB6 HRow HR HST cd fz
          go_wp2_with fail
          go_roundw
          case rel => exact ⟨j + 1, by omega, by go_num, HRow', hig', HE'⟩
          case measure => simp [intOf]; omega
        · have hjL : j = L.length := by omega
          subst hjL
          have hlen2 : (valItems L (s.ws.length + 2)).length = L.length := by simp [valItems]
          have HIt : Hid (ItemsAt wr2 (some ⟨ig, 0, none⟩) (valItems L (s.ws.length + 2))) := fun k x hx => by
            have hr := HRow.out
            rw [midItems_end] at hr
            obtain ⟨e1, e2⟩ := kvCells_at _ k x hx
            have hk := lt_of_some hx
            rw [hlen2] at hk
            refine ⟨ig, 0, rfl, ?_, ?_⟩
            · rw [show 0 + k * 2 = k * 2 from by omega, hr.cellAt (k * 2) (by omega), e1]
            · rw [show 0 + k * 2 + 1 = k * 2 + 1 from by omega, hr.cellAt (k * 2 + 1) (by omega), e2]
          have hsok : sizesOk (valItems L (s.ws.length + 2)) := fun x hx => by
            have := goodKV_size ((check_items HV.out).2.2 x hx)
            exact ⟨by unfold maxLen; omega, by unfold maxLen; omega⟩
          have c4 := pWrite HR.out.rep (some ⟨ig, 0, none⟩) icap (L := valItems L (s.ws.length + 2)) (by rw [hlen2]; unfold maxLen; omega) (by rw [hlen2]; exact hi1) hi2 hsok HIt.out (fun ib io e => by cases e; rw [HG7.out]; decide)
          rw [hlen2, wr_write (by omega) HV.out, show (s.ws.length : Int) + 2 = (m : Int) + 1 from by omega] at c4
          unfold ptr at c4
          clear hsok HRow
          go_wp2_with fail
          refine c4.mono ?_
          rintro e wd ⟨τd, D, rfl, hRd, hPd⟩
          clear c4
          have HD : Hid (WrE w τ wd τd sb (wrS s L (fun _ => false)) D) := ⟨hRd, HR.out.stp.trans hPd⟩
          clear hRd hPd HR HIt HRow7 HS7
          go_wp2_with fail
          go_loopw [13] (fun u wr => ∃ (j : Nat) (A' : SA), j ≤ L.length ∧ u = .int .i64 j ∧ Hid (WrE w τ wr τd sb (wrS s L (ordOn s.parts (L.take j))) A')) (fun u _ => L.length - (intOf u).toNat)
          case atStart => exact ⟨0, D, Nat.zero_le _, rfl, by rw [List.take_zero, ordOn_nil]; exact HD⟩
          case round =>
            rename World => wr3
            obtain ⟨j, A3, hj, rfl, HR⟩ := hrel
            by_cases hlt : j < L.length
            · have hx : L[j]? = some L[j] := List.getElem?_eq_getElem hlt
              have HTk : Hid (L.take (j + 1) = L.take j ++ [L[j]]) := List.take_succ_eq_append_getElem hlt
              have HM : Hid (L[j] ∈ L) := List.getElem_mem hlt
              have ck := HKcell.out τd wr3 HR.out.stp j _ hx
              have hgk := HG.out _ (List.getElem_mem hlt)
              have hxz := goodKey_size hgk
              generalize L[j] = x at *
              have cp := pPart HR.out.rep x (by unfold maxLen; omega)
              rw [hgk] at cp
              obtain ⟨hp1, hp4⟩ := HP.out
              obtain ⟨q1, q2⟩ := partOf_bd (s.parts : Int) x (by omega)
              obtain ⟨p, hp⟩ : ∃ p : Nat, partOf (s.parts : Int) x = p := ⟨(partOf (s.parts : Int) x).toNat, by omega⟩
              have hpP : p < 4 := by omega
              simp only [if_true] at cp
              rw [show (wrS s L (ordOn s.parts (L.take j))).parts = s.parts from rfl, hp] at cp
              have HON : Hid (ordOn s.parts (L.take (j + 1)) = put (ordOn s.parts (L.take j)) p) := by unfold Hid; rw [HTk.out]; exact ordOn_snoc hp
              have HPr : Hid _ := wr_prep (s := s) (L := L) (pf := ordOn s.parts (L.take j)) hlen HM.out hp
              unfold ptr at cp
              clear hp q1 q2 hx hp1 hp4
              go_wp2_with fail
              refine cp.mono ?_
              rintro e we ⟨rfl, hBe⟩
              clear cp
              have hRe := HR.out.rep.below hBe
              have HSe : Hid (Stp 2 τ w τd we) := HR.out.stp.trans (stp_below hBe)
              have cq := pPrepare hRe ((s.ws.length : Int) + 2) p (by omega) (by omega) (by omega) (by omega)
              rw [HPr.out, ← HON.out, show (s.ws.length : Int) + 2 = (m : Int) + 1 from by omega] at cq
              unfold ptr at cq
              clear HR hBe hRe HPr ck
              cases hc : ordOn s.parts (L.take j) p with
              | true =>
                rw [hc] at cq
                simp only [if_true] at cq
                clear hc
                go_wp2_with fail
                refine cq.mono ?_
                rintro e wf ⟨F, rfl, hRf, hPf⟩
                clear cq
                have HF : Hid (WrE w τ wf τd sb (wrS s L (ordOn s.parts (L.take (j + 1)))) F) := ⟨hRf, HSe.out.trans hPf⟩
                clear hRf hPf
                go_wp2_with fail
                go_roundw
                case rel => exact ⟨j + 1, F, by omega, by go_num, HF⟩
                case measure => simp [intOf]; omega
              | false =>
                rw [hc] at cq
                simp only [Bool.false_eq_true, if_false] at cq
                clear hc
                go_wp2_with fail
                refine cq.mono ?_
                rintro e wf ⟨F, rfl, hRf, hPf⟩
                clear cq
                have HF : Hid (WrE w τ wf τd sb (wrS s L (ordOn s.parts (L.take (j + 1)))) F) := ⟨hRf, HSe.out.trans hPf⟩
                clear hRf hPf
                go_wp2_with fail
                go_roundw
                case rel => exact ⟨j + 1, F, by omega, by go_num, HF⟩
                case measure => simp [intOf]; omega
            · have hjL : j = L.length := by omega
              rw [hjL, List.take_length] at HR
              go_wp2_with fail
              go_ret
              exact ⟨τd, A3, ret_int (by omega), HR.out.rep, HR.out.stp⟩

end
end Go.Proofs.YteoahlieielcdaaGreat
