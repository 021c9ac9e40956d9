/-
  The document's answer: read, value, visible, Ask.
-/
import Derived.Test.YteoahlieielcdaaGreatRef6
import Derived.Deep.RegionHeld3
namespace Go.Proofs.YteoahlieielcdaaGreat
open Go Go.RowKit

theorem mFindR_none {s : MS} {n : Int} (h : mFindR s n = none) : n < 1 ∨ (s.rs.length : Int) < n ∨ (1 ≤ n ∧ n ≤ s.rs.length ∧ ∃ r, s.rs[(n - 1).toNat]? = some r ∧ r.fin = true) := by
  unfold mFindR findR at h
  split at h
  · omega
  · rename_i hb
    have hlt : (n - 1).toNat < s.rs.length := by omega
    rw [List.getElem?_eq_getElem hlt] at h
    simp only at h
    refine Or.inr (Or.inr ⟨by omega, by omega, _, List.getElem?_eq_getElem hlt, ?_⟩)
    cases hc : s.rs[(n - 1).toNat].fin
    · rw [hc] at h; simp at h
    · rfl
theorem mFindR_some {s : MS} {n : Int} {r : MR} (h : mFindR s n = some r) : 1 ≤ n ∧ n ≤ s.rs.length ∧ s.rs[(n - 1).toNat]? = some r ∧ r.fin = false := by
  unfold mFindR findR at h
  split at h
  · cases h
  · rename_i hb
    have hlt : (n - 1).toNat < s.rs.length := by omega
    rw [List.getElem?_eq_getElem hlt] at h
    simp only at h
    split at h
    · cases h
    · rename_i hc
      cases h
      exact ⟨by omega, by omega, List.getElem?_eq_getElem hlt, by simpa using hc⟩

theorem keyIx_at {l : List ByteArray} {k : ByteArray} {i : Nat} (hi : l[i]? = some k) (hn : ∀ j x, j < i → l[j]? = some x → x ≠ k) : keyIx l k = i := by
  obtain ⟨hlt, he⟩ := List.getElem?_eq_some_iff.1 hi
  unfold keyIx
  rw [List.findIdx_eq hlt]
  refine ⟨by simpa using he, fun j hj => ?_⟩
  have := hn j l[j] hj (List.getElem?_eq_getElem (by omega))
  simpa using this
theorem keyIx_none {l : List ByteArray} {k : ByteArray} (hn : ∀ j x, j < l.length → l[j]? = some x → x ≠ k) : ¬ keyIx l k < l.length := by
  intro h
  unfold keyIx at h
  rw [List.findIdx_lt_length] at h
  obtain ⟨x, hx, he⟩ := h
  obtain ⟨j, hj, rfl⟩ := List.mem_iff_getElem.1 hx
  exact hn j _ hj (List.getElem?_eq_getElem hj) (by simpa using he)

section
variable {w : World} {τ : Nat → Tag} {sid b : Nat} {s : MS} {A : RA}

theorem RepR.cReads (h : RepR w τ sid b s A) : ∃ a cap, A.rv = .slice a s.rs.length cap ∧ w.cell? ⟨b, 3, none⟩ = some (.slice a s.rs.length cap) := by
  obtain ⟨a, cap, hv⟩ := row_len h.reads.arr
  exact ⟨a, cap, hv, by rw [← hv]; exact h.blk.cell (o := 3) rfl⟩
/-- the array of the reads, where there is one, and the read at a place -/
theorem RepR.cRd (h : RepR w τ sid b s A) {i : Nat} {r : MR} (hr : s.rs[i]? = some r) :
    ∃ g cap, w.cell? ⟨b, 3, none⟩ = some (.slice (some ⟨g, 0, none⟩) s.rs.length cap) ∧ w.cell? ⟨g, i, none⟩ = some (.pointer (some ⟨A.B.rb i, 0, none⟩)) ∧ s.rs.length ≤ maxLen := by
  have hi : i < s.rs.length := lt_of_some hr
  obtain ⟨g, cap, hv, h1, h2, hcell, _⟩ := row_form h.reads.arr (by omega)
  refine ⟨g, cap, by rw [← hv]; exact h.blk.cell (o := 3) rfl, ?_, by omega⟩
  rw [hcell i (by omega), List.getElem?_map, List.getElem?_range hi]
  rfl
theorem RepR.cFin (h : RepR w τ sid b s A) {i : Nat} {r : MR} (hr : s.rs[i]? = some r) : w.cell? ⟨A.B.rb i, 3, none⟩ = some (.bool r.fin) := (h.reads.rd i r hr).cell (o := 3) rfl
theorem RepR.rlen (h : RepR w τ sid b s A) : s.rs.length ≤ maxLen := by
  by_cases e : s.rs.length = 0
  · rw [e]; exact Nat.zero_le _
  · obtain ⟨r, hr⟩ : ∃ r, s.rs[0]? = some r := ⟨_, List.getElem?_eq_getElem (by omega)⟩
    obtain ⟨_, _, _, _, hl⟩ := h.cRd hr
    exact hl

set_option maxRecDepth 100000 in
set_option maxHeartbeats 400000 in
theorem rread_none (h : RepR w τ sid b s A) (n : Int) (hn : -9223372036854775808 ≤ n) (hn' : n ≤ 9223372036854775807) (hf : mFindR s n = none) :
    Calls Tryz.prog 102 #[ptr b, .int .i64 n] w fun e w' => e = .returned (.pointer none) ∧ w' = w := by
  have hlen := h.rlen
  unfold maxLen at hlen
  unfold ptr
  rcases mFindR_none hf with h1 | h1 | ⟨h1, h2, m, hm, hc⟩
  · go_enter Tryz.func102, Tryz.ntmps102
    go_wp2
    go_ret
    exact ⟨rfl, rfl⟩
  · have h3 : ¬ n < 1 := by omega
    obtain ⟨a, cap, hv, c2⟩ := h.cReads
    clear hv
    go_enter Tryz.func102, Tryz.ntmps102
    go_wp2
    go_ret
    exact ⟨rfl, rfl⟩
  · have h3 : ¬ n < 1 := by omega
    have h4 : ¬ (s.rs.length : Int) < n := by omega
    obtain ⟨i, hi⟩ : ∃ i : Nat, n = (i : Int) + 1 := ⟨(n - 1).toNat, by omega⟩
    subst hi
    have hx : ((i : Int) + 1 - 1).toNat = i := by omega
    rw [hx] at hm
    obtain ⟨g, cap, c2, ci, _⟩ := h.cRd hm
    have c9 := h.cFin hm
    rw [hc] at c9
    clear hf hm hc hx
    go_enter Tryz.func102, Tryz.ntmps102
    go_wp2
    go_ret
    exact ⟨rfl, rfl⟩

set_option maxRecDepth 100000 in
set_option maxHeartbeats 400000 in
theorem rread_some (h : RepR w τ sid b s A) (n : Int) (r : MR) (hf : mFindR s n = some r) :
    Calls Tryz.prog 102 #[ptr b, .int .i64 n] w fun e w' => e = .returned (ptr (A.B.rb (n - 1).toNat)) ∧ w' = w := by
  have hlen := h.rlen
  unfold maxLen at hlen
  unfold ptr
  obtain ⟨h1, h2, hm, hc⟩ := mFindR_some hf
  have h3 : ¬ n < 1 := by omega
  have h4 : ¬ (s.rs.length : Int) < n := by omega
  obtain ⟨i, hi⟩ : ∃ i : Nat, n = (i : Int) + 1 := ⟨(n - 1).toNat, by omega⟩
  subst hi
  have hx : ((i : Int) + 1 - 1).toNat = i := by omega
  rw [hx] at hm ⊢
  obtain ⟨g, cap, c2, ci, _⟩ := h.cRd hm
  have c9 := h.cFin hm
  rw [hc] at c9
  clear hf hm hc hx
  go_enter Tryz.func102, Tryz.ntmps102
  go_wp2
  go_ret
  exact ⟨rfl, rfl⟩

/-- the value that a write writes to a key -/
def valueOf (l : List KV) (key : ByteArray) : ByteArray := match l.find? (fun x => decide (x.1 = key)) with
  | some x => x.2
  | none => ByteArray.empty
theorem find_none {l : List KV} {key : ByteArray} (h : ∀ j x, j < l.length → l[j]? = some x → x.1 ≠ key) : valueOf l key = ByteArray.empty ∧ hasKey l key = false := by
  have h1 : l.find? (fun x => decide (x.1 = key)) = none := by
    rw [List.find?_eq_none]
    intro x hx
    obtain ⟨j, hj, rfl⟩ := List.mem_iff_getElem.1 hx
    simpa using h j _ hj (List.getElem?_eq_getElem hj)
  refine ⟨by unfold valueOf; rw [h1], ?_⟩
  simp only [hasKey, List.any_eq_false, decide_eq_true_eq]
  rw [List.find?_eq_none] at h1
  intro x hx
  simpa using h1 x hx
theorem find_some {l : List KV} {key : ByteArray} {k : Nat} {x : KV} (hx : l[k]? = some x) (he : x.1 = key) (h : ∀ j y, j < k → l[j]? = some y → y.1 ≠ key) : valueOf l key = x.2 ∧ hasKey l key = true := by
  have h1 : l.find? (fun x => decide (x.1 = key)) = some x := by
    obtain ⟨hk, rfl⟩ := List.getElem?_eq_some_iff.1 hx
    rw [List.find?_eq_some_iff_getElem]
    refine ⟨by simpa using he, k, hk, rfl, fun j hj => ?_⟩
    simpa using h j _ hj (List.getElem?_eq_getElem (by omega))
  refine ⟨by unfold valueOf; rw [h1], ?_⟩
  simp only [hasKey, List.any_eq_true, decide_eq_true_eq]
  exact ⟨x, List.mem_of_getElem? hx, he⟩

set_option maxRecDepth 100000 in
set_option maxHeartbeats 400000 in
theorem value_any (h : RepR w τ sid b s A) {i : Nat} {m : MW} (hm : s.ws[i]? = some m) (key : ByteArray) :
    Calls Tryz.prog 132 #[ptr (A.wb i), .string key] w fun e w' => e = .returned (.tuple #[.string (valueOf m.items key), .bool (hasKey m.items key)]) ∧ w' = w := by
  obtain ⟨hil, hig⟩ := h.ok.items i m hm
  unfold ptr
  by_cases hl : m.items.length = 0
  · obtain ⟨a, cap, hv⟩ := row_len (h.it i m hm)
    have c0 : w.cell? ⟨A.wb i, 0, none⟩ = some (.slice a 0 cap) := by
      have := (h.wr i m hm).cell (o := 0) (v := A.iv i) rfl
      rw [hv, hl] at this; exact this
    have Hr : Hid (valueOf m.items key = ByteArray.empty ∧ hasKey m.items key = false) := find_none (fun j x hj _ => by omega)
    clear hv hl hm hil
    go_enter Tryz.func132, Tryz.ntmps132
    go_wp2
    refine wp_loop_rounds 1 ?_
    rw [rounds_succ]
    go_wp2
    go_ret2
    rw [Hr.out.1, Hr.out.2]
    exact ⟨rfl, rfl⟩
  · obtain ⟨g, cap, c0, hcell⟩ := h.cItems hm (by omega)
    go_enter Tryz.func132, Tryz.ntmps132
    go_wp2
    go_loop [6] (fun u => ∃ k : Nat, k ≤ m.items.length ∧ u = .int .i64 k ∧ Hid (∀ j y, j < k → m.items[j]? = some y → y.1 ≠ key)) (fun u => m.items.length - (intOf u).toNat)
    case atStart => exact ⟨0, Nat.zero_le _, rfl, fun j y hj => by omega⟩
    case round =>
      obtain ⟨k, hk, rfl, HO⟩ := hrel
      by_cases hlt : k < m.items.length
      · have hx : m.items[k]? = some m.items[k] := List.getElem?_eq_getElem hlt
        obtain ⟨ck, cv⟩ := hcell k _ hx
        clear hcell
        generalize m.items[k] = x at *
        obtain ⟨kk, vv⟩ := x
        simp only at ck cv
        by_cases he : kk = key
        · have Hr : Hid (valueOf m.items key = vv ∧ hasKey m.items key = true) := find_some hx he HO.out
          have hb := str_beq he
          clear he hx hig
          go_wp2
          go_ret2
          rw [Hr.out.1, Hr.out.2]
          exact ⟨rfl, rfl⟩
        · have HO' : Hid (∀ j y, j < k + 1 → m.items[j]? = some y → y.1 ≠ key) := by
            intro j y hj hy
            by_cases e : j = k
            · subst e; rw [hx] at hy; cases hy; exact he
            · exact HO.out j y (by omega) hy
          have hb := str_bne he
          clear he hx hig
          go_wp2
          go_round
          case rel => exact ⟨k + 1, by omega, by go_num, HO'⟩
          case measure => simp [intOf]; omega
      · have Hr : Hid (valueOf m.items key = ByteArray.empty ∧ hasKey m.items key = false) := find_none (fun j x hj => HO.out j x (by omega))
        clear hcell
        go_wp2
        go_ret2
        rw [Hr.out.1, Hr.out.2]
        exact ⟨rfl, rfl⟩

end
end Go.Proofs.YteoahlieielcdaaGreat

/-
  The document's answer: visible, Ask.
-/
namespace Go.Proofs.YteoahlieielcdaaGreat
open Go Go.RowKit

theorem visAt_hit {n : Int} {ws : List MW} {key : ByteArray} {k : Nat} {m : MW} (hm : ws[k]? = some m) (h1 : hasKey m.items key = true) (h2 : m.comm (partOf n key).toNat = true) : visAt n ws key (k + 1) = k + 1 := by
  simp only [visAt, hm]
  rw [if_pos (by rw [h1, h2]; rfl)]
theorem visAt_key {n : Int} {ws : List MW} {key : ByteArray} {k : Nat} {m : MW} (hm : ws[k]? = some m) (h1 : hasKey m.items key = false) : visAt n ws key (k + 1) = visAt n ws key k := by
  simp only [visAt, hm]
  rw [if_neg (by rw [h1]; simp)]
theorem visAt_comm {n : Int} {ws : List MW} {key : ByteArray} {k : Nat} {m : MW} (hm : ws[k]? = some m) (h2 : m.comm (partOf n key).toNat = false) : visAt n ws key (k + 1) = visAt n ws key k := by
  simp only [visAt, hm]
  rw [if_neg (by rw [h2]; simp)]
theorem visAt_le {n : Int} {ws : List MW} {key : ByteArray} (k : Nat) : visAt n ws key k ≤ k := by
  induction k with
  | zero => simp [visAt]
  | succ k ih =>
    simp only [visAt]
    split
    · split <;> omega
    · omega

/-- the same memory -/
structure Same0 (w w' : World) : Prop where
  heap : w'.heap = w.heap
  os : w'.os = w.os
  tape : w'.tape = w.tape
  output : w'.output = w.output
theorem Same0.stp {w w' : World} (h : Same0 w w') (s : Nat) (τ : Nat → Tag) : Stp s τ w τ w' := ⟨h.os, h.tape, h.output, by rw [h.heap]; exact Nat.le_refl _, fun _ _ => rfl, fun k _ _ => by rw [h.heap]⟩

theorem openReads_set {l : List MR} {i : Nat} {r r' : MR} (hr : l[i]? = some r) (hf : r'.fin = r.fin) : openReads (l.set i r') = openReads l := by
  unfold openReads
  induction l generalizing i with
  | nil => simp at hr
  | cons x l ih =>
    cases i with
    | zero => simp at hr; subst hr; simp [List.countP_cons, hf]
    | succ i => simp at hr; simp [List.countP_cons, ih hr]

section
variable {w : World} {τ : Nat → Tag} {sid b : Nat} {s : MS} {A : RA}

set_option maxRecDepth 100000 in
set_option maxHeartbeats 800000 in
theorem visible_any (h : RepR w τ sid b s A) (key : ByteArray) (hk8 : key.size ≤ 8) :
    Calls Tryz.prog 103 #[ptr b, .string key] w fun e w' => e = .returned (.int .i64 (mVisible s key)) ∧ w' = w := by
  have hp1 := h.ok.p1
  have hp4 := h.ok.p4
  have hlen := h.ok.len
  have cp := part_any b s.parts key w (by omega) (by omega) (by omega) h.cParts
  obtain ⟨hq0, hq1⟩ := partOf_bd s.parts key (by omega)
  obtain ⟨q, hq⟩ := Int.eq_ofNat_of_zero_le hq0
  obtain ⟨a, cap, hav, cA⟩ := h.cArr
  have HV : Hid (mVisible s key = visAt s.parts s.ws key s.ws.length) := rfl
  have HQ : Hid ((partOf s.parts key).toNat = q) := by unfold Hid; omega
  rw [hq] at cp hq1
  have hq4 : q < 4 := by omega
  clear hq hq0 hav
  unfold ptr
  go_enter Tryz.func103, Tryz.ntmps103
  go_wp2_with fail
  refine cp.mono ?_
  rintro e w' ⟨rfl, rfl⟩
  clear cp
  go_wp2_with fail
  go_loop [6] (fun u => ∃ k : Nat, k ≤ s.ws.length ∧ u = .int .i64 k ∧ Hid (mVisible s key = visAt s.parts s.ws key k)) (fun u => (intOf u).toNat)
  case atStart => exact ⟨s.ws.length, Nat.le_refl _, rfl, HV⟩
  case round =>
    obtain ⟨k, hk, rfl, HO⟩ := hrel
    cases k with
    | zero =>
      have Hr : Hid (mVisible s key = 0) := HO
      go_wp2_with fail
      go_ret
      exact ⟨ret_int (by rw [Hr.out]; rfl), rfl⟩
    | succ k =>
      have hm : s.ws[k]? = some s.ws[k] := List.getElem?_eq_getElem hk
      generalize s.ws[k] = m at *
      obtain ⟨g, cap', c2, ci⟩ := h.cAt hm
      obtain ⟨rfl, rfl⟩ : a = some ⟨g, 0, none⟩ ∧ cap = cap' := by have := cA.symm.trans c2; simpa using this
      clear c2
      have cv := value_any h hm key
      have cq := h.cComm hm (q := q) hq4
      unfold ptr at cv
      generalize valueOf m.items key = vv at *
      cases hh : hasKey m.items key with
      | false =>
        have HO' : Hid (mVisible s key = visAt s.parts s.ws key k) := by unfold Hid; rw [HO.out, visAt_key hm hh]
        rw [hh] at cv
        clear hh hm HO
        go_wp2_with fail
        refine cv.mono ?_
        rintro e w' ⟨rfl, rfl⟩
        clear cv
        go_wp2_with fail
        go_round
        case rel => exact ⟨k, by omega, by go_num, HO'⟩
        case measure => simp [intOf]
      | true =>
        cases hc : m.comm q with
        | false =>
          have HO' : Hid (mVisible s key = visAt s.parts s.ws key k) := by unfold Hid; rw [HO.out, visAt_comm hm (by rw [HQ.out]; exact hc)]
          rw [hh] at cv
          rw [hc] at cq
          clear hh hm HO hc
          go_wp2_with fail
          refine cv.mono ?_
          rintro e w' ⟨rfl, rfl⟩
          clear cv
          go_wp2_with fail
          go_round
          case rel => exact ⟨k, by omega, by go_num, HO'⟩
          case measure => simp [intOf]
        | true =>
          have Hr : Hid (mVisible s key = k + 1) := by unfold Hid; rw [HO.out, visAt_hit hm hh (by rw [HQ.out]; exact hc)]
          rw [hh] at cv
          rw [hc] at cq
          clear hh hm HO hc
          go_wp2_with fail
          refine cv.mono ?_
          rintro e w' ⟨rfl, rfl⟩
          clear cv
          go_wp2_with fail
          go_ret
          exact ⟨ret_int (by rw [Hr.out]; omega), rfl⟩

/-- what lies in a read -/
theorem RepR.cKey (h : RepR w τ sid b s A) {i : Nat} {r : MR} (hr : s.rs[i]? = some r) :
    ∃ gk ck ga ca gf cf, w.cell? ⟨A.B.rb i, 0, none⟩ = some (.slice (some ⟨gk, 0, none⟩) r.keys.length ck) ∧ w.cell? ⟨A.B.rb i, 1, none⟩ = some (.slice (some ⟨ga, 0, none⟩) r.keys.length ca) ∧ w.cell? ⟨A.B.rb i, 2, none⟩ = some (.slice (some ⟨gf, 0, none⟩) r.keys.length cf) ∧
      A.B.av i = .slice (some ⟨ga, 0, none⟩) r.keys.length ca ∧ A.B.fv i = .slice (some ⟨gf, 0, none⟩) r.keys.length cf ∧
      (∀ j x, r.keys[j]? = some x → w.cell? ⟨gk, j, none⟩ = some (.string x) ∧ w.cell? ⟨ga, j, none⟩ = some (.bool (r.asked j)) ∧ w.cell? ⟨gf, j, none⟩ = some (.int .i64 (r.found j))) ∧
      (∀ j, w.frozen? ⟨ga, j, none⟩ = false) ∧ (∀ j, w.frozen? ⟨gf, j, none⟩ = false) := by
  obtain ⟨k1, k2, _⟩ := h.ok.keys i r hr
  obtain ⟨gk, ck, hvk, _, _, hck, _⟩ := row_form (h.reads.ks i r hr) (by omega)
  obtain ⟨ga, ca, hva, _, _, hca, fa⟩ := row_form (h.reads.aq i r hr) (by omega)
  obtain ⟨gf, cf, hvf, _, _, hcf, ff⟩ := row_form (h.reads.fs i r hr) (by omega)
  have hb := h.reads.rd i r hr
  refine ⟨gk, ck, ga, ca, gf, cf, by rw [← hvk]; exact hb.cell (o := 0) rfl, by rw [← hva]; exact hb.cell (o := 1) rfl, by rw [← hvf]; exact hb.cell (o := 2) rfl, hva, hvf, fun j x hx => ?_, fa, ff⟩
  have hj := lt_of_some hx
  refine ⟨?_, ?_, ?_⟩
  · rw [hck j (by omega), List.getElem?_map, hx]; rfl
  · rw [hca j (by omega), List.getElem?_map, List.getElem?_range hj]; rfl
  · rw [hcf j (by omega), List.getElem?_map, List.getElem?_range hj]; rfl

theorem range_set {n j : Nat} {f : Nat → Value} {v : Value} : ((List.range n).map f).set j v = (List.range n).map (fun q => if q = j then v else f q) := by
  apply List.ext_getElem?
  intro q
  rw [List.getElem?_set, List.getElem?_map, List.getElem?_map]
  by_cases e : j = q
  · subst e
    by_cases h : j < n
    · simp [h]
    · simp [h]
  · by_cases h : q < n
    · simp [e, h, Ne.symm e]
    · simp [e, h]

/-- A READ IS TURNED: what was asked of it, what was found. -/
theorem RepR.setRd (h : RepR w τ sid b s A) {i : Nat} {r r' : MR} (hr : s.rs[i]? = some r) (hk : r'.keys = r.keys) (hf : r'.fin = r.fin) {w' : World}
    (hne : ∀ k, τ k ≠ (sid, 7, i) → τ k ≠ (sid, 8, i) → w'.heap[k]? = w.heap[k]?)
    (ha : w'.ownsRow 0 4 1 (A.B.av i) r.keys.length ((List.range r.keys.length).map (fun j => .bool (r'.asked j))))
    (hfo : w'.ownsRow 0 3 1 (A.B.fv i) r.keys.length ((List.range r.keys.length).map (fun j => .int .i64 (r'.found j)))) :
    RepR w' τ sid b { s with rs := s.rs.set i r' } A := by
  have hi := lt_of_some hr
  have hrow : ∀ {e : TypeId} {sz : Nat} {x : Value} {n : Nat} {xs : List Value} {g : Nat × Nat}, w.ownsRow 0 e sz x n xs → (∀ k, x.ownBlock = some k → τ k = (sid, g)) → g ≠ (7, i) → g ≠ (8, i) → w'.ownsRow 0 e sz x n xs := by
    intro e sz x n xs g ho hv g7 g8
    refine row_of_block ho (fun k hk => hne k ?_ ?_)
    · rw [hv k hk]; intro e; exact g7 (by injection e)
    · rw [hv k hk]; intro e; exact g8 (by injection e)
  have hblk : ∀ {k : Nat} {c : Array Value} {t : TypeId} {g : Nat × Nat}, Blk w k c t → τ k = (sid, g) → g ≠ (7, i) → g ≠ (8, i) → Blk w' k c t := by
    intro k c t g hb ht g7 g8
    refine hb.of_eq (hne k ?_ ?_)
    · rw [ht]; intro e; exact g7 (by injection e)
    · rw [ht]; intro e; exact g8 (by injection e)
  have hkeys : ∀ {q : Nat} {rq : MR}, (s.rs.set i r')[q]? = some rq → ∃ ro, s.rs[q]? = some ro ∧ rq.keys = ro.keys ∧ rq.fin = ro.fin := by
    intro q rq hq
    rcases set_some hq with ⟨rfl, rfl⟩ | ⟨_, hq⟩
    · exact ⟨r, hr, hk, hf⟩
    · exact ⟨rq, hq, rfl, rfl⟩
  refine ⟨⟨h.ok.p1, h.ok.p4, h.ok.len, h.ok.items, fun q rq hq => ?_, ?_⟩, hblk h.blk h.tag (by simp) (by simp), h.tag, hrow h.arr h.arrTag (by simp) (by simp), h.arrTag, fun q m hm => hblk (h.wr q m hm) (h.wrTag q (lt_of_some hm)) (by simp) (by simp), h.wrTag, fun q m hm => hrow (h.it q m hm) (fun k => h.itTag q k (lt_of_some hm)) (by simp) (by simp), h.itTag,
    ⟨?_, h.reads.arrTag, fun q rq hq => ?_, by simpa using h.reads.rdTag, fun q rq hq => ?_, by simpa using h.reads.ksTag, fun q rq hq => ?_, by simpa using h.reads.aqTag, fun q rq hq => ?_, by simpa using h.reads.fsTag⟩⟩
  · obtain ⟨ro, ho, e, _⟩ := hkeys hq
    rw [e]; exact h.ok.keys q ro ho
  · show openReads (s.rs.set i r') ≤ 50
    rw [openReads_set hr hf]; exact h.ok.opn
  · simp only [List.length_set]
    exact hrow h.reads.arr h.reads.arrTag (by simp) (by simp)
  · obtain ⟨ro, ho, _, e⟩ := hkeys hq
    have hb := hblk (h.reads.rd q ro ho) (h.reads.rdTag q (lt_of_some ho)) (by simp) (by simp)
    unfold mrCells at hb ⊢
    rw [e]; exact hb
  · obtain ⟨ro, ho, e, _⟩ := hkeys hq
    rw [e]
    exact hrow (h.reads.ks q ro ho) (fun k => h.reads.ksTag q k (lt_of_some ho)) (by simp) (by simp)
  · rcases set_some hq with ⟨rfl, rfl⟩ | ⟨ne, hq⟩
    · rw [hk]; exact ha
    · exact hrow (h.reads.aq q rq hq) (fun k => h.reads.aqTag q k (lt_of_some hq)) (by simp; omega) (by simp)
  · rcases set_some hq with ⟨rfl, rfl⟩ | ⟨ne, hq⟩
    · rw [hk]; exact hfo
    · exact hrow (h.reads.fs q rq hq) (fun k => h.reads.fsTag q k (lt_of_some hq)) (by simp) (by simp; omega)

/-- A KEY IS ASKED: its mark. -/
theorem RepR.ask1 (h : RepR w τ sid b s A) {i : Nat} {r : MR} (hr : s.rs[i]? = some r) {ga ca j : Nat} (hva : A.B.av i = .slice (some ⟨ga, 0, none⟩) r.keys.length ca) :
    RepR (w.setCell ⟨ga, j, none⟩ (.bool true)) τ sid b { s with rs := s.rs.set i { r with asked := put r.asked j } } A ∧ Stp sid τ w τ (w.setCell ⟨ga, j, none⟩ (.bool true)) := by
  have hi := lt_of_some hr
  have ta : τ ga = (sid, 7, i) := h.reads.aqTag i ga hi (by rw [hva]; rfl)
  refine ⟨h.setRd (r' := { r with asked := put r.asked j }) hr rfl rfl (fun k h7 _ => Below.heap_setCell _ _ _ _ (fun e => h7 (by rw [show k = ga from e]; exact ta))) ?_ ?_, (Stp.refl sid τ w).setCell (a := ⟨ga, j, none⟩) (by rw [ta]) _⟩
  · have h0 := h.reads.aq i r hr
    rw [hva] at h0 ⊢
    have h1 := (h0.stored j (.bool true)).1
    rw [range_set] at h1
    refine Eq.mp (congrArg (World.ownsRow _ _ _ _ _ _) ?_) h1
    refine List.map_congr_left (fun q _ => ?_)
    simp only [put]
    split <;> rfl
  · refine row_of_block (h.reads.fs i r hr) (fun k hk => Below.heap_setCell _ _ _ _ (fun e => ?_))
    have tf := h.reads.fsTag i k hi hk
    rw [show k = ga from e, ta] at tf
    simp at tf
/-- what was found -/
theorem RepR.ask2 (h : RepR w τ sid b s A) {i : Nat} {r : MR} (hr : s.rs[i]? = some r) {gf cf j : Nat} (hvf : A.B.fv i = .slice (some ⟨gf, 0, none⟩) r.keys.length cf) (v : Nat) :
    RepR (w.setCell ⟨gf, j, none⟩ (.int .i64 v)) τ sid b { s with rs := s.rs.set i { r with found := fun q => if q = j then v else r.found q } } A ∧ Stp sid τ w τ (w.setCell ⟨gf, j, none⟩ (.int .i64 v)) := by
  have hi := lt_of_some hr
  have tf : τ gf = (sid, 8, i) := h.reads.fsTag i gf hi (by rw [hvf]; rfl)
  refine ⟨h.setRd (r' := { r with found := fun q => if q = j then v else r.found q }) hr rfl rfl (fun k _ h8 => Below.heap_setCell _ _ _ _ (fun e => h8 (by rw [show k = gf from e]; exact tf))) ?_ ?_, (Stp.refl sid τ w).setCell (a := ⟨gf, j, none⟩) (by rw [tf]) _⟩
  · refine row_of_block (h.reads.aq i r hr) (fun k hk => Below.heap_setCell _ _ _ _ (fun e => ?_))
    have ta := h.reads.aqTag i k hi hk
    rw [show k = gf from e, tf] at ta
    simp at ta
  · have h0 := h.reads.fs i r hr
    rw [hvf] at h0 ⊢
    have h1 := (h0.stored j (.int .i64 v)).1
    rw [range_set] at h1
    refine Eq.mp (congrArg (World.ownsRow _ _ _ _ _ _) ?_) h1
    refine List.map_congr_left (fun q _ => ?_)
    simp only
    split <;> rfl
/-- both -/
theorem RepR.ask (h : RepR w τ sid b s A) {i : Nat} {r : MR} (hr : s.rs[i]? = some r) {ga ca gf cf j : Nat} (hva : A.B.av i = .slice (some ⟨ga, 0, none⟩) r.keys.length ca) (hvf : A.B.fv i = .slice (some ⟨gf, 0, none⟩) r.keys.length cf) (v : Nat) {w1 : World} (hw1 : Same0 (w.setCell ⟨ga, j, none⟩ (.bool true)) w1) :
    RepR (w1.setCell ⟨gf, j, none⟩ (.int .i64 v)) τ sid b { s with rs := s.rs.set i { r with asked := put r.asked j, found := fun q => if q = j then v else r.found q } } A ∧
      Stp sid τ w τ (w1.setCell ⟨gf, j, none⟩ (.int .i64 v)) := by
  obtain ⟨h1, s1⟩ := h.ask1 (j := j) hr hva
  have h1' : RepR w1 τ sid b { s with rs := s.rs.set i { r with asked := put r.asked j } } A := h1.frame (fun k _ _ => ⟨by rw [hw1.heap], rfl⟩)
  have s1' : Stp sid τ w τ w1 := s1.trans (hw1.stp sid τ)
  obtain ⟨h2, s2⟩ := h1'.ask2 (i := i) (r := { r with asked := put r.asked j }) (j := j) (gf := gf) (cf := cf) (by simp [lt_of_some hr]) hvf v
  refine ⟨?_, s1'.trans s2⟩
  simpa [List.set_set] using h2

theorem mAsk_none {n : Int} {key : ByteArray} (hf : mFindR s n = none) : mAsk s n key = (7, s) := by unfold mAsk; rw [hf]
theorem mAsk_key {n : Int} {key : ByteArray} {r : MR} (hf : mFindR s n = some r) (hk : ¬ keyIx r.keys key < r.keys.length) : mAsk s n key = (4, s) := by unfold mAsk; rw [hf]; simp only [if_neg hk]
theorem mAsk_done {n : Int} {key : ByteArray} {r : MR} {j : Nat} (hf : mFindR s n = some r) (hj : keyIx r.keys key = j) (hl : j < r.keys.length) (ha : r.asked j = true) : mAsk s n key = (10, s) := by
  unfold mAsk; rw [hf]; simp only [hj, if_pos hl, ha, if_true]
theorem mAsk_ok {n : Int} {key : ByteArray} {r : MR} {i j : Nat} (hf : mFindR s n = some r) (hi : (n - 1).toNat = i) (hj : keyIx r.keys key = j) (hl : j < r.keys.length) (ha : r.asked j = false) :
    mAsk s n key = (0, { s with rs := s.rs.set i { r with asked := put r.asked j, found := fun q => if q = j then mVisible s key else r.found q } }) := by
  unfold mAsk; rw [hf]; simp only [hj, if_pos hl, ha, setR, askAt, hi]; rfl

set_option maxRecDepth 100000 in
set_option maxHeartbeats 800000 in
theorem rAsk (h : RepR w τ sid b s A) (n : Int) (key : ByteArray) (hn : -9223372036854775808 ≤ n) (hn' : n ≤ 9223372036854775807) :
    Calls Tryz.prog 64 #[ptr b, .int .i64 n, .string key] w (RPost w τ sid b A (mAsk s n key)) := by
  cases hf : mFindR s n with
  | none =>
    have Hr : Hid (mAsk s n key = (7, s)) := mAsk_none hf
    have c := rread_none h n hn hn' hf
    unfold ptr at c ⊢
    clear hf
    go_enter Tryz.func64, Tryz.ntmps64
    go_wp2_with fail
    refine c.mono ?_
    rintro e w' ⟨rfl, rfl⟩
    go_wp2_with fail
    go_ret
    rw [Hr.out]
    exact ⟨rfl, h, Stp.refl _ _ _⟩
  | some r =>
    obtain ⟨h1, h2, hr, hc⟩ := mFindR_some hf
    have c := rread_some h n r hf
    obtain ⟨i, hi⟩ : ∃ i, (n - 1).toNat = i := ⟨_, rfl⟩
    rw [hi] at c hr
    obtain ⟨k1, k8, kg, -⟩ := h.ok.keys i r hr
    obtain ⟨gk, ck, ga, ca, gf, cf, c0, c1, c2, hva, hvf, hcell, fa, ff⟩ := h.cKey hr
    have H4 : Hid (¬ keyIx r.keys key < r.keys.length → mAsk s n key = (4, s)) := mAsk_key hf
    have H10 : Hid (∀ j, keyIx r.keys key = j → j < r.keys.length → r.asked j = true → mAsk s n key = (10, s)) := fun j => mAsk_done hf
    have H0 : Hid (∀ j, keyIx r.keys key = j → j < r.keys.length → r.asked j = false → mAsk s n key = _) := fun j => mAsk_ok hf hi
    have HA : Hid (∀ (j v : Nat) (w1 : World), Same0 (w.setCell ⟨ga, j, none⟩ (.bool true)) w1 → RepR (w1.setCell ⟨gf, j, none⟩ (.int .i64 v)) τ sid b { s with rs := s.rs.set i { r with asked := put r.asked j, found := fun q => if q = j then v else r.found q } } A ∧
      Stp sid τ w τ (w1.setCell ⟨gf, j, none⟩ (.int .i64 v))) := fun j v w1 hw1 => h.ask hr hva hvf v hw1
    have hgne : ga ≠ gf := fun e => by
      have ta := h.reads.aqTag i ga (lt_of_some hr) (by rw [hva]; rfl)
      have tf := h.reads.fsTag i gf (lt_of_some hr) (by rw [hvf]; rfl)
      rw [e, tf] at ta; simp at ta
    have hrb : A.B.rb i ≠ ga ∧ A.B.rb i ≠ gf ∧ b ≠ ga := by
      have ta := h.reads.aqTag i ga (lt_of_some hr) (by rw [hva]; rfl)
      have tf := h.reads.fsTag i gf (lt_of_some hr) (by rw [hvf]; rfl)
      have tr := h.reads.rdTag i (lt_of_some hr)
      have tb := h.tag
      refine ⟨fun e => ?_, fun e => ?_, fun e => ?_⟩
      · rw [e, ta] at tr; simp at tr
      · rw [e, tf] at tr; simp at tr
      · rw [e, ta] at tb; simp at tb
    have HV : Hid (∀ (j : Nat) (w1 : World), key.size ≤ 8 → Same0 (w.setCell ⟨ga, j, none⟩ (.bool true)) w1 → Calls Tryz.prog 103 #[ptr b, .string key] w1 fun e w' => e = .returned (.int .i64 (mVisible s key)) ∧ w' = w1) := fun j w1 h8 hw1 =>
      visible_any ((h.ask1 (j := j) hr hva).1.frame (w' := w1) (τ' := τ) (fun k _ _ => ⟨by rw [hw1.heap], rfl⟩)) key h8
    unfold ptr at c ⊢
    clear hf hva hvf hc
    go_enter Tryz.func64, Tryz.ntmps64
    go_wp2_with fail
    refine c.mono ?_
    rintro e w' ⟨rfl, rfl⟩
    clear c
    go_wp2_with fail
    go_loop [8] (fun u => ∃ k : Nat, k ≤ r.keys.length ∧ u = .int .i64 k ∧ Hid (∀ j x, j < k → r.keys[j]? = some x → x ≠ key)) (fun u => r.keys.length - (intOf u).toNat)
    case atStart => exact ⟨0, Nat.zero_le _, rfl, fun j x hj => by omega⟩
    case round =>
      obtain ⟨k, hk, rfl, HO⟩ := hrel
      by_cases hlt : k < r.keys.length
      · have hx : r.keys[k]? = some r.keys[k] := List.getElem?_eq_getElem hlt
        have hg := goodKey_size (kg _ (List.getElem_mem hlt))
        obtain ⟨d0, d1, d2⟩ := hcell k _ hx
        have fa' := fa k
        have ff' := ff k
        generalize r.keys[k] = x at *
        by_cases he : x = key
        · have hb := str_beq he
          have hix : keyIx r.keys key = k := keyIx_at (he ▸ hx) HO.out
          cases ha : r.asked k with
          | true =>
            have Hr : Hid (mAsk s n key = (10, s)) := H10.out k hix hlt ha
            rw [ha] at d1
            clear he hx hcell fa ff hix ha
            go_wp2_with fail
            go_ret
            rw [Hr.out]
            exact ⟨rfl, h, Stp.refl _ _ _⟩
          | false =>
            have Hr := H0.out k hix hlt ha
            have Hr' : Hid (mAsk s n key = _) := Hr
            rw [ha] at d1
            have hs8 : key.size ≤ 8 := by rw [← he]; exact hg.2
            have cv := HV.out k
            have hR := HA.out k
            clear he hx hcell fa ff hix ha Hr HA HV H0 H4 H10
            go_wp2_with fail
            have hXs : ∀ X : World, X = w'.setCell ⟨ga, k, none⟩ (.bool true) → Same0 X X.drew := fun X _ => ⟨rfl, rfl, rfl, rfl⟩
            have c2X : (w'.setCell ⟨ga, k, none⟩ (.bool true)).cell? ⟨A.B.rb i, 2, none⟩ = some (.slice (some ⟨gf, 0, none⟩) r.keys.length cf) :=
              (World.cell?_of_block (w := w') (Below.heap_setCell _ _ _ _ hrb.1)).trans c2
            have d2X : (w'.setCell ⟨ga, k, none⟩ (.bool true)).cell? ⟨gf, k, none⟩ = some (.int .i64 (r.found k)) :=
              (World.cell?_of_block (w := w') (Below.heap_setCell _ _ _ _ hgne.symm)).trans d2
            have ffX : (w'.setCell ⟨ga, k, none⟩ (.bool true)).frozen? ⟨gf, k, none⟩ = false :=
              (World.frozen?_of_block (w := w') (Below.heap_setCell _ _ _ _ hgne.symm)).trans ff'
            have cvX := cv _ hs8 (hXs _ rfl)
            have hRX := hR (mVisible s key) _ (hXs _ rfl)
            have hs1 : (w'.setCell ⟨ga, k, none⟩ (.bool true)).heap.size = w'.heap.size := by simp [World.setCell]
            clear cv hR c2 d2 ff' hXs
            generalize w'.setCell ⟨ga, k, none⟩ (.bool true) = X at *
            unfold ptr at cvX
            obtain ⟨hn1, hn2, hn3⟩ := hrb
            have hn2' := hn2.symm
            go_region_held3 (fun W => W.cell? ⟨A.B.rb i, 2, none⟩ = some (.slice (some ⟨gf, 0, none⟩) r.keys.length cf)) (first | (simp [*]; done) | (refine (World.cell?_of_block (w := X) (Below.heap_setCell _ _ _ _ hn2)).trans ?_; assumption)) ((go_at_call 103; refine cvX.mono ?_; rintro e w2 ⟨rfl, rfl⟩))
            go_wp2_with fail
            go_ret
            rw [Hr'.out]
            exact ⟨rfl, hRX.1, hRX.2⟩
        · have HO' : Hid (∀ j y, j < k + 1 → r.keys[j]? = some y → y ≠ key) := by
            intro j y hj hy
            by_cases e : j = k
            · subst e; rw [hx] at hy; cases hy; exact he
            · exact HO.out j y (by omega) hy
          have hb := str_bne he
          clear he hx hcell fa ff
          go_wp2_with fail
          go_round
          case rel => exact ⟨k + 1, by omega, by go_num, HO'⟩
          case measure => simp [intOf]; omega
      · have Hr : Hid (mAsk s n key = (4, s)) := H4.out (keyIx_none (fun j x hj => HO.out j x (by omega)))
        clear hcell fa ff
        go_wp2_with fail
        go_ret
        rw [Hr.out]
        exact ⟨rfl, h, Stp.refl _ _ _⟩

end
end Go.Proofs.YteoahlieielcdaaGreat
