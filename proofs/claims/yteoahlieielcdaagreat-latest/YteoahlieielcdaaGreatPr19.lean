/-
  The program: checkKeys.
-/
import Derived.Test.YteoahlieielcdaaGreatPr18
import Derived.Test.YteoahlieielcdaaGreatRef9
import Derived.Test.YteoahlieielcdaaGreatRef7
namespace Go.Proofs.YteoahlieielcdaaGreat
open Go Go.RowKit Go.MuLone

section
variable {w : World}

set_option maxRecDepth 100000 in
set_option maxHeartbeats 400000 in
theorem index_any (key : ByteArray) (gb go : Nat) (L : List ByteArray) (cap : Nat) (h8 : L.length ≤ 8) (hcell : ∀ (k : Nat) (x : ByteArray), L[k]? = some x → w.cell? ⟨gb, go + k, none⟩ = some (.string x)) (n : Nat) (hn : n ≤ L.length) :
    Calls Tryz.prog 106 #[.slice (some ⟨gb, go, none⟩) n cap, .string key] w fun e w' => (∃ i : Int, e = .returned (.int .i64 i) ∧ (keyIn (L.take n) key = decide (0 ≤ i))) ∧ w' = w := by
  go_enter Tryz.func106, Tryz.ntmps106
  go_wp2_with fail
  go_loop [8] (fun u => ∃ k : Nat, k ≤ n ∧ u = .int .i64 k ∧ Hid (∀ j y, j < k → L[j]? = some y → y ≠ key)) (fun u => n - (intOf u).toNat)
  case atStart => exact ⟨0, Nat.zero_le _, rfl, fun j y hj => by omega⟩
  case round =>
    obtain ⟨k, hk, rfl, HO⟩ := hrel
    by_cases hlt : k < n
    · have hkL : k < L.length := by omega
      have hx : L[k]? = some L[k] := List.getElem?_eq_getElem hkL
      have ck := hcell k _ hx
      clear hcell
      generalize L[k] = kk at *
      by_cases he : key = kk
      · have Hr : Hid (keyIn (L.take n) key = true) := keyIn_some hlt hx he.symm
        have hb := str_beq he
        clear he hx
        go_wp2_with fail
        go_ret
        exact ⟨⟨k, rfl, by rw [Hr.out]; simp⟩, rfl⟩
      · have HO' : Hid (∀ j y, j < k + 1 → L[j]? = some y → y ≠ key) := by
          intro j y hj hy
          by_cases e : j = k
          · subst e; rw [hx] at hy; cases hy; exact fun e => he e.symm
          · exact HO.out j y (by omega) hy
        have hb := str_bne he
        clear he hx
        go_wp2_with fail
        go_round
        case rel => exact ⟨k + 1, by omega, by go_num, HO'⟩
        case measure => simp [intOf]; omega
    · have Hr : Hid (keyIn (L.take n) key = false) := keyIn_none (fun j y hj => HO.out j y (by omega))
      clear hcell
      go_wp2_with fail
      go_ret
      exact ⟨⟨-1, rfl, by rw [Hr.out]; simp⟩, rfl⟩

set_option maxRecDepth 100000 in
set_option maxHeartbeats 400000 in
theorem containsK_any (key : ByteArray) (gb go : Nat) (L : List ByteArray) (cap : Nat) (h8 : L.length ≤ 8) (hcell : ∀ (k : Nat) (x : ByteArray), L[k]? = some x → w.cell? ⟨gb, go + k, none⟩ = some (.string x)) (n : Nat) (hn : n ≤ L.length) :
    Calls Tryz.prog 69 #[.slice (some ⟨gb, go, none⟩) n cap, .string key] w fun e w' => e = .returned (.bool (keyIn (L.take n) key)) ∧ w' = w := by
  have c := index_any key gb go L cap h8 hcell n hn
  clear hcell
  go_enter Tryz.func69, Tryz.ntmps69
  go_wp2_with fail
  refine c.mono ?_
  rintro e w' ⟨⟨i, rfl, Hi⟩, rfl⟩
  have HI : Hid (keyIn (L.take n) key = decide (0 ≤ i)) := Hi
  clear c Hi
  go_wp2_with fail
  go_ret
  exact ⟨ret_bool HI.out.symm, rfl⟩

set_option maxRecDepth 100000 in
set_option maxHeartbeats 400000 in
theorem checkKeys_size (a : Option Addr) (L : List ByteArray) (cap : Nat) (hL : L.length ≤ maxLen) (hs : L.length < 1 ∨ 8 < L.length) :
    Calls Tryz.prog 36 #[.slice a L.length cap] w fun e w' => e = .returned (.int .i64 (mKeys L)) ∧ w' = w := by
  have Hr : Hid (mKeys L = 3) := by unfold Hid mKeys; rw [if_pos hs]
  unfold maxLen at hL
  have cz := isSize_any L.length w
  have hg : goodSize L.length = false := by
    unfold goodSize
    rcases hs with e | e
    · rw [decide_eq_false (by omega)]; rfl
    · rw [Bool.and_eq_false_iff]; exact Or.inr (decide_eq_false (by omega))
  rw [hg] at cz
  clear hs hg
  go_enter Tryz.func36, Tryz.ntmps36
  go_wp2_with (go_at_call 68; refine cz.mono ?_; rintro e w' ⟨rfl, rfl⟩)
  go_ret
  exact ⟨ret_int Hr.out.symm, rfl⟩

set_option maxRecDepth 100000 in
set_option maxHeartbeats 1000000 in
theorem checkKeys_main (gb go : Nat) (L : List ByteArray) (cap : Nat) (h1 : 1 ≤ L.length) (h8 : L.length ≤ 8) (hc8 : L.length ≤ cap) (hcm : cap ≤ maxLen) (hz : ∀ x ∈ L, x.size ≤ maxLen)
    (hcell : ∀ (k : Nat) (x : ByteArray), L[k]? = some x → w.cell? ⟨gb, go + k, none⟩ = some (.string x)) :
    Calls Tryz.prog 36 #[.slice (some ⟨gb, go, none⟩) L.length cap] w fun e w' => e = .returned (.int .i64 (mKeys L)) ∧ w' = w := by
  have HC : Hid (mKeys L = keyFrom [] L) := by unfold Hid mKeys; rw [if_neg (by omega)]
  unfold maxLen at hcm
  have cz := isSize_any L.length w
  have hgs : goodSize L.length = true := by
    unfold goodSize
    rw [decide_eq_true (show (1 : Int) ≤ L.length by omega), decide_eq_true (show (L.length : Int) ≤ 8 by omega)]; rfl
  rw [hgs] at cz
  clear hgs
  go_enter Tryz.func36, Tryz.ntmps36
  go_wp2_with (go_at_call 68; refine cz.mono ?_; rintro e w' ⟨rfl, hw0⟩; obtain rfl := hw0.symm)
  clear cz
  go_loop [11] (fun u => ∃ k : Nat, k ≤ L.length ∧ u = .int .i64 k ∧ Hid (keyFrom [] L = keyFrom (L.take k) (L.drop k))) (fun u => L.length - (intOf u).toNat)
  case atStart => exact ⟨0, Nat.zero_le _, rfl, by simp [Hid]⟩
  case round =>
    obtain ⟨k, hk, rfl, HK⟩ := hrel
    by_cases hlt : k < L.length
    · have hx : L[k]? = some L[k] := List.getElem?_eq_getElem hlt
      have c1 := hcell k _ hx
      have hs1 := hz _ (List.getElem_mem hlt)
      have ck := isKey_any L[k] w hs1
      have cc := containsK_any (w := w) L[k] gb go L cap h8 hcell k hk
      generalize L[k] = kk at *
      unfold maxLen at hs1
      cases hgk : goodKey kk with
      | false =>
        have Hr : Hid (mKeys L = 4) := by
          unfold Hid
          rw [HC.out, HK.out, drop_atK hx, key_bad hgk]
        rw [hgk] at ck
        clear hgk hx hcell cc
        go_wp2_with (go_at_call 49; refine ck.mono ?_; rintro e w' ⟨rfl, rfl⟩)
        go_ret
        exact ⟨ret_int Hr.out.symm, rfl⟩
      | true =>
        rw [hgk] at ck
        cases hh : keyIn (L.take k) kk with
        | true =>
          have Hr : Hid (mKeys L = 5) := by
            unfold Hid
            rw [HC.out, HK.out, drop_atK hx, key_twice hgk hh]
          rw [hh] at cc
          clear hgk hx hh hcell
          go_wp2_with (first | (go_at_call 49; refine ck.mono ?_; rintro e w' ⟨rfl, rfl⟩) | (go_at_call 69; refine cc.mono ?_; rintro e w' ⟨rfl, rfl⟩))
          go_ret
          exact ⟨ret_int Hr.out.symm, rfl⟩
        | false =>
          have HK' : Hid (keyFrom [] L = keyFrom (L.take (k + 1)) (L.drop (k + 1))) := by
            unfold Hid
            rw [HK.out, drop_atK hx, key_go hgk hh, take_atK hx]
          rw [hh] at cc
          clear hgk hx hh hcell
          go_wp2_with (first | (go_at_call 49; refine ck.mono ?_; rintro e w' ⟨rfl, rfl⟩) | (go_at_call 69; refine cc.mono ?_; rintro e w' ⟨rfl, rfl⟩))
          go_round
          case rel => exact ⟨k + 1, by omega, by go_num, HK'⟩
          case measure => simp [intOf]; omega
    · have Hr : Hid (mKeys L = 0) := by
        unfold Hid
        rw [HC.out, HK.out, show k = L.length from by omega, List.drop_length]
        rfl
      clear hcell
      go_wp2_with fail
      go_ret
      exact ⟨ret_int Hr.out.symm, rfl⟩

end
end Go.Proofs.YteoahlieielcdaaGreat

/-
  The program: Visible, findRead, ask, Ask.
-/
namespace Go.Proofs.YteoahlieielcdaaGreat
open Go Go.RowKit Go.MuLone
open Go.Maps (Keyed)

/-- the write at a place writes the key, and is committed on its part -/
def Hit (n : Int) (ws : List MW) (key : ByteArray) (i : Nat) : Prop := ∃ m, ws[i]? = some m ∧ hasKey m.items key = true ∧ m.comm (partOf n key).toNat = true
theorem visAt_eq {n : Int} {ws : List MW} {key : ByteArray} : ∀ (k v : Nat), v ≤ k → (v ≠ 0 → Hit n ws key (v - 1)) → (∀ i, i < k → Hit n ws key i → i + 1 ≤ v) → visAt n ws key k = v := by
  intro k
  induction k with
  | zero => intro v h1 _ _; simp [visAt]; omega
  | succ k ih =>
    intro v h1 hs ht
    by_cases hh : Hit n ws key k
    · have := ht k (by omega) hh
      obtain ⟨m, hm, a, b⟩ := hh
      rw [visAt_hit hm a b]
      omega
    · have hv : v ≤ k := by
        apply Classical.byContradiction
        intro e
        have : v = k + 1 := by omega
        subst this
        exact hh (hs (by omega))
      have hr := ih v hv hs (fun i hi => ht i (by omega))
      rw [← hr]
      show visAt n ws key (k + 1) = _
      simp only [visAt]
      split
      · rename_i m hm
        rw [if_neg (fun e => hh ⟨m, hm, by simpa using e⟩)]
      · rfl

theorem zeroRPtr (w : World) : (zeroValue 106).run Tryz.prog w = .ok (.pointer none) w := by rw [Tryz.zeroValue106]
theorem zeroQPtr (w : World) : (zeroValue 139).run Tryz.prog w = .ok (.pointer none) w := by rw [Tryz.zeroValue139]

section
variable {w : World} {τ : Nat → Tag} {sid b : Nat} {s : MS} {A : SA}

theorem RepS.vis_eq (h : RepS w τ sid b s A) (key : ByteArray) : A.vis (partOf s.parts key).toNat key.data.toList = mVisible s key := by
  have hp1 := h.ok.p1
  obtain ⟨h0, h1⟩ := partOf_bd s.parts key (by omega)
  have hq : (partOf s.parts key).toNat < s.parts := by omega
  have hv := h.visOk _ hq
  symm
  unfold mVisible
  refine visAt_eq _ _ ?_ (fun hne => ?_) (fun i hi hh => ?_)
  · by_cases e : A.vis (partOf s.parts key).toNat key.data.toList = 0
    · omega
    · obtain ⟨m, hm, _⟩ := hv.seen _ e
      have := lt_of_some hm
      omega
  · obtain ⟨m, hm, hc, x, hx, hxl, _⟩ := hv.seen _ hne
    refine ⟨m, hm, ?_, hc⟩
    simp only [hasKey, List.any_eq_true, decide_eq_true_eq]
    exact ⟨x, hx, WideShapes.bytes_inj hxl⟩
  · obtain ⟨m, hm, hk, hc⟩ := hh
    simp only [hasKey, List.any_eq_true, decide_eq_true_eq] at hk
    obtain ⟨x, hx, rfl⟩ := hk
    exact hv.top i m x hm hc hx (by omega)

/-- a store of what stands there -/
theorem setCell_id {w : World} {b o : Nat} {v : Value} {c : Array Value} {t : TypeId} (h : Blk w b c t) (hv : c[o]? = some v) : w.setCell ⟨b, o, none⟩ v = w := by
  have e : (w.setCell ⟨b, o, none⟩ v).heap = w.heap := by
    apply Array.ext_getElem?
    intro i
    by_cases ei : i = b
    · subst ei
      have h1 : (w.setCell ⟨i, o, none⟩ v).heap[i]? = some (.cells (c.setIfInBounds o v) t (0, 0)) := h.set o v
      have h2 : w.heap[i]? = some (.cells c t (0, 0)) := h
      rw [h1, h2]
      congr 2
      obtain ⟨ho, hv'⟩ := Array.getElem?_eq_some_iff.1 hv
      apply Array.ext_getElem?
      intro j
      by_cases ej : o = j
      · subst ej; simp [ho, hv']
      · simp [ej]
    · rw [Below.heap_setCell _ _ _ _ ei]
  show { w with heap := (w.setCell ⟨b, o, none⟩ v).heap } = w
  rw [e]

theorem infoTold : (Tryz.prog.info? 144).map (·.size) = some 4 := by kernel_rfl

set_option maxRecDepth 100000 in
set_option maxHeartbeats 800000 in
theorem kVisible (pb kb vb : Nat) (f : Lit → Option Value) (hb : Blk w pb #[mu0, sem0, .map (some kb), .map (some vb)] 202) (hM : MapF w Tryz.prog 9 vb f) (key : ByteArray) (hk : key.size ≤ maxLen) (v : Nat) (hf : (f (.string key.data.toList)).getD (.int .i64 0) = .int .i64 v) :
    Calls Tryz.prog 74 #[ptr pb, .string key] w fun e w' => e = .returned (.agg #[.int .i64 v, .bool false, .string ⟨#[]⟩, .nilIface]) ∧ Below w.heap.size w w' := by
  have hpl := hb.lt
  have hvl := hM.lt
  have hne := blk_ne_map hb hM
  have hb1 : Blk (w.alloc (.cells #[.int .i64 0, .bool false, .string ⟨#[]⟩, .nilIface] 144)) pb _ _ := hb.of_eq (Below.heap_alloc _ _ _ hpl)
  have hM1 : MapF (w.alloc (.cells #[.int .i64 0, .bool false, .string ⟨#[]⟩, .nilIface] 144)) Tryz.prog 9 vb f := hM.of_eq (Below.heap_alloc _ _ _ hvl)
  have hT := Blk.new w #[.int .i64 0, .bool false, .string ⟨#[]⟩, .nilIface] 144
  have hBo : ∀ k, k < w.heap.size → (w.alloc (.cells #[.int .i64 0, .bool false, .string ⟨#[]⟩, .nilIface] 144)).heap[k]? = w.heap[k]? := fun k hk => Below.heap_alloc _ _ _ hk
  have hsz : (w.alloc (.cells #[.int .i64 0, .bool false, .string ⟨#[]⟩, .nilIface] 144)).heap.size = w.heap.size + 1 := by simp
  have hos : (w.alloc (.cells #[.int .i64 0, .bool false, .string ⟨#[]⟩, .nilIface] 144)).os = w.os ∧ (w.alloc (.cells #[.int .i64 0, .bool false, .string ⟨#[]⟩, .nilIface] 144)).tape = w.tape ∧ (w.alloc (.cells #[.int .i64 0, .bool false, .string ⟨#[]⟩, .nilIface] 144)).output = w.output := ⟨rfl, rfl, rfl⟩
  unfold ptr
  go_enter_defers Tryz.func74, Tryz.ntmps74
  go_wp2_with fail
  generalize w.alloc (.cells #[.int .i64 0, .bool false, .string ⟨#[]⟩, .nilIface] 144) = wa at *
  have c0 : wa.cell? ⟨pb, 0, none⟩ = some (.int .i32 0) := hb1.cell (o := 0) rfl
  have f0 := hb1.frozen 0
  refine (lock_free Tryz.muLib ⟨pb, 0, none⟩ _ c0 f0).mono ?_
  rintro e w' ⟨rfl, rfl⟩
  have hb2 := hb1.set 0 (.int .i32 1)
  have hM2 : MapF (wa.setCell ⟨pb, 0, none⟩ (.int .i32 1)) Tryz.prog 9 vb f := hM1.of_eq (Below.heap_setCell _ _ _ _ (fun e => hne e.symm))
  have hT2 : Blk (wa.setCell ⟨pb, 0, none⟩ (.int .i32 1)) w.heap.size _ _ := hT.of_eq (Below.heap_setCell _ _ _ _ (by simp only; omega))
  generalize hwb : wa.setCell ⟨pb, 0, none⟩ (.int .i32 1) = wb at *
  have d3 : wb.cell? ⟨pb, 3, none⟩ = some (.map (some vb)) := hb2.cell (o := 3) rfl
  have t0 := hT2.cell (o := 0) (v := .int .i64 0) rfl
  have t1 := hT2.cell (o := 1) (v := .bool false) rfl
  have t2 := hT2.cell (o := 2) (v := .string ⟨#[]⟩) rfl
  have t3 := hT2.cell (o := 3) (v := .nilIface) rfl
  have g0 := hT2.frozen 0
  have g1 := hT2.frozen 1
  have g2 := hT2.frozen 2
  have g3 := hT2.frozen 3
  have hlk : (Instr.lookup 200 (.map (some vb)) (.string key) false).run Tryz.prog wb.drew = .ok (.int .i64 v) wb.drew := by
    have := MapF.look (w := wb.drew) (e := 3) hM2 keyStr Tryz.underlying200 (zeroInt _) (keyOf_str hk)
    rw [hf] at this
    exact this
  go_wp2_with fail
  have hpn : pb ≠ w.heap.size := by omega
  have hTd : Blk wb.drew w.heap.size _ _ := hT2
  have hfar : ∀ x, (wb.setCell ⟨w.heap.size, 0, none⟩ x).drew.cell? ⟨pb, 3, none⟩ = some (.map (some vb)) := fun x => (cell_far (w := wb) hpn).trans d3
  have z0 : wb.drew.setCell ⟨w.heap.size, 0, none⟩ (.int .i64 0) = wb.drew := setCell_id hTd rfl
  have z1 : wb.drew.setCell ⟨w.heap.size, 1, none⟩ (.bool false) = wb.drew := setCell_id hTd rfl
  have z2 : wb.drew.setCell ⟨w.heap.size, 2, none⟩ (.string ⟨#[]⟩) = wb.drew := setCell_id hTd rfl
  have z3 : wb.drew.setCell ⟨w.heap.size, 3, none⟩ .nilIface = wb.drew := setCell_id hTd rfl
  go_region_held3 (fun W => W.cell? ⟨pb, 3, none⟩ = some (.map (some vb))) (first | exact hfar _ | (simp [*]; done)) (fail)
  all_goals
    go_wp2_with fail
    have hb3 : Blk (wb.setCell ⟨w.heap.size, 0, none⟩ (.int .i64 v)).drew pb _ _ := hb2.of_eq (Below.heap_setCell _ _ _ _ hpn)
    have hT3 : Blk (wb.setCell ⟨w.heap.size, 0, none⟩ (.int .i64 v)).drew w.heap.size #[.int .i64 v, .bool false, .string ⟨#[]⟩, .nilIface] 144 := by
      have this : Blk (wb.setCell ⟨w.heap.size, 0, none⟩ (.int .i64 v)) w.heap.size #[.int .i64 v, .bool false, .string ⟨#[]⟩, .nilIface] 144 := by simpa using hT2.set 0 (.int .i64 v)
      exact this
    have hT4 : Blk ((wb.setCell ⟨w.heap.size, 0, none⟩ (.int .i64 v)).drew.setCell ⟨pb, 0, none⟩ mu0) w.heap.size _ _ := hT3.of_eq (Below.heap_setCell _ _ _ _ (fun e => hpn e.symm))
    refine leaves_cons (f := 38) (args := #[.pointer (some ⟨pb, 0, none⟩)]) (by simp) (by simp [go_sem]) ?_
    refine (unlock_deferred Tryz.muLib ⟨pb, 0, none⟩ .returning _ (hb3.cell (o := 0) rfl) (hb3.frozen 0)).mono ?_
    rintro e u' w'' ⟨rfl, rfl, rfl⟩
    refine ⟨_, results_cell_row rfl _ _ w.heap.size _ _ (0, 0) _ rfl hT4 Tryz.underlying144 rfl infoTold, rfl, ?_, ?_, ?_, ?_, ?_⟩
    · rw [← hwb]; exact hos.1
    · rw [← hwb]; exact hos.2.1
    · rw [← hwb]; exact hos.2.2
    · have : wb.heap.size = wa.heap.size := by rw [← hwb]; simp [World.setCell]
      simp [World.setCell]; omega
    · intro k hk
      refine (unlock_block hb1 rfl (v := .int .i32 1) (p := fun k => k < w.heap.size) (fun k hk => ?_) k hk).trans (hBo k hk)
      rw [hwb]
      exact Below.heap_setCell _ _ _ _ (by simp only; omega)

/-- what findRead answers -/
def findRVal (s : MS) (A : SA) (n : Int) : Value × Bool := match mFindR s n with
  | some _ => (ptr (A.R.pr (n - 1).toNat), true)
  | none => (.pointer none, false)

set_option maxRecDepth 100000 in
set_option maxHeartbeats 800000 in
theorem findRead_any (h : RepS w τ sid b s A) (n : Int) (hn : -9223372036854775808 ≤ n) (hn' : n ≤ 9223372036854775807) :
    Calls Tryz.prog 40 #[ptr b, .int .i64 n] w fun e w' => e = .returned (.tuple #[(findRVal s A n).1, .bool (findRVal s A n).2]) ∧ Same w w' := by
  have c2 : w.cell? ⟨b, 2, none⟩ = some (.int .i32 0) := h.blk.cell (o := 2) rfl
  have c7 : w.cell? ⟨b, 7, none⟩ = some (.map (some A.R.rm)) := h.blk.cell (o := 7) rfl
  have f2 := h.blk.frozen 2
  have hM : ∀ v, MapF (w.setCell ⟨b, 2, none⟩ v) Tryz.prog 3 A.R.rm (readsF s.rs A.R) := fun v => h.reads.rmap.of_eq (Below.heap_setCell _ _ _ _ (fun e => by have := h.reads.rmTag; rw [e, h.tag] at this; simp at this))
  have hSame := lock_round h.blk (o := 2) rfl (.int .i32 1)
  unfold mu0 at hSame
  obtain ⟨fv, hfv, hval⟩ : ∃ fv, readsF s.rs A.R (.int .i64 n) = fv ∧ (findRVal s A n).1 = fv.getD (.pointer none) ∧ (findRVal s A n).2 = fv.isSome := by
    refine ⟨_, rfl, ?_⟩
    unfold readsF findRVal mFindR
    cases hf : findR s.rs n <;> simp only [hf] <;> exact ⟨rfl, rfl⟩
  rw [hval.1, hval.2]
  unfold ptr
  go_enter_defers Tryz.func40, Tryz.ntmps40
  go_wp2_with (first | (go_at_call 37; refine (lock_free Tryz.muLib ⟨b, 2, none⟩ _ c2 f2).mono ?_; rintro e w' ⟨rfl, rfl⟩) | (at_lookup; refine wpList_lookF_ok _ rfl _ _ 103 rfl 3 106 keyInt Tryz.underlying103 (zeroRPtr _) A.R.rm (readsF s.rs A.R) rfl (hM _) _ (.int .i64 n) rfl (keyOf_int hn hn') fv hfv ?_))
  refine leaves_cons (f := 38) (args := #[.pointer (some ⟨b, 2, none⟩)]) (by simp) (by simp [go_sem]) ?_
  refine (unlock_deferred Tryz.muLib ⟨b, 2, none⟩ .returning _ ?_ ?_).mono ?_
  · exact World.cell?_setCell_same w ⟨b, 2, none⟩ (.int .i32 1) c2
  · simp [f2]
  rintro e u' w'' ⟨rfl, rfl, rfl⟩
  exact ⟨_, results_tmp2 rfl _ _ _, rfl, hSame⟩

end
end Go.Proofs.YteoahlieielcdaaGreat
