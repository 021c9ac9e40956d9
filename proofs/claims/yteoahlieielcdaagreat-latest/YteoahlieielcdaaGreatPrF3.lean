/-
  The program: finish, where no key needs a second question.
-/
import Derived.Test.YteoahlieielcdaaGreatPrF2
namespace Go.Proofs.YteoahlieielcdaaGreat
open Go Go.RowKit Go.MuLone
open Go.Maps (Keyed)

theorem infoAns3 : (Tryz.prog.info? 62).map (fun i => (i.zero, i.size, i.bytes)) = some (some (.agg #[.string ByteArray.empty, .int .i64 0, .string ByteArray.empty]), 3, 40) := by kernel_rfl

/-- 'make([]api.Answer, n)': a new row of n places -/
theorem ans_room (n : Nat) (hn : n ≤ 8) (W : World) : ∃ M : Array Value, M.size = n * 3 ∧ (Instr.makeSlice 42 (.int .i64 (n : Int)) (.int .i64 (n : Int))).run Tryz.prog W = .ok (.slice (some ⟨W.heap.size, 0, none⟩) n n) (W.alloc (.cells M 62)) := by
  obtain ⟨i0, hi, hz0, hz1, hz2⟩ := info_parts infoAns3
  have h := run_make (P := Tryz.prog) W 42 62 i0 _ Tryz.underlying42 hi hz0 .i64 .i64 (n : Int) (n : Int) (by omega) (by omega) (by rw [hz2]; omega) (by omega)
  refine ⟨_, ?_, by simpa using h⟩
  rw [size_madeCells, hz1]

/-- the answers of the first k keys lie in C -/
def AnsIn (C : Array Value) (keys : List ByteArray) (c : Nat) (tv : Nat → ByteArray) (k : Nat) : Prop :=
  ∀ (j : Nat) (x : ByteArray), j < k → keys[j]? = some x → C[j * 3]? = some (.string x) ∧ C[j * 3 + 1]? = some (.int .i64 c) ∧ C[j * 3 + 2]? = some (.string (tv j))

theorem AnsIn.step {C : Array Value} {keys : List ByteArray} {c : Nat} {tv : Nat → ByteArray} {k : Nat} {x : ByteArray} (h : AnsIn C keys c tv k) (hx : keys[k]? = some x) (hs : k * 3 + 2 < C.size) :
    AnsIn (((C.setIfInBounds (k * 3) (.string x)).setIfInBounds (k * 3 + 1) (.int .i64 c)).setIfInBounds (k * 3 + 2) (.string (tv k))) keys c tv (k + 1) := by
  intro j y hj hy
  by_cases e : j = k
  · subst e
    rw [hx] at hy; cases hy
    refine ⟨?_, ?_, ?_⟩
    · simp [Array.getElem?_setIfInBounds]; omega
    · simp [Array.getElem?_setIfInBounds]; omega
    · simp [Array.getElem?_setIfInBounds]; omega
  · obtain ⟨h1, h2, h3⟩ := h j y (by omega) hy
    have d1 : ∀ a b : Nat, a ≠ b → ∀ (D : Array Value) (v : Value), (D.setIfInBounds a v)[b]? = D[b]? := fun a b hab D v => by simp [hab]
    refine ⟨?_, ?_, ?_⟩
    · rw [d1 _ _ (by omega), d1 _ _ (by omega), d1 _ _ (by omega)]; exact h1
    · rw [d1 _ _ (by omega), d1 _ _ (by omega), d1 _ _ (by omega)]; exact h2
    · rw [d1 _ _ (by omega), d1 _ _ (by omega), d1 _ _ (by omega)]; exact h3

section
variable {w : World} {A : SA}

set_option maxRecDepth 100000 in
set_option maxHeartbeats 8000000 in
theorem finish_lone {i : Nat} {r : MR} (h : Seen w A i r) (c : Nat) (hall : ∀ (j : Nat) (x : ByteArray), r.keys[j]? = some x → r.found j = c) (hok : ∀ (j : Nat) (x : ByteArray), r.keys[j]? = some x → c = 0 ∨ A.R.hv i j = true) (htz : ∀ (j : Nat) (x : ByteArray), r.keys[j]? = some x → (A.R.tv i j).size ≤ 64) :
    Calls Tryz.prog 44 #[ptr (A.R.pr i)] w fun e w' => ∃ C, e = .returned (.tuple #[.slice (some ⟨w.heap.size, 0, none⟩) r.keys.length r.keys.length, .int .i64 0]) ∧ Blk w' w.heap.size C 62 ∧ C.size = r.keys.length * 3 ∧ AnsIn C r.keys c (A.R.tv i) r.keys.length ∧ Below w.heap.size w w' := by
  have hl8 := h.l8
  have hl1 := h.l1
  obtain ⟨kg, kcap, hkv, _, _, hkcell, _⟩ := row_form h.ky (by omega)
  have hkgl : kg < w.heap.size := (row_ge h.ky kg (by rw [hkv]; rfl)).2
  have hkc : ∀ (j : Nat) (x : ByteArray), r.keys[j]? = some x → w.cell? ⟨kg, j, none⟩ = some (.string x) := fun j x hx => by
    have hj := lt_of_some hx
    rw [hkcell j (by omega), List.getElem?_map, hx]; rfl
  have hprl := h.rd.lt
  have c3 : w.cell? ⟨A.R.pr i, 3, none⟩ = some (.slice (some ⟨kg, 0, none⟩) r.keys.length kcap) := by
    have := h.rd.cell (o := 3) (v := A.R.ks i) rfl
    rw [hkv] at this; exact this
  obtain ⟨M, hMs, hmk⟩ := ans_room r.keys.length hl8 w
  have hB1 : Below w.heap.size w ((w.alloc (.cells M 62)).alloc (.cells #[.slice (some ⟨w.heap.size, 0, none⟩) r.keys.length r.keys.length] 42)) := ((Below.refl _ _).alloc (Nat.le_refl _) _).alloc (by simp) _
  have cc := candidates_any (h.below hB1)
  have hM1 : Blk ((w.alloc (.cells M 62)).alloc (.cells #[.slice (some ⟨w.heap.size, 0, none⟩) r.keys.length r.keys.length] 42)) w.heap.size M 62 := (Blk.new w _ _).of_eq (Below.heap_alloc _ _ _ (by simp))
  have hX1 : Blk ((w.alloc (.cells M 62)).alloc (.cells #[.slice (some ⟨w.heap.size, 0, none⟩) r.keys.length r.keys.length] 42)) (w.heap.size + 1) #[.slice (some ⟨w.heap.size, 0, none⟩) r.keys.length r.keys.length] 42 := by
    have := Blk.new (w.alloc (.cells M 62)) #[.slice (some ⟨w.heap.size, 0, none⟩) r.keys.length r.keys.length] 42
    simpa using this
  have hsz1 : ((w.alloc (.cells M 62)).alloc (.cells #[.slice (some ⟨w.heap.size, 0, none⟩) r.keys.length r.keys.length] 42)).heap.size = w.heap.size + 2 := by simp
  have HS : Hid (Seen w A i r) := h
  clear hkv hkcell
  unfold ptr at cc ⊢
  go_enter Tryz.func44, Tryz.ntmps44
  go_wp2_with fail
  generalize (w.alloc (.cells M 62)).alloc (.cells #[.slice (some ⟨w.heap.size, 0, none⟩) r.keys.length r.keys.length] 42) = w1 at *
  refine cc.mono ?_
  rintro e w2 ⟨⟨ca, cn, ccap, rfl⟩, hB2⟩
  clear cc hmk
  have hB02 : Below w.heap.size w w2 := hB1.trans (hB2.mono hB1.size)
  have hsz2 := hB2.size
  have hB4 : Below w.heap.size w ((w2.alloc (.cells #[.slice ca cn ccap] 58)).alloc (.cells #[.int .u64 0, .int .u32 0] 155)) := (hB02.alloc hB02.size _).alloc (by simp; omega) _
  have hM4 : Blk ((w2.alloc (.cells #[.slice ca cn ccap] 58)).alloc (.cells #[.int .u64 0, .int .u32 0] 155)) w.heap.size M 62 := (hM1.of_eq (hB2.block _ (by omega))).of_eq ((Below.heap_alloc _ _ _ (by simp; omega)).trans (Below.heap_alloc _ _ _ (by omega)))
  have hX4 : Blk ((w2.alloc (.cells #[.slice ca cn ccap] 58)).alloc (.cells #[.int .u64 0, .int .u32 0] 155)) (w.heap.size + 1) _ _ := (hX1.of_eq (hB2.block _ (by omega))).of_eq ((Below.heap_alloc _ _ _ (by simp; omega)).trans (Below.heap_alloc _ _ _ (by omega)))
  have hG4 : Blk ((w2.alloc (.cells #[.slice ca cn ccap] 58)).alloc (.cells #[.int .u64 0, .int .u32 0] 155)) (w2.heap.size + 1) #[.int .u64 0, .int .u32 0] 155 := by
    have := Blk.new (w2.alloc (.cells #[.slice ca cn ccap] 58)) #[.int .u64 0, .int .u32 0] 155
    simpa using this
  have c34 : ((w2.alloc (.cells #[.slice ca cn ccap] 58)).alloc (.cells #[.int .u64 0, .int .u32 0] 155)).cell? ⟨A.R.pr i, 3, none⟩ = some (.slice (some ⟨kg, 0, none⟩) r.keys.length kcap) := (hB4.cell (p := ⟨A.R.pr i, 3, none⟩) hprl).trans c3
  go_wp2_with fail
  generalize ((w2.alloc (.cells #[.slice ca cn ccap] 58)).alloc (.cells #[.int .u64 0, .int .u32 0] 155)) = w4 at *
  generalize hgb : w2.heap.size + 1 = gb at *
  have hgbl : w.heap.size + 1 < gb := by omega
  clear hB1 hM1 hX1 hsz1 hB2 hB02 hsz2 hgb
  go_loopw [6, 24] (fun s6 u wr => ∃ (k : Nat) (C : Array Value), k ≤ r.keys.length ∧ s6 = .int .i64 0 ∧ u = .int .i64 k ∧ Blk wr w.heap.size C 62 ∧ C.size = r.keys.length * 3 ∧ Hid (AnsIn C r.keys c (A.R.tv i) k) ∧ Blk wr (w.heap.size + 1) #[.slice (some ⟨w.heap.size, 0, none⟩) r.keys.length r.keys.length] 42 ∧ Blk wr gb #[.int .u64 0, .int .u32 0] 155 ∧ Below w.heap.size w wr) (fun _ u _ => r.keys.length - (intOf u).toNat)
  case atStart => exact ⟨0, M, Nat.zero_le _, rfl, rfl, hM4, hMs, fun j x hj => by omega, hX4, hG4, hB4⟩
  case round =>
    obtain ⟨k, C, hk, rfl, rfl, hC, hCs, HA, hX, hG, hB⟩ := hrel
    by_cases hlt : k < r.keys.length
    · have hx : r.keys[k]? = some r.keys[k] := List.getElem?_eq_getElem hlt
      have ck := hkc k _ hx
      have ck' := (hB.cell (p := ⟨kg, k, none⟩) hkgl).trans ck
      have hfk := hall k _ hx
      have htk := htz k _ hx
      have HA' : Hid _ := HA.out.step hx (by omega)
      have hkz := h.kz _ (List.getElem_mem hlt)
      obtain ⟨qp, hq⟩ := h.q k _ hx
      rw [hfk] at hq
      have hti := fun (W : World) (hW : Below w.heap.size w W) => isToldEnough_lone (h.below hW) c hall hok hx
      have HTI : Hid _ := hti
      have hqf : questF A.R i r (.string r.keys[k].data.toList) = some (.pointer (some ⟨A.R.qb i k, 0, none⟩)) := by
        have e1 := keyIx_nd h.nd hx
        simp only [questF, qIx_eq, e1, if_pos hlt]; rfl
      generalize r.keys[k] = x at *
      generalize A.R.tv i k = tvk at *
      clear ck hti
      go_upto_region 8 with (fail)
      have hBa : Below w.heap.size w ((wr.alloc (.cells #[.int .i64 k] 3)).alloc (.cells #[.string x] 9)) := (hB.alloc hB.size _).alloc (by have := hB.size; simp; omega) _
      have hBr : Below wr.heap.size wr ((wr.alloc (.cells #[.int .i64 k] 3)).alloc (.cells #[.string x] 9)) := ((Below.refl _ _).alloc (Nat.le_refl _) _).alloc (by simp) _
      have e8 : Blk ((wr.alloc (.cells #[.int .i64 k] 3)).alloc (.cells #[.string x] 9)) wr.heap.size #[.int .i64 k] 3 := (Blk.new wr _ _).of_eq (Below.heap_alloc _ _ _ (by simp))
      have e9 : Blk ((wr.alloc (.cells #[.int .i64 k] 3)).alloc (.cells #[.string x] 9)) (wr.heap.size + 1) #[.string x] 9 := by
        have := Blk.new (wr.alloc (.cells #[.int .i64 k] 3)) #[.string x] 9
        simpa using this
      have hsza : ((wr.alloc (.cells #[.int .i64 k] 3)).alloc (.cells #[.string x] 9)).heap.size = wr.heap.size + 2 := by simp
      generalize (wr.alloc (.cells #[.int .i64 k] 3)).alloc (.cells #[.string x] 9) = wa at *
      have b9 : wa.cell? ⟨wr.heap.size + 1, 0, none⟩ = some (.string x) := e9.cell (o := 0) rfl
      have b4 : wa.cell? ⟨A.R.pr i, 4, none⟩ = some (.map (some (A.R.qm i))) := (hBa.cell (p := ⟨A.R.pr i, 4, none⟩) hprl).trans (h.rd.cell (o := 4) rfl)
      have hszr := hB.size
      have hqm := h.qm.of_eq (w' := wa) (hBa.block _ h.qm.lt)
      have hlkW : ∀ W : World, W.heap[A.R.qm i]? = wa.heap[A.R.qm i]? → (Instr.lookup 135 (.map (some (A.R.qm i))) (.string x) false).run Tryz.prog W = .ok (.pointer (some ⟨A.R.qb i k, 0, none⟩)) W := fun W hW => by
        have := MapF.look (w := W) (e := 139) (hqm.of_eq hW) keyStr Tryz.underlying135 (zeroQPtr _) (keyOf_str (s := x) (by unfold maxLen; omega))
        rw [hqf] at this
        exact this
      have hl1' := hlkW wa.drew rfl
      have hl2' := hlkW (wa.alloc (.cells #[.pointer none] 139)).drew (Below.heap_alloc _ _ _ hqm.lt)
      have hprla : A.R.pr i < wa.heap.size := by omega
      clear hlkW
      go_cut [10] (fun s10 wx => ∃ ob, s10 = .pointer (some ⟨ob, 0, none⟩) ∧ Blk wx ob #[.pointer (some ⟨A.R.qb i k, 0, none⟩)] 139 ∧ Below wa.heap.size wa wx ∧ wa.heap.size ≤ ob)
      case first =>
        go_region_held3 (fun W => W.cell? ⟨A.R.pr i, 4, none⟩ = some (.map (some (A.R.qm i))) ∧ W.cell? ⟨wr.heap.size + 1, 0, none⟩ = some (.string x)) (first | (simp [*]; done) | (refine ⟨?_, ?_⟩ <;> (rw [World.cell?_of_block (w := wa.drew) (Below.heap_alloc wa.drew _ _ (by simp only; omega))]; assumption)) | (go_keep; done)) (fail)
        all_goals
          go_wp2_with fail
          go_meet
          case rel =>
            have hnb := Blk.new wa #[.pointer (some ⟨A.R.qb i k, 0, none⟩)] 139
            rw [hsza] at hnb
            exact ⟨wr.heap.size + 2, rfl, hnb, ((Below.refl _ _).alloc (Nat.le_refl _) _).drew, by omega⟩
      case rest =>
        obtain ⟨ob, rfl, hob, hBc, hol⟩ := hcut
        have hB0c : Below w.heap.size w wc := hBa.trans (hBc.mono hBa.size)
        have ct := HTI.out wc hB0c
        unfold ptr at ct
        have x9 : wc.cell? ⟨wr.heap.size + 1, 0, none⟩ = some (.string x) := (hBc.cell (p := ⟨wr.heap.size + 1, 0, none⟩) (by simp only; omega)).trans b9
        clear hl1' hl2' b4 b9 hqf
        go_wp2_with fail
        refine ct.mono ?_
        rintro e w5 ⟨rfl, hB5⟩
        clear ct
        have hszc := hBc.size
        have hsz5 := hB5.size
        have hB05 : Below w.heap.size w w5 := hB0c.trans (hB5.mono hB0c.size)
        have hBr5 : Below wr.heap.size wr w5 := hBr.trans ((hBc.mono hBr.size).trans (hB5.mono (by omega)))
        have hBa5 : Below wa.heap.size wa w5 := hBc.trans (hB5.mono hszc)
        have hgl := hG.lt
        have hX5 : Blk w5 (w.heap.size + 1) _ _ := hX.of_eq (hBr5.block _ hX.lt)
        have hC5 : Blk w5 w.heap.size C _ := hC.of_eq (hBr5.block _ hC.lt)
        have hG5 : Blk w5 gb _ _ := hG.of_eq (hBr5.block _ hG.lt)
        have h85 : Blk w5 wr.heap.size _ _ := e8.of_eq (hBa5.block _ e8.lt)
        have h95 : Blk w5 (wr.heap.size + 1) _ _ := e9.of_eq (hBa5.block _ e9.lt)
        have ho5 : Blk w5 ob _ _ := hob.of_eq (hB5.block _ hob.lt)
        have hq5 : Blk w5 (A.R.qb i k) _ _ := hq.of_eq (hB05.block _ hq.lt)
        have hql := hq.lt
        have hobl := ho5.lt
        have m1 : w5.cell? ⟨w.heap.size + 1, 0, none⟩ = some (.slice (some ⟨w.heap.size, 0, none⟩) r.keys.length r.keys.length) := hX5.cell (o := 0) rfl
        have m2 : w5.cell? ⟨wr.heap.size, 0, none⟩ = some (.int .i64 k) := h85.cell (o := 0) rfl
        have m3 : w5.cell? ⟨wr.heap.size + 1, 0, none⟩ = some (.string x) := h95.cell (o := 0) rfl
        have m4 : w5.cell? ⟨ob, 0, none⟩ = some (.pointer (some ⟨A.R.qb i k, 0, none⟩)) := ho5.cell (o := 0) rfl
        have m5 : w5.cell? ⟨A.R.qb i k, 2, none⟩ = some (.int .i64 c) := hq5.cell (o := 2) rfl
        have m6 : w5.cell? ⟨A.R.qb i k, 4, none⟩ = some (.string tvk) := hq5.cell (o := 4) rfl
        have cna := newAnswer_any (w := w5.drew) x c tvk (by omega)
        have HZ : Hid (∀ w6 : World, Below w5.drew.heap.size w5.drew w6 → (∀ (p : Addr) (v : Value), w5.cell? p = some v → w6.cell? p = some v) ∧ Blk w6 w.heap.size C 62) := fun w6 hB6 => ⟨fun p v hv => (hB6.cell (p := p) (World.block_lt_of_cell? w5 _ hv)).trans hv, hC5.of_eq (hB6.block _ hC5.lt)⟩
        have HW : Hid (∀ w6 : World, Below w5.drew.heap.size w5.drew w6 → Blk (((w6.setCell ⟨w.heap.size, k * 3, none⟩ (.string x)).setCell ⟨w.heap.size, k * 3 + 1, none⟩ (.int .i64 c)).setCell ⟨w.heap.size, k * 3 + 2, none⟩ (.string tvk)) w.heap.size _ 62 ∧
            Blk (((w6.setCell ⟨w.heap.size, k * 3, none⟩ (.string x)).setCell ⟨w.heap.size, k * 3 + 1, none⟩ (.int .i64 c)).setCell ⟨w.heap.size, k * 3 + 2, none⟩ (.string tvk)) (w.heap.size + 1) #[.slice (some ⟨w.heap.size, 0, none⟩) r.keys.length r.keys.length] 42 ∧
            Blk (((w6.setCell ⟨w.heap.size, k * 3, none⟩ (.string x)).setCell ⟨w.heap.size, k * 3 + 1, none⟩ (.int .i64 c)).setCell ⟨w.heap.size, k * 3 + 2, none⟩ (.string tvk)) gb #[.int .u64 0, .int .u32 0] 155 ∧
            Below w.heap.size w (((w6.setCell ⟨w.heap.size, k * 3, none⟩ (.string x)).setCell ⟨w.heap.size, k * 3 + 1, none⟩ (.int .i64 c)).setCell ⟨w.heap.size, k * 3 + 2, none⟩ (.string tvk))) := fun w6 hB6 => by
          have hfar : ∀ q, q ≠ w.heap.size → (((w6.setCell ⟨w.heap.size, k * 3, none⟩ (.string x)).setCell ⟨w.heap.size, k * 3 + 1, none⟩ (.int .i64 c)).setCell ⟨w.heap.size, k * 3 + 2, none⟩ (.string tvk)).heap[q]? = w6.heap[q]? := fun q hq => by
            rw [Below.heap_setCell _ _ _ _ hq, Below.heap_setCell _ _ _ _ hq, Below.heap_setCell _ _ _ _ hq]
          have hB06 : Below w.heap.size w w6 := hB05.drew.trans (hB6.mono hB05.size)
          exact ⟨(((hC5.of_eq (hB6.block _ hC5.lt)).set _ _).set _ _).set _ _, (hX5.of_eq (hB6.block _ hX5.lt)).of_eq (hfar _ (by omega)), (hG5.of_eq (hB6.block _ hG5.lt)).of_eq (hfar _ (by omega)), ((hB06.setCell (p := ⟨w.heap.size, k * 3, none⟩) (Nat.le_refl _) _).setCell (p := ⟨w.heap.size, k * 3 + 1, none⟩) (Nat.le_refl _) _).setCell (p := ⟨w.heap.size, k * 3 + 2, none⟩) (Nat.le_refl _) _⟩
        obtain ⟨y0, hk0⟩ : ∃ v, C[k * 3]? = some v := ⟨_, Array.getElem?_eq_getElem (by omega)⟩
        obtain ⟨y1, hk1⟩ : ∃ v, C[k * 3 + 1]? = some v := ⟨_, Array.getElem?_eq_getElem (by omega)⟩
        obtain ⟨y2, hk2⟩ : ∃ v, C[k * 3 + 2]? = some v := ⟨_, Array.getElem?_eq_getElem (by omega)⟩
        have HK : Hid (∀ w6 : World, Blk w6 w.heap.size C 62 → w6.cell? ⟨w.heap.size, k * 3, none⟩ = some y0 ∧ w6.cell? ⟨w.heap.size, k * 3 + 1, none⟩ = some y1 ∧ w6.cell? ⟨w.heap.size, k * 3 + 2, none⟩ = some y2) := fun w6 hC6 => ⟨hC6.cell hk0, hC6.cell hk1, hC6.cell hk2⟩
        have hn1 : w.heap.size + 1 ≠ w.heap.size := by omega
        have hn2 : wr.heap.size ≠ w.heap.size := by omega
        have hn3 : wr.heap.size + 1 ≠ w.heap.size := by omega
        have hn4 : ob ≠ w.heap.size := by omega
        have hn5 : A.R.qb i k ≠ w.heap.size := by omega
        have HSz : Hid (C.size = r.keys.length * 3) := hCs
        clear hB5 hBc hB0c hBr5 hBa5 hBa hBr hX hC hG e8 e9 hob hq hX5 hG5 h85 h95 ho5 hq5 x9 hC5 hk0 hk1 hk2 hCs hqm hX4 hM4 hG4 hB4
        go_wp2_with fail
        go_region_held3 (fun W => W.cell? ⟨w.heap.size + 1, 0, none⟩ = some (.slice (some ⟨w.heap.size, 0, none⟩) r.keys.length r.keys.length) ∧ W.cell? ⟨wr.heap.size, 0, none⟩ = some (.int .i64 k) ∧ W.cell? ⟨wr.heap.size + 1, 0, none⟩ = some (.string x) ∧ W.cell? ⟨ob, 0, none⟩ = some (.pointer (some ⟨A.R.qb i k, 0, none⟩)) ∧ W.cell? ⟨A.R.qb i k, 2, none⟩ = some (.int .i64 c) ∧ W.cell? ⟨A.R.qb i k, 4, none⟩ = some (.string tvk))
          (first | (simp [*]; done) | (refine ⟨?_, ?_, ?_, ?_, ?_, ?_⟩ <;> (rw [cell_far (by assumption), cell_far (by assumption), cell_far (by assumption)]; assumption)))
          ((go_at_call 78; refine cna.mono ?_; rintro e w6 ⟨rfl, hB6⟩; obtain ⟨hcp, hC6⟩ := HZ.out w6 hB6; obtain ⟨d0, d1, d2⟩ := HK.out w6 hC6; have g0 := hC6.frozen (k * 3); have g1 := hC6.frozen (k * 3 + 1); have g2 := hC6.frozen (k * 3 + 2); have n1 := hcp _ _ m1; have n2 := hcp _ _ m2; have n3 := hcp _ _ m3; have n4 := hcp _ _ m4; have n5 := hcp _ _ m5; have n6 := hcp _ _ m6; clear hcp))
        all_goals
          obtain ⟨r1, r2, r3, r4⟩ := HW.out w6 hB6
          go_wp2_with fail
          go_roundw
          case rel => exact ⟨k + 1, _, by omega, rfl, by go_num, r1, by simpa using HSz.out, HA', r2, r3, r4⟩
          case measure => simp [intOf]; omega
    · have hkL : k = r.keys.length := by omega
      rw [hkL] at HA
      have cw := wait_idle gb hG
      have x4 : wr.cell? ⟨w.heap.size + 1, 0, none⟩ = some (.slice (some ⟨w.heap.size, 0, none⟩) r.keys.length r.keys.length) := hX.cell (o := 0) rfl
      unfold ptr at cw
      clear hkL hkc hall hok htz
      go_wp2_with fail
      refine cw.mono ?_
      rintro e w6 ⟨rfl, rfl⟩
      clear cw
      go_wp2_with fail
      go_ret2
      exact ⟨C, rfl, hC, hCs, HA.out, hB⟩

end
end Go.Proofs.YteoahlieielcdaaGreat
