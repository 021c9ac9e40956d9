/-
  The program: NewPart, New.
-/
import Derived.Test.YteoahlieielcdaaGreatPr17
namespace Go.Proofs.YteoahlieielcdaaGreat
open Go Go.RowKit Go.MuLone
open Go.Maps (Keyed)

/-- the world behind NewPart -/
def partWorld (w : World) : World := ((w.alloc (.map #[] 0)).alloc (.map #[] 0)).alloc (.cells #[mu0, sem0, .map (some w.heap.size), .map (some (w.heap.size + 1))] 202)

set_option maxHeartbeats 400000 in
theorem newPart_any (w : World) : Calls Tryz.prog 67 #[] w fun e w' => e = .returned (ptr (w.heap.size + 2)) ∧ w' = partWorld w := by
  have hmm := @run_makeMap Tryz.prog
  unfold ptr
  go_enter Tryz.func67, Tryz.ntmps67
  go_wp2
  go_ret
  exact ⟨rfl, rfl⟩

theorem infoPPtr : (Tryz.prog.info? 130).map (fun i => (i.zero, i.size, i.bytes)) = some (some (.pointer none), 1, 8) := by kernel_rfl

/-- what a part that was just made is like -/
structure FreshPart (w : World) (τ : Nat → Tag) (sid q pb kb vb : Nat) : Prop where
  blk : Blk w pb #[mu0, sem0, .map (some kb), .map (some vb)] 202
  kept : MapF w Tryz.prog 3 kb (fun _ => none)
  vis : MapF w Tryz.prog 9 vb (fun _ => none)
  t1 : τ pb = (sid, 2, q)
  t2 : τ kb = (sid, 3, q)
  t3 : τ vb = (sid, 4, q)

/-- A STORE THAT IS BEING MADE: it has k parts. -/
structure MakeS (w : World) (τ : Nat → Tag) (sid sb wm rm : Nat) (mode : Int) (k : Nat) (parr : Value) (pb kb vb : Nat → Nat) (B0 : Nat) : Prop where
  blk : Blk w sb #[.int .i64 mode, parr, mu0, sem0, .int .i64 0, .int .i64 0, .map (some wm), .map (some rm)] 105
  tag : τ sb = (sid, 0, 0)
  wmap : MapF w Tryz.prog 3 wm (fun _ => none)
  wmTag : τ wm = (sid, 5, 0)
  rmap : MapF w Tryz.prog 3 rm (fun _ => none)
  rmTag : τ rm = (sid, 10, 0)
  row : w.ownsRow 0 130 1 parr k ((List.range k).map (fun q => ptr (pb q)))
  parrTag : ∀ j, parr.ownBlock = some j → τ j = (sid, 1, 0)
  part : ∀ q, q < k → FreshPart w τ sid q (pb q) (kb q) (vb q)
  lo : B0 ≤ sb ∧ B0 ≤ wm ∧ B0 ≤ rm ∧ ∀ j, parr.ownBlock = some j → B0 ≤ j

theorem MakeS.rep {w : World} {τ : Nat → Tag} {sid sb wm rm : Nat} {mode : Int} {k : Nat} {parr : Value} {pb kb vb : Nat → Nat} {B0 : Nat} (h : MakeS w τ sid sb wm rm mode k parr pb kb vb B0) (h1 : 1 ≤ k) (h4 : k ≤ 4) :
    ∃ A, RepS w τ sid sb { parts := k, mode := mode, ws := [], rs := [] } A := by
  refine ⟨{ parr := parr, pb := pb, kb := kb, vb := vb, wm := wm, pw := fun _ => 0, sm := fun _ => 0, sh := fun _ _ => 0, iv := fun _ _ => .slice none 0 0, sv := fun _ => .nilIface, vis := fun _ _ => 0, R := { rm := rm, pr := fun _ => 0, qm := fun _ => 0, qb := fun _ _ => 0, no := fun _ => false, ks := fun _ => .slice none 0 0, hv := fun _ _ => false, tv := fun _ _ => ⟨#[]⟩, ts := fun _ _ => .nilIface } }, ⟨h1, h4, by simp, fun i m hm => by simp at hm, fun i m hm => by simp at hm, by simp [openReads]⟩, ⟨fun i m q hm => by simp at hm, fun i m q hm => by simp at hm, fun i m q hm => by simp at hm⟩, ⟨fun i m hm => by simp at hm, fun i m hm => by simp at hm, fun i m j hm => by simp at hm, fun i m j x hm => by simp at hm, fun i m j x hm => by simp at hm, fun i m j x hm => by simp at hm, fun i m j x hm => by simp at hm⟩, h.blk, h.tag, h.row, h.parrTag, fun q hq => (h.part q hq).blk, fun q hq => (h.part q hq).t1, fun q hq => ?_, fun q hq => (h.part q hq).t2, fun q hq => ?_, fun q hq => (h.part q hq).t3, fun q hq => ⟨fun l hl => absurd rfl hl, fun i m x hm => by simp at hm⟩, ?_, h.wmTag, fun i m hm => by simp at hm, fun i m hm => by simp at hm, fun i m hm => by simp at hm, fun i m hm => by simp at hm, fun i m q hm => by simp at hm, fun i m q hm => by simp at hm, fun i m q hm => by simp at hm, fun i m q j hm => by simp at hm, ⟨h.rmap.congr (fun kl => ?_), h.rmTag, fun i m hm => by simp at hm, fun i m hm => by simp at hm, fun i m hm => by simp at hm, fun i m hm => by simp at hm, fun i m q x hm => by simp at hm, fun i m q x hm => by simp at hm, fun i m hm => by simp at hm, fun i m q hm => by simp at hm⟩⟩
  · refine (h.part q hq).kept.congr (fun kl => ?_)
    cases kl with
    | int kd n => cases kd <;> first | rfl | simp [keptF, mFind]
    | _ => rfl
  · refine (h.part q hq).vis.congr (fun kl => ?_)
    cases kl <;> simp [visF]
  · refine h.wmap.congr (fun kl => ?_)
    cases kl with
    | int kd n => cases kd <;> first | rfl | simp [writesF, mFind]
    | _ => rfl
  · cases kl with
    | int kd n => cases kd <;> first | rfl | simp [readsF, findR]
    | _ => rfl

theorem part_below (w : World) : Below w.heap.size w (partWorld w.drew) :=
  (((Below.refl _ w).drew.alloc (Nat.le_refl _) _).alloc (by simp) _).alloc (by simp; omega) _
theorem part_size (w : World) : (partWorld w.drew).heap.size = w.heap.size + 3 := by simp [partWorld]

theorem make_step {w wr w2 : World} {τ τ1 : Nat → Tag} {sid : Nat} {mode : Int} {k : Nat} {parr v2 : Value} {pb kb vb : Nat → Nat} {o : Obj} (hM : MakeS wr τ1 sid (w.heap.size + 2) w.heap.size (w.heap.size + 1) mode k parr pb kb vb w.heap.size) (hB : Below w.heap.size w wr) (HT : ∀ k, k < w.heap.size → τ1 k = τ k)
    (hO : w2.ownsRow 0 130 1 v2 (k + 1) ((List.range k).map (fun q => ptr (pb q)) ++ [.pointer (some ⟨wr.heap.size + 2, 0, none⟩)])) (hG : ((partWorld wr.drew).alloc o).grownBy w2 parr.ownBlock) (hA : v2.ownBlock = parr.ownBlock ∨ v2.ownBlock = some ((partWorld wr.drew).alloc o).heap.size) :
    ∃ (τ' : Nat → Tag) (pb' kb' vb' : Nat → Nat), MakeS (w2.setCell ⟨w.heap.size + 2, 1, none⟩ v2) τ' sid (w.heap.size + 2) w.heap.size (w.heap.size + 1) mode (k + 1) v2 pb' kb' vb' w.heap.size ∧ Below w.heap.size w (w2.setCell ⟨w.heap.size + 2, 1, none⟩ v2) ∧ ∀ k, k < w.heap.size → τ' k = τ k := by
  have hsl := hM.blk.lt
  have hwl := hM.wmap.lt
  have hps := part_size wr
  have hpb := part_below wr
  have hsz : wr.heap.size + 4 ≤ w2.heap.size := by have := hG.size; simp at this; omega
  have hBs := hB.size
  have zb : ∀ j, j < wr.heap.size + 3 → j ≠ w.heap.size + 2 → parr.ownBlock ≠ some j → (w2.setCell ⟨w.heap.size + 2, 1, none⟩ v2).heap[j]? = (partWorld wr.drew).heap[j]? := fun j hj h1 h2 =>
    (Below.heap_setCell _ _ _ _ h1).trans ((hG.block j (by simp; omega) (fun e => h2 e.symm)).trans (Below.heap_alloc _ _ _ (by omega)))
  have zo : ∀ j, j < wr.heap.size → j ≠ w.heap.size + 2 → parr.ownBlock ≠ some j → (w2.setCell ⟨w.heap.size + 2, 1, none⟩ v2).heap[j]? = wr.heap[j]? := fun j hj h1 h2 => (zb j (by omega) h1 h2).trans (hpb.block j hj)
  have hpl : ∀ j, parr.ownBlock = some j → j < wr.heap.size := fun j hj => (row_ge hM.row j hj).2
  have hv : ∀ j, v2.ownBlock = some j → parr.ownBlock = some j ∨ wr.heap.size + 4 ≤ j := fun j hj => by
    rcases hA with e | e
    · exact Or.inl (by rw [← e]; exact hj)
    · rw [hj] at e
      have := Option.some.inj e
      simp at this
      exact Or.inr (by omega)
  have hpt : ∀ {j a c : Nat}, τ1 j = (sid, a, c) → a ≠ 1 → parr.ownBlock ≠ some j := fun ht ha e => by have := hM.parrTag _ e; rw [ht] at this; simp at this; omega
  have hst : ∀ {j a c : Nat}, τ1 j = (sid, a, c) → a ≠ 0 → j ≠ w.heap.size + 2 := fun ht ha e => by have := hM.tag; rw [← e, ht] at this; simp at this; omega
  have hrb : parr.ownBlock ≠ some (w.heap.size + 2) := hpt hM.tag (by omega)
  have htag : ∀ j, j < wr.heap.size → (if j = wr.heap.size + 2 then (sid, 2, k) else if j = wr.heap.size then (sid, 3, k) else if j = wr.heap.size + 1 then (sid, 4, k) else if v2.ownBlock = some j then (sid, 1, 0) else τ1 j) = τ1 j := by
    intro j hj
    rw [if_neg (by omega), if_neg (by omega), if_neg (by omega)]
    split
    · rename_i e
      rcases hv j e with e1 | e1
      · rw [hM.parrTag j e1]
      · omega
    · rfl
  refine ⟨fun j => if j = wr.heap.size + 2 then (sid, 2, k) else if j = wr.heap.size then (sid, 3, k) else if j = wr.heap.size + 1 then (sid, 4, k) else if v2.ownBlock = some j then (sid, 1, 0) else τ1 j,
    fun q => if q = k then wr.heap.size + 2 else pb q, fun q => if q = k then wr.heap.size else kb q, fun q => if q = k then wr.heap.size + 1 else vb q, ⟨?_, ?_, ?_, ?_, ?_, ?_, ?_, fun j hj => ?_, fun q hq => ?_, hM.lo.1, hM.lo.2.1, hM.lo.2.2.1, fun j hj => ?_⟩, ?_, ?_⟩
  · have h1 : Blk w2 (w.heap.size + 2) _ _ := hM.blk.of_eq ((hG.block _ (by simp; omega) (fun e => hrb e.symm)).trans ((Below.heap_alloc _ _ _ (by omega)).trans (hpb.block _ hsl)))
    simpa using h1.set 1 v2
  · rw [htag _ hsl, hM.tag]
  · exact hM.wmap.of_eq (zo _ hwl (by omega) (hpt hM.wmTag (by omega)))
  · rw [htag _ hwl, hM.wmTag]
  · exact hM.rmap.of_eq (zo _ hM.rmap.lt (by omega) (hpt hM.rmTag (by omega)))
  · rw [htag _ hM.rmap.lt, hM.rmTag]
  · have e : (List.range (k + 1)).map (fun q => ptr (if q = k then wr.heap.size + 2 else pb q)) = (List.range k).map (fun q => ptr (pb q)) ++ [.pointer (some ⟨wr.heap.size + 2, 0, none⟩)] := by
      rw [List.range_succ, List.map_append]
      congr 1
      · refine List.map_congr_left (fun q hq => ?_)
        have : q ≠ k := by have := List.mem_range.1 hq; omega
        simp [this]
      · simp [ptr]
    rw [e]
    exact row_of_block hO (fun j hj => Below.heap_setCell _ _ _ _ (fun e => by
      rcases hv j hj with e1 | e1
      · exact hrb (by rw [e1, e])
      · have : j = w.heap.size + 2 := e
        omega))
  · rcases hv j hj with e1 | e1
    · rw [htag j (hpl j e1), hM.parrTag j e1]
    · rw [if_neg (by omega), if_neg (by omega), if_neg (by omega), if_pos hj]
  · by_cases e : q = k
    · subst e
      simp only [if_true]
      have hno : ∀ j, wr.heap.size ≤ j → parr.ownBlock ≠ some j := fun j hj e => by have := hpl j e; omega
      have f3 : ∀ (o1 o2 : Obj) (j : Nat), j < wr.heap.size + 1 → ((wr.drew.alloc o1).alloc o2).heap[j]? = (wr.drew.alloc o1).heap[j]? := fun o1 o2 j hj => Below.heap_alloc _ _ _ (by simp; omega)
      refine ⟨?_, ?_, ?_, ?_, ?_, ?_⟩
      · have h1 : Blk (partWorld wr.drew) (wr.heap.size + 2) #[mu0, sem0, .map (some wr.heap.size), .map (some (wr.heap.size + 1))] 202 := by
          have := Blk.new ((wr.drew.alloc (.map #[] 0)).alloc (.map #[] 0)) #[mu0, sem0, .map (some wr.drew.heap.size), .map (some (wr.drew.heap.size + 1))] 202
          simpa [partWorld] using this
        exact h1.of_eq (zb _ (by omega) (by omega) (hno _ (by omega)))
      · have h1 : MapF (partWorld wr.drew) Tryz.prog 3 wr.heap.size (fun _ => none) := (MapF.made wr.drew Tryz.prog 3).of_eq ((Below.heap_alloc _ _ _ (by show wr.heap.size < ((wr.drew.alloc _).alloc _).heap.size; simp; omega)).trans (f3 _ _ _ (by show wr.heap.size < wr.heap.size + 1; omega)))
        exact h1.of_eq (zb _ (by omega) (by omega) (hno _ (by omega)))
      · have h1 : MapF (partWorld wr.drew) Tryz.prog 9 (wr.heap.size + 1) (fun _ => none) := by
          have := (MapF.made (wr.drew.alloc (.map #[] 0)) Tryz.prog 9).of_eq (w' := partWorld wr.drew) (Below.heap_alloc _ _ _ (by simp))
          simpa using this
        exact h1.of_eq (zb _ (by omega) (by omega) (hno _ (by omega)))
      · simp
      · simp
      · simp
    · have hq' : q < k := by omega
      have hF := hM.part q hq'
      simp only [e, if_false]
      exact ⟨hF.blk.of_eq (zo _ hF.blk.lt (hst hF.t1 (by omega)) (hpt hF.t1 (by omega))), hF.kept.of_eq (zo _ hF.kept.lt (hst hF.t2 (by omega)) (hpt hF.t2 (by omega))), hF.vis.of_eq (zo _ hF.vis.lt (hst hF.t3 (by omega)) (hpt hF.t3 (by omega))),
        by rw [htag _ hF.blk.lt, hF.t1], by rw [htag _ hF.kept.lt, hF.t2], by rw [htag _ hF.vis.lt, hF.t3]⟩
  · rcases hv j hj with e1 | e1
    · exact hM.lo.2.2.2 j e1
    · omega
  · refine ⟨hG.os.trans (hpb.os.trans hB.os), hG.tape.trans (hpb.tape.trans hB.tape), hG.output.trans (hpb.output.trans hB.output), by simp [World.setCell]; omega, fun j hj => ?_⟩
    exact (zo j (by omega) (by omega) (fun e => by have := hM.lo.2.2.2 j e; omega)).trans (hB.block j hj)
  · intro j hj
    simp only
    rw [htag j (by omega)]
    exact HT j hj

set_option maxHeartbeats 400000 in
theorem pNew_bad (parts mode : Int) (w : World) (h : parts < 1 ∨ 4 < parts) :
    Calls Tryz.prog 34 #[.int .i64 parts, .int .i64 mode] w fun e w' => e = .returned (.tuple #[.pointer none, .int .i64 1]) ∧ w' = w := by
  by_cases h1 : parts < 1
  · clear h
    go_enter Tryz.func34, Tryz.ntmps34
    go_wp2
    go_ret2
    exact ⟨rfl, rfl⟩
  · have h2 : 4 < parts := by omega
    clear h
    go_enter Tryz.func34, Tryz.ntmps34
    go_wp2
    go_ret2
    exact ⟨rfl, rfl⟩
set_option maxHeartbeats 400000 in
theorem pNew_mode (parts mode : Int) (w : World) (h1 : 1 ≤ parts) (h2 : parts ≤ 4) (h : goodMode mode = false) :
    Calls Tryz.prog 34 #[.int .i64 parts, .int .i64 mode] w fun e w' => e = .returned (.tuple #[.pointer none, .int .i64 2]) ∧ w' = w := by
  have g1 : ¬ parts < 1 := by omega
  have g2 : ¬ 4 < parts := by omega
  have c := isMode_any mode w
  rw [h] at c
  clear h
  go_enter Tryz.func34, Tryz.ntmps34
  go_wp2_with (go_at_call 66; refine c.mono ?_; rintro e w' ⟨rfl, rfl⟩)
  go_ret2
  exact ⟨rfl, rfl⟩

set_option maxRecDepth 100000 in
set_option maxHeartbeats 2000000 in
theorem pNew_good (parts mode : Int) (w : World) (τ : Nat → Tag) (sid : Nat) (h1 : 1 ≤ parts) (h2 : parts ≤ 4) (h : goodMode mode = true) :
    Calls Tryz.prog 34 #[.int .i64 parts, .int .i64 mode] w fun e w' => ∃ τ' sb A, e = .returned (.tuple #[ptr sb, .int .i64 0]) ∧ RepS w' τ' sid sb { parts := parts.toNat, mode := mode, ws := [], rs := [] } A ∧ Below w.heap.size w w' ∧ (∀ k, k < w.heap.size → τ' k = τ k) ∧ w.heap.size ≤ sb := by
  have g1 : ¬ parts < 1 := by omega
  have g2 : ¬ 4 < parts := by omega
  have c := isMode_any mode w
  rw [h] at c
  clear h
  have hmm := @run_makeMap Tryz.prog
  obtain ⟨pi, hpi, hp0, hpp1, hp2⟩ := info_parts infoPPtr
  obtain ⟨n, rfl⟩ := Int.eq_ofNat_of_zero_le (show 0 ≤ parts by omega)
  go_enter Tryz.func34, Tryz.ntmps34
  go_wp2_with (go_at_call 66; refine c.mono ?_; rintro e w' ⟨rfl, hw⟩; obtain rfl := hw.symm)
  go_loopw [22] (fun u wr => ∃ (k : Nat) (τ' : Nat → Tag) (parr : Value) (pb kb vb : Nat → Nat), k ≤ n ∧ u = .int .i64 k ∧ MakeS wr τ' sid (w.heap.size + 2) w.heap.size (w.heap.size + 1) mode k parr pb kb vb w.heap.size ∧ Below w.heap.size w wr ∧ Hid (∀ k, k < w.heap.size → τ' k = τ k)) (fun u _ => n - (intOf u).toNat)
  case atStart =>
    refine ⟨0, fun k => if k = w.heap.size + 2 then (sid, 0, 0) else if k = w.heap.size then (sid, 5, 0) else if k = w.heap.size + 1 then (sid, 10, 0) else τ k, .slice none 0 0, fun _ => 0, fun _ => 0, fun _ => 0, Nat.zero_le _, rfl, ⟨?_, by simp, (MapF.made w Tryz.prog 3).of_eq ((Below.heap_alloc _ _ _ (by simp; omega)).trans (Below.heap_alloc _ _ _ (by simp))), by simp, ?_, by simp, World.ownsRow_nil _ _ _ _, fun j hj => (by cases hj), fun q hq => (by omega), by omega, by omega, by omega, fun j hj => (by cases hj)⟩, ?_, fun k hk => ?_⟩
    · have := Blk.new ((w.alloc (.map #[] 0)).alloc (.map #[] 0)) #[.int .i64 mode, .slice none 0 0, mu0, sem0, .int .i64 0, .int .i64 0, .map (some w.heap.size), .map (some (w.heap.size + 1))] 105
      simpa [mu0, sem0] using this
    · have := (MapF.made (w.alloc (.map #[] 0)) Tryz.prog 3)
      have e : (w.alloc (.map #[] 0)).heap.size = w.heap.size + 1 := by simp
      rw [e] at this
      exact this.of_eq (Below.heap_alloc _ _ _ (by simp))
    · exact (((Below.refl _ _).alloc (Nat.le_refl _) _).alloc (by simp) _).alloc (by simp; omega) _
    · have e1 : k ≠ w.heap.size + 2 := by omega
      have e2 : k ≠ w.heap.size := by omega
      have e3 : k ≠ w.heap.size + 1 := by omega
      simp [e1, e2, e3]
  case round =>
    obtain ⟨k, τ1, parr, pb, kb, vb, hk, rfl, hM, hB, HT⟩ := hrel
    by_cases hlt : k < n
    · obtain ⟨av, cv, hpv⟩ := row_len hM.row
      have c1 : wr.cell? ⟨w.heap.size + 2, 1, none⟩ = some parr := hM.blk.cell (o := 1) rfl
      have hbl := hM.blk.lt
      have HS : Hid (∀ (w2 : World) (v2 : Value) (o : Obj), w2.ownsRow 0 130 1 v2 (k + 1) ((List.range k).map (fun q => ptr (pb q)) ++ [.pointer (some ⟨wr.heap.size + 2, 0, none⟩)]) → ((partWorld wr.drew).alloc o).grownBy w2 parr.ownBlock → (v2.ownBlock = parr.ownBlock ∨ v2.ownBlock = some ((partWorld wr.drew).alloc o).heap.size) →
          ∃ (τ' : Nat → Tag) (pb' kb' vb' : Nat → Nat), MakeS (w2.setCell ⟨w.heap.size + 2, 1, none⟩ v2) τ' sid (w.heap.size + 2) w.heap.size (w.heap.size + 1) mode (k + 1) v2 pb' kb' vb' w.heap.size ∧ Below w.heap.size w (w2.setCell ⟨w.heap.size + 2, 1, none⟩ v2) ∧ ∀ k, k < w.heap.size → τ' k = τ k) :=
        fun w2 v2 o a1 a2 a3 => make_step hM hB HT.out a1 a2 a3
      have hPB : Below wr.heap.size wr (partWorld wr.drew) := part_below wr
      have hPs : (partWorld wr.drew).heap.size = wr.heap.size + 3 := part_size wr
      have cP : (partWorld wr.drew).cell? ⟨w.heap.size + 2, 1, none⟩ = some parr := (hPB.cell (p := ⟨w.heap.size + 2, 1, none⟩) hbl).trans c1
      have cPa : ∀ o, ((partWorld wr.drew).alloc o).cell? ⟨w.heap.size + 2, 1, none⟩ = some parr := fun o => (World.cell?_of_block (w := partWorld wr.drew) (Below.heap_alloc _ _ _ (by rw [hPs]; simp only; omega))).trans cP
      have hrowP : (partWorld wr.drew).ownsRow 0 130 1 parr k ((List.range k).map (fun q => ptr (pb q))) := row_of_block hM.row (fun j hj => hPB.block j (row_ge hM.row j hj).2)
      have hrb : parr.ownBlock ≠ some (w.heap.size + 2) := fun e => by have h1 := hM.parrTag _ e; rw [hM.tag] at h1; simp at h1
      have HBG : Hid (∀ (w2 : World) (o : Obj), ((partWorld wr.drew).alloc o).grownBy w2 parr.ownBlock → Blk w2 (w.heap.size + 2) #[.int .i64 mode, parr, mu0, sem0, .int .i64 0, .int .i64 0, .map (some w.heap.size), .map (some (w.heap.size + 1))] 105) :=
        fun w2 o hG => hM.blk.of_eq ((hG.block _ (by simp; omega) (fun e => hrb e.symm)).trans ((Below.heap_alloc _ _ _ (by omega)).trans (hPB.block _ hbl)))
      clear hPs
      have cn := newPart_any wr.drew
      unfold ptr at cn
      have hdz : wr.drew.heap.size + 2 = wr.heap.size + 2 := rfl
      rw [hdz] at cn
      subst hpv
      generalize (List.range k).map (fun q => ptr (pb q)) = xs at *
      go_wp2_with fail
      go_region_law (first | (refine step_append_own_at rfl (.tmp 28) (.tmp 30) 94 rfl 0 130 pi _ 1 8 Tryz.underlying94 hpi hp0 hpp1 hp2 rfl (by decide) (.slice av k cv) k xs rfl (hrowP.alloc _) ⟨_, 0, none⟩ 1 1 [.pointer (some ⟨wr.heap.size + 2, 0, none⟩)] rfl rfl (cell_one_new _ _ _) (by simp [Value.oneCell']) (by unfold maxLen; omega) (by omega) (Nat.zero_le _) ?_; intro v2 w2 hO2 hG2 hN2 hA2; have hb2 := HBG.out w2 _ hG2; have d1 := hb2.cell (o := 1) (v := .slice av k cv) rfl; have e1 := hb2.frozen 1; obtain ⟨g2, cap2, hv2, -⟩ := row_form hO2 (by omega); rw [hv2]) | (go_simp; go_at_call 67; refine cn.mono ?_; rintro e w5 ⟨rfl, rfl⟩))
      all_goals
        obtain ⟨τ2, pb2, kb2, vb2, r1, r2, r3⟩ := HS.out w2 v2 _ hO2 hG2 hA2
        have R3 : Hid (∀ k, k < w.heap.size → τ2 k = τ k) := r3
        rw [hv2] at r1 r2
        clear r3 cn
        go_wp2_with fail
        go_roundw
        case rel => exact ⟨k + 1, τ2, _, pb2, kb2, vb2, by omega, by go_num, r1, r2, R3⟩
        case measure => simp [intOf]; omega
    · have hkn : k = n := by omega
      obtain ⟨A, hA⟩ := hM.rep (by omega) (by omega)
      go_wp2_with fail
      go_ret2
      refine ⟨τ1, w.heap.size + 2, A, rfl, ?_, hB, HT.out, by omega⟩
      rw [Int.toNat_natCast, ← hkn]
      exact hA

end Go.Proofs.YteoahlieielcdaaGreat
