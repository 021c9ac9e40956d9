/-
  The program: Finish: is all asked; a read is forgotten.
-/
import Derived.Test.YteoahlieielcdaaGreatPr23
import Derived.Test.YteoahlieielcdaaGreatPr21
namespace Go.Proofs.YteoahlieielcdaaGreat
open Go Go.RowKit Go.MuLone
open Go.Maps (Keyed)

/-- THE STEP OF A RANGE over a map by texts. -/
theorem wpList_nextS {P : Program} (w : World) {ops : Array Oper} {rest : List Oper} {o : Oper} {a : Act} {Q : Exit → Act → World → Prop} (hg : o.guard = none) (it : Operand) (hop : o.op = Op.next it false) (k : TypeId) (K : Keyed P k) (hk : P.underlying k = some .string)
    (b r n : Nat) (D : DataW Value) (f : Lit → Option Value) (hs : Says D f) (g : ByteArray → Nat) (p : ByteArray → Prop) (hf : ∀ x u, f (.string x.data.toList) = some u → u = .pointer (some ⟨g x, 0, none⟩) ∧ p x) (left : Lit → Bool) (cnt : Nat)
    (hit : a.eval it = .pointer (some ⟨r, 0, none⟩)) (h : w.ranges P k rawElem b r n D left cnt)
    (hDone : (∀ kl, left kl = false) → wpList P ops Q rest (a.put o.dst (.tuple #[.bool false])) w)
    (hMore : ∀ (x : ByteArray) (w' : World) (cnt' : Nat), p x → left (.string x.data.toList) = true → w'.ranges P k rawElem b r n D (fun z => left z && !z.sameKey (.string x.data.toList)) cnt' → cnt' < cnt → w.grownBy w' (some r) → w'.heap.size = w.heap.size →
      (Instr.entry (.pointer (some ⟨r, 0, none⟩))).run P w' = .ok (.tuple #[.string x, .pointer (some ⟨g x, 0, none⟩)]) w' → wpList P ops Q rest (a.put o.dst (.tuple #[.bool true, .string x, .pointer (some ⟨g x, 0, none⟩)])) w') :
    wpList P ops Q (o :: rest) a w := by
  refine wpList_plain hg fun K' hK' => ?_
  unfold Oper.wp
  rcases h.next K o.type with ⟨h0, hl, hrun⟩ | ⟨key, v, kl, y, w', cnt', hkey, hlk, hv, hat, hrun, hrg, hlt, hgr, hsz, hen⟩
  · simp [execOp, hop, hit, hrun, Result.andThen]
    exact hK' _ _ (hDone hl)
  · obtain ⟨x, rfl, rfl, _⟩ := WideMaps.string_of_keyOf hk hkey
    simp only [rawElem, Option.some.injEq] at hv
    subst hv
    have hh := Maps.has_true_of_atKey hat
    rw [hs.2] at hh
    obtain ⟨u, hu⟩ := Option.isSome_iff_exists.1 hh
    have e1 := (hs.1 _ u hu .nil).symm.trans (hat .nil)
    injection e1 with e1
    subst e1
    obtain ⟨rfl, hp⟩ := hf x _ hu
    simp [execOp, hop, hit, hrun, Result.andThen]
    exact hK' _ _ (hMore x w' cnt' hp hlk hrg hlt hgr hsz hen)

/-- is all asked? -/
def allAsked (r : MR) : Bool := (List.range r.keys.length).all r.asked

theorem keyIx_nd {keys : List ByteArray} (hn : keys.Nodup) {j : Nat} {x : ByteArray} (hx : keys[j]? = some x) : keyIx keys x = j := by
  obtain ⟨hj, rfl⟩ := List.getElem?_eq_some_iff.1 hx
  unfold keyIx
  rw [List.findIdx_eq hj]
  refine ⟨by simp, fun k hk => ?_⟩
  simp only [decide_eq_false_iff_not]
  intro e
  exact (List.pairwise_iff_getElem.1 hn) k j (by omega) hj hk e

section
variable {w : World} {τ : Nat → Tag} {sid b : Nat} {s : MS} {A : SA}

/-- what a range over the questions of a read meets -/
theorem quest_meets (B : SB) (i : Nat) (r : MR) : ∀ x u, questF B i r (.string x.data.toList) = some u → u = .pointer (some ⟨B.qb i (keyIx r.keys x), 0, none⟩) ∧ (keyIx r.keys x < r.keys.length ∧ r.keys[keyIx r.keys x]? = some x) := by
  intro x u hu
  simp only [questF, qIx_eq] at hu
  split at hu
  · rename_i h
    cases hu
    exact ⟨rfl, h, keyIx_get h⟩
  · cases hu
theorem quest_has {D : DataW Value} {B : SB} {i : Nat} {r : MR} (hs : Says D (questF B i r)) (hn : r.keys.Nodup) {j : Nat} {x : ByteArray} (hx : r.keys[j]? = some x) : Maps.has D (.string x.data.toList) = true := by
  rw [hs.2]
  have := keyIx_nd hn hx
  have hj := lt_of_some hx
  simp [questF, qIx_eq, this, hj]

set_option maxRecDepth 100000 in
set_option maxHeartbeats 1000000 in
theorem isAllAsked_any (h : RepS w τ sid b s A) {i : Nat} {r : MR} (hr : s.rs[i]? = some r) (hfin : r.fin = false) :
    Calls Tryz.prog 42 #[ptr (A.R.pr i)] w fun e w' => e = .returned (.bool (allAsked r)) ∧ Below w.heap.size w w' := by
  have hW := h.reads.rd i r hr hfin
  have hnd := (h.ok.keys i r hr).2.2.2
  have c0 : w.cell? ⟨A.R.pr i, 0, none⟩ = some (.int .i32 0) := hW.cell (o := 0) rfl
  have f0 := hW.frozen 0
  have hW1 := hW.set 0 (.int .i32 1)
  have hqne : A.R.qm i ≠ A.R.pr i := fun e => by have h1 := h.reads.qmTag i r hr hfin; rw [e, h.reads.rdTag i r hr hfin] at h1; simp at h1
  have hoth : ∀ k, k ≠ A.R.pr i → (w.setCell ⟨A.R.pr i, 0, none⟩ (.int .i32 1)).heap[k]? = w.heap[k]? := fun k hk => Below.heap_setCell _ _ _ _ hk
  have hM1 : MapF (w.setCell ⟨A.R.pr i, 0, none⟩ (.int .i32 1)) Tryz.prog 9 (A.R.qm i) (questF A.R i r) := (h.reads.qmap i r hr hfin).of_eq (hoth _ hqne)
  have hQ1 : ∀ (j : Nat) (x : ByteArray), r.keys[j]? = some x → (w.setCell ⟨A.R.pr i, 0, none⟩ (.int .i32 1)).cell? ⟨A.R.qb i j, 1, none⟩ = some (.bool (r.asked j)) := fun j x hx => by
    have hq := h.reads.q i r j x hr hfin hx
    have hne : A.R.qb i j ≠ A.R.pr i := fun e => by have h1 := h.reads.qTag i r j x hr hfin hx; rw [e, h.reads.rdTag i r hr hfin] at h1; simp at h1
    exact (hq.of_eq (hoth _ hne)).cell (o := 1) rfl
  have hszl : (w.setCell ⟨A.R.pr i, 0, none⟩ (.int .i32 1)).heap.size = w.heap.size := by simp [World.setCell]
  have HU : Hid (∀ w3 : World, Below w.heap.size (w.setCell ⟨A.R.pr i, 0, none⟩ (.int .i32 1)) w3 → Blk w3 (A.R.pr i) (#[mu0, sem0, .bool (A.R.no i), A.R.ks i, .map (some (A.R.qm i))].setIfInBounds 0 (.int .i32 1)) 137 ∧ Below w.heap.size w (w3.setCell ⟨A.R.pr i, 0, none⟩ (.int .i32 0))) := fun w3 hB => by
    refine ⟨hW1.of_eq (hB.block _ (by rw [← hszl]; exact hW1.lt)), hB.os, hB.tape, hB.output, ?_, fun k hk => ?_⟩
    · have := hB.size
      simp [World.setCell]; omega
    · exact unlock_block hW rfl (v := .int .i32 1) (p := fun k => k < w.heap.size) (fun k hk => hB.block k hk) k hk
  generalize hw1 : w.setCell ⟨A.R.pr i, 0, none⟩ (.int .i32 1) = w1 at *
  have d4 : w1.cell? ⟨A.R.pr i, 4, none⟩ = some (.map (some (A.R.qm i))) := hW1.cell (o := 4) rfl
  obtain ⟨n, D, hown, hs⟩ := hM1
  have h0 : ∀ (j : Nat) (x : ByteArray), r.keys[j]? = some x → Maps.has D (.string x.data.toList) = true := fun j x hx => quest_has hs hnd hx
  have hf := quest_meets A.R i r
  clear hW1 hoth
  unfold ptr
  go_enter_defers Tryz.func42, Tryz.ntmps42
  go_wp2_with fail
  refine (lock_free Tryz.muLib ⟨A.R.pr i, 0, none⟩ _ c0 f0).mono ?_
  rintro e w' ⟨rfl, rfl⟩
  rw [hw1]
  go_wp2_with (at_range; refine wpList_range_own _ rfl _ 135 rfl 9 139 keyStr Tryz.underlying135 rawElem (A.R.qm i) n D rfl hown ?_; intro w0 hrg0 hg0 hs0)
  go_frame
  rw [hszl] at hrg0 hs0 ⊢
  go_loopw [17] (fun _ wr => ∃ left cnt, wr.ranges Tryz.prog 9 rawElem (A.R.qm i) w.heap.size n D left cnt ∧ Below w.heap.size w1 wr ∧ w.heap.size < wr.heap.size ∧ Hid (∀ (j : Nat) (x : ByteArray), r.keys[j]? = some x → left (.string x.data.toList) = true ∨ r.asked j = true)) (fun _ wr => wr.rangeLeft (A.R.qm i) w.heap.size)
  case atStart =>
    exact ⟨_, _, hrg0, (Below.refl _ _).grown hg0 (by omega) (fun k e => by cases e), by omega, fun j x hx => Or.inl (h0 j x hx)⟩
  case round =>
    obtain ⟨left, cnt, hrg, hB, hsz, HL⟩ := hrel
    go_wp2_with (at_next; refine wpList_nextS _ rfl _ rfl 9 keyStr Tryz.underlying9 (A.R.qm i) w.heap.size n D (questF A.R i r) hs (fun x => A.R.qb i (keyIx r.keys x)) _ hf left cnt rfl hrg ?_ ?_)
    · intro hl0
      have Hr : Hid (allAsked r = true) := by
        unfold Hid allAsked
        simp only [List.all_eq_true, List.mem_range]
        intro j hj
        rcases HL.out j _ (List.getElem?_eq_getElem hj) with e | e
        · rw [hl0] at e; cases e
        · exact e
      clear hl0
      obtain ⟨hb3, hBl⟩ := HU.out wr hB
      have HBl : Hid _ := hBl
      clear hBl
      go_wp2_with fail
      refine leaves_cons (f := 38) (args := #[.pointer (some ⟨A.R.pr i, 0, none⟩)]) (by simp) (by simp [go_sem]) ?_
      refine (unlock_deferred Tryz.muLib ⟨A.R.pr i, 0, none⟩ .returning _ (hb3.cell (o := 0) rfl) (hb3.frozen 0)).mono ?_
      rintro e u' w'' ⟨rfl, rfl, rfl⟩
      rw [Hr.out]
      exact ⟨_, results_tmp rfl _ _ _, rfl, HBl.out⟩
    · intro x w1' cnt1 hxj hxk hlx hrg1 hlt hg1 hs1 hen
      generalize hjx : keyIx r.keys x = j at *
      have hB1 : Below w.heap.size w1 w1' := hB.grown hg1 (by omega) (fun k e => by cases e; exact Nat.le_refl _)
      have cq := hQ1 j x hxk
      have cq1 : w1'.cell? ⟨A.R.qb i j, 1, none⟩ = some (.bool (r.asked j)) := (hB1.cell (p := ⟨A.R.qb i j, 1, none⟩) (by have := World.block_lt_of_cell? w1 _ cq; simp only at this ⊢; omega)).trans cq
      have hsz1 : w.heap.size < w1'.heap.size := by omega
      clear cq hlx
      obtain ⟨ba, ha⟩ : ∃ ba, r.asked j = ba := ⟨_, rfl⟩
      rw [ha] at cq1
      cases ba with
      | false =>
        have Hr : Hid (allAsked r = false) := by
          unfold Hid allAsked
          rw [List.all_eq_false]
          exact ⟨j, List.mem_range.2 hxj, by simp [ha]⟩
        obtain ⟨hb3, hBl⟩ := HU.out w1' hB1
        have HBl : Hid _ := hBl
        clear hBl ha
        go_wp2_with fail
        refine leaves_cons (f := 38) (args := #[.pointer (some ⟨A.R.pr i, 0, none⟩)]) (by simp) (by simp [go_sem]) ?_
        refine (unlock_deferred Tryz.muLib ⟨A.R.pr i, 0, none⟩ .returning _ (hb3.cell (o := 0) rfl) (hb3.frozen 0)).mono ?_
        rintro e u' w'' ⟨rfl, rfl, rfl⟩
        rw [Hr.out]
        exact ⟨_, results_tmp rfl _ _ _, rfl, HBl.out⟩
      | true =>
        have HL' : Hid (∀ (j' : Nat) (x' : ByteArray), r.keys[j']? = some x' → (left (.string x'.data.toList) && !(Lit.string x'.data.toList).sameKey (.string x.data.toList)) = true ∨ r.asked j' = true) := by
          intro j' x' hx'
          by_cases e : j' = j
          · subst e; exact Or.inr ha
          · rcases HL.out j' x' hx' with e1 | e1
            · refine Or.inl ?_
              rw [e1, Maps.sameKey_ne (by
                intro e2
                injection e2 with e2
                have e3 : x' = x := WideShapes.bytes_inj e2
                subst e3
                exact e ((keyIx_nd hnd hx').symm.trans hjx))]
              rfl
            · exact Or.inr e1
        clear ha
        go_wp2_with fail
        go_roundw
        case rel => exact ⟨_, _, hrg1, hB1, hsz1, HL'⟩
        case measure => rw [hrg1.left_eq, hrg.left_eq]; omega

end
end Go.Proofs.YteoahlieielcdaaGreat
