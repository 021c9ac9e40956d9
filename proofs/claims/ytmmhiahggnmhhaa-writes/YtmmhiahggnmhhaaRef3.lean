/-
  The document's answer: Part, Prepare, Commit, Cancel.
-/
import Derived.Test.YtmmhiahggnmhhaaRef2
namespace Go.Proofs.Ytmmhiahggnmhhaa
open Go Go.RowKit

section
variable {w : World} {τ : Nat → Tag} {sid b : Nat} {s : MS} {A : RA}

/-- ONE WRITE's BLOCK IS WRITTEN ANEW, its items stay. -/
theorem RepR.setW (h : RepR w τ sid b s A) {i : Nat} {m m' : MW} (hm : s.ws[i]? = some m) (hit : m'.items = m.items) {w' : World} (hg : w.grownBy w' (some (A.wb i))) (hb : Blk w' (A.wb i) (mwCells (A.iv i) m') 74) :
    RepR w' τ sid b { s with ws := s.ws.set i m' } A := by
  have hi := lt_of_some hm
  have hti := h.wrTag i hi
  have hne : ∀ k, τ k ≠ (sid, 2, i) → k < w.heap.size → w'.heap[k]? = w.heap[k]? := fun k hk hl => hg.block k hl (fun e => hk (by rw [Option.some.inj e]; exact hti))
  have hrow : ∀ {e : TypeId} {sz : Nat} {v : Value} {n : Nat} {xs : List Value}, w.ownsRow 0 e sz v n xs → (∀ k, v.ownBlock = some k → τ k ≠ (sid, 2, i)) → w'.ownsRow 0 e sz v n xs := by
    intro e sz v n xs ho hv
    refine ho.kept hg ?_
    cases hob : v.ownBlock with
    | none => exact Or.inl rfl
    | some k => exact Or.inr (fun e => hv k hob (by rw [Option.some.inj e]; exact hti))
  refine ⟨⟨h.ok.p1, h.ok.p4, by simpa using h.ok.len, fun j mj hj => ?_⟩, ?_, h.tag, ?_, h.arrTag, fun j mj hj => ?_, ?_, fun j mj hj => ?_, ?_⟩
  · rcases set_some hj with ⟨rfl, rfl⟩ | ⟨e, hj⟩
    · rw [hit]; exact h.ok.items i m hm
    · exact h.ok.items j mj hj
  · exact h.blk.of_eq (hne b (by rw [h.tag]; simp) h.blk.lt)
  · simp only [List.length_set]
    exact hrow h.arr (fun k hk => by rw [h.arrTag k hk]; simp)
  · rcases set_some hj with ⟨rfl, rfl⟩ | ⟨e, hj⟩
    · exact hb
    · have hw := h.wr j mj hj
      exact hw.of_eq (hne _ (by rw [h.wrTag j (lt_of_some hj)]; simp; omega) hw.lt)
  · simpa using h.wrTag
  · rcases set_some hj with ⟨rfl, rfl⟩ | ⟨e, hj⟩
    · rw [hit]; exact hrow (h.it i m hm) (fun k hk => by rw [h.itTag i k hi hk]; simp)
    · exact hrow (h.it j mj hj) (fun k hk => by rw [h.itTag j k (lt_of_some hj) hk]; simp)
  · simpa using h.itTag

theorem RepR.cPrep (h : RepR w τ sid b s A) {i : Nat} {m : MW} (hm : s.ws[i]? = some m) {q : Nat} (hq : q < 4) : w.cell? ⟨A.wb i, 1 + q, none⟩ = some (.bool (m.prep q)) := by
  refine (h.wr i m hm).cell ?_
  match q, hq with
  | 0, _ => rfl
  | 1, _ => rfl
  | 2, _ => rfl
  | 3, _ => rfl
theorem RepR.cComm (h : RepR w τ sid b s A) {i : Nat} {m : MW} (hm : s.ws[i]? = some m) {q : Nat} (hq : q < 4) : w.cell? ⟨A.wb i, 5 + q, none⟩ = some (.bool (m.comm q)) := by
  refine (h.wr i m hm).cell ?_
  match q, hq with
  | 0, _ => rfl
  | 1, _ => rfl
  | 2, _ => rfl
  | 3, _ => rfl
theorem mwCells_prep (iv : Value) (m : MW) {q : Nat} (hq : q < 4) : (mwCells iv m).setIfInBounds (1 + q) (.bool true) = mwCells iv { m with prep := put m.prep q } := by
  match q, hq with
  | 0, _ => simp [mwCells, put]
  | 1, _ => simp [mwCells, put]
  | 2, _ => simp [mwCells, put]
  | 3, _ => simp [mwCells, put]
theorem mwCells_comm (iv : Value) (m : MW) {q : Nat} (hq : q < 4) : (mwCells iv m).setIfInBounds (5 + q) (.bool true) = mwCells iv { m with comm := put m.comm q } := by
  match q, hq with
  | 0, _ => simp [mwCells, put]
  | 1, _ => simp [mwCells, put]
  | 2, _ => simp [mwCells, put]
  | 3, _ => simp [mwCells, put]
theorem mwCells_canc (iv : Value) (m : MW) : (mwCells iv m).setIfInBounds 9 (.bool true) = mwCells iv { m with canc := true } := by
  simp [mwCells]

theorem RepR.prep (h : RepR w τ sid b s A) {i : Nat} {m : MW} (hm : s.ws[i]? = some m) {q : Nat} (hq : q < 4) :
    RepR (w.setCell ⟨A.wb i, 1 + q, none⟩ (.bool true)) τ sid b { s with ws := s.ws.set i { m with prep := put m.prep q } } A :=
  h.setW (m' := { m with prep := put m.prep q }) hm rfl (grownBy_setCell _ _ _) (by rw [← mwCells_prep _ _ hq]; exact (h.wr i m hm).set _ _)
theorem RepR.comm (h : RepR w τ sid b s A) {i : Nat} {m : MW} (hm : s.ws[i]? = some m) {q : Nat} (hq : q < 4) :
    RepR (w.setCell ⟨A.wb i, 5 + q, none⟩ (.bool true)) τ sid b { s with ws := s.ws.set i { m with comm := put m.comm q } } A :=
  h.setW (m' := { m with comm := put m.comm q }) hm rfl (grownBy_setCell _ _ _) (by rw [← mwCells_comm _ _ hq]; exact (h.wr i m hm).set _ _)
theorem RepR.canc (h : RepR w τ sid b s A) {i : Nat} {m : MW} (hm : s.ws[i]? = some m) :
    RepR (w.setCell ⟨A.wb i, 9, none⟩ (.bool true)) τ sid b { s with ws := s.ws.set i { m with canc := true } } A :=
  h.setW (m' := { m with canc := true }) hm rfl (grownBy_setCell _ _ _) (by rw [← mwCells_canc]; exact (h.wr i m hm).set _ _)

/-- what a call of the document's answer that gives one error leaves -/
def RPost (w : World) (τ : Nat → Tag) (sid b : Nat) (A : RA) (r : Int × MS) (e : Ending) (w' : World) : Prop :=
  e = .returned (.int .i64 r.1) ∧ RepR w' τ sid b r.2 A ∧ Stp sid τ w τ w'

set_option maxRecDepth 100000 in
set_option maxHeartbeats 400000 in
theorem rPrepare (h : RepR w τ sid b s A) (n p : Int) (hn : -9223372036854775808 ≤ n) (hn' : n ≤ 9223372036854775807) :
    Calls Try.prog 13 #[ptr b, .int .i64 n, .int .i64 p] w (RPost w τ sid b A (mPrepare s n p)) := by
  cases hf : mFind s n with
  | none =>
    have Hr : Hid (mPrepare s n p = (7, s)) := by unfold Hid mPrepare; rw [hf]
    have c := rwrite_none h n hn hn' hf
    unfold ptr at c ⊢
    clear hf
    go_enter Try.func13, Try.ntmps13
    go_wp2_with fail
    refine c.mono ?_
    rintro e w' ⟨rfl, rfl⟩
    go_wp2_with fail
    go_ret
    rw [Hr.out]
    exact ⟨rfl, h, Stp.refl _ _ _⟩
  | some m =>
    obtain ⟨h1, h2, hm, hc⟩ := mFind_some hf
    have c := rwrite_some h n m hf
    generalize hi : (n - 1).toNat = i at *
    have con := on_any h hm p
    have hp4 := h.ok.p4
    have hp1 := h.ok.p1
    cases hon : onPart s.parts m.items p with
    | false =>
      have Hr : Hid (mPrepare s n p = (8, s)) := by unfold Hid mPrepare; rw [hf]; simp [hon]
      rw [hon] at con
      unfold ptr at c con ⊢
      clear hf hon
      go_enter Try.func13, Try.ntmps13
      go_wp2_with fail
      refine c.mono ?_
      rintro e w' ⟨rfl, rfl⟩
      go_wp2_with fail
      refine con.mono ?_
      rintro e w' ⟨rfl, rfl⟩
      go_wp2_with fail
      go_ret
      rw [Hr.out]
      exact ⟨rfl, h, Stp.refl _ _ _⟩
    | true =>
      obtain ⟨hb0, hb1⟩ := onPart_bd (by omega) hon
      obtain ⟨q, rfl⟩ := Int.eq_ofNat_of_zero_le hb0
      have hq : q < 4 := by omega
      have cp := h.cPrep hm hq
      have fp := (h.wr i m hm).frozen (1 + q)
      rw [hon] at con
      unfold ptr at c con ⊢
      cases hpq : m.prep q with
      | true =>
        have Hr : Hid (mPrepare s n q = (10, s)) := by unfold Hid mPrepare; rw [hf]; simp [hon, hpq]
        rw [hpq] at cp
        clear hf hon hpq
        go_enter Try.func13, Try.ntmps13
        go_wp2_with fail
        refine c.mono ?_
        rintro e w' ⟨rfl, rfl⟩
        go_wp2_with fail
        refine con.mono ?_
        rintro e w' ⟨rfl, rfl⟩
        go_wp2_with fail
        go_ret
        rw [Hr.out]
        exact ⟨rfl, h, Stp.refl _ _ _⟩
      | false =>
        have Hr : Hid (mPrepare s n q = (0, { s with ws := s.ws.set i { m with prep := put m.prep q } })) := by
          unfold Hid mPrepare; rw [hf]; simp [hon, hpq, setW, hi]
        rw [hpq] at cp
        have hR := h.prep hm hq
        clear hf hon hpq
        go_enter Try.func13, Try.ntmps13
        go_wp2_with fail
        refine c.mono ?_
        rintro e w' ⟨rfl, rfl⟩
        go_wp2_with fail
        refine con.mono ?_
        rintro e w' ⟨rfl, rfl⟩
        go_wp2_with fail
        go_ret
        rw [Hr.out]
        exact ⟨rfl, hR, (Stp.refl _ _ _).setCell (by rw [h.wrTag i (lt_of_some hm)]) _⟩

end
end Go.Proofs.Ytmmhiahggnmhhaa
