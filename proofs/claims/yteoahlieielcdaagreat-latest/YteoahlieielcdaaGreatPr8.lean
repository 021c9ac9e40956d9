/-
  The program: cancel, forget, Cancel.
-/
import Derived.Test.YteoahlieielcdaaGreatPr7
namespace Go.Proofs.YteoahlieielcdaaGreat
open Go Go.RowKit Go.MuLone
open Go.Maps (Keyed)

section
variable {w : World} {τ : Nat → Tag} {sid b : Nat} {s : MS} {A : SA}

theorem But.grown {w w' : World} {b : Nat} (h : But w w' b) : w.grownBy w' (some b) := ⟨h.os, h.tape, h.output, Nat.le_of_eq h.size.symm, fun k _ hk => h.block k (fun e => hk (by rw [e]))⟩

theorem anyStage_two (h : RepS w τ sid b s A) {i : Nat} {m : MW} (hm : s.ws[i]? = some m) : anyStage s m 2 = (m.comm 0 || m.comm 1 || m.comm 2 || m.comm 3) := by
  have hp4 := h.ok.p4
  have hp1 := h.ok.p1
  have hst : ∀ q, stageOf m q = 2 ↔ m.comm q = true := fun q => by
    unfold stageOf
    cases m.comm q <;> cases m.prep q <;> simp
  have hq : ∀ q : Nat, m.comm q = true → q < s.parts ∧ onPart s.parts m.items q = true := fun q hc => by
    have ho := h.inv.po i m q hm (h.inv.cp i m q hm hc)
    have := (onPart_bd (by omega) ho).2
    exact ⟨by omega, ho⟩
  cases hb : (m.comm 0 || m.comm 1 || m.comm 2 || m.comm 3) with
  | true =>
    have : ∃ q, m.comm q = true := by
      simp only [Bool.or_eq_true] at hb
      rcases hb with ((e | e) | e) | e <;> exact ⟨_, e⟩
    obtain ⟨q, e⟩ := this
    exact anyStage_true (hq q e).1 (hq q e).2 ((hst q).2 e)
  | false =>
    refine anyStage_false (fun q hql _ e => ?_)
    have := (hst q).1 e
    simp only [Bool.or_eq_false_iff] at hb
    have : q = 0 ∨ q = 1 ∨ q = 2 ∨ q = 3 := by omega
    rcases this with rfl | rfl | rfl | rfl <;> simp_all

theorem mFind_canc {s : MS} {i : Nat} {m : MW} (hi : i < s.ws.length) : mFind (setAt s i { m with canc := true }) ((i : Int) + 1) = none := by
  unfold mFind setAt
  simp only [List.length_set]
  rw [if_neg (by omega), show ((i : Int) + 1 - 1).toNat = i from by omega]
  simp [hi]
theorem keptF_canc {i : Nat} {m : MW} (hi : i < s.ws.length) (q : Nat) : keptF (setAt s i { m with canc := true }) A q = del (keptF s A q) (.int .i64 ((i : Int) + 1)) := by
  funext kl
  by_cases e : kl = .int .i64 ((i : Int) + 1)
  · subst e
    rw [del_same (by trivial)]
    simp only [keptF, mFind_canc hi]
  · rw [del_other e]
    cases kl with
    | int k n =>
      cases k <;> try rfl
      have : n ≠ (i : Int) + 1 := fun e' => e (by rw [e'])
      simp only [keptF, mFind_set_other this]
    | _ => rfl
theorem writesF_canc {i : Nat} {m : MW} (hi : i < s.ws.length) : writesF (setAt s i { m with canc := true }) A = del (writesF s A) (.int .i64 ((i : Int) + 1)) := by
  funext kl
  by_cases e : kl = .int .i64 ((i : Int) + 1)
  · subst e
    rw [del_same (by trivial)]
    simp only [writesF, mFind_canc hi]
  · rw [del_other e]
    cases kl with
    | int k n =>
      cases k <;> try rfl
      have : n ≠ (i : Int) + 1 := fun e' => e (by rw [e'])
      simp only [writesF, mFind_set_other this]
    | _ => rfl
theorem keptF_off {i : Nat} {m : MW} (h : RepS w τ sid b s A) (hm : s.ws[i]? = some m) (hc : m.canc = false) {q : Nat} (ho : onPart s.parts m.items q = false) : del (keptF s A q) (.int .i64 ((i : Int) + 1)) = keptF s A q := by
  funext kl
  by_cases e : kl = .int .i64 ((i : Int) + 1)
  · subst e
    rw [del_same (by trivial)]
    simp only [keptF, mFind_of hm hc]
    cases hpq : m.prep q
    · simp
    · rw [h.inv.po i m q hm hpq] at ho; cases ho
  · rw [del_other e]

/-- A WRITE IS CANCELLED: what the parts keep of it is gone, and it is no more among the writes. -/
theorem RepS.canc (h : RepS w τ sid b s A) {i : Nat} {m : MW} (hm : s.ws[i]? = some m) (hc : m.canc = false) (hnc : ∀ q, m.comm q = false) {w' : World}
    (hsame : ∀ k, k < w.heap.size → (∀ q, q < s.parts → k ≠ A.kb q) → k ≠ A.pw i → k ≠ A.wm → w'.heap[k]? = w.heap[k]?)
    (hk : ∀ q, q < s.parts → MapF w' Tryz.prog 3 (A.kb q) (del (keptF s A q) (.int .i64 ((i : Int) + 1))))
    (hw : MapF w' Tryz.prog 3 A.wm (del (writesF s A) (.int .i64 ((i : Int) + 1)))) :
    RepS w' τ sid b (setAt s i { m with canc := true }) A := by
  have hi := lt_of_some hm
  have hne : ∀ {k a c : Nat}, τ k = (sid, a, c) → a ≠ 3 → (a = 6 → c ≠ i) → a ≠ 5 → k < w.heap.size → w'.heap[k]? = w.heap[k]? := by
    intro k a c ht h3 h6 h5 hkl
    refine hsame k hkl (fun q hq e => ?_) (fun e => ?_) (fun e => ?_)
    · have := h.keptTag q hq; rw [← e, ht] at this; simp at this; omega
    · have := h.wrTag i m hm hc; rw [← e, ht] at this; simp at this; exact h6 this.1 this.2
    · have := h.wmTag; rw [← e, ht] at this; simp at this; omega
  have hget : ∀ {j : Nat} {mj : MW}, (setAt s i { m with canc := true }).ws[j]? = some mj → ∃ mo, s.ws[j]? = some mo ∧ mj.items = mo.items ∧ mj.comm = mo.comm ∧ mj.prep = mo.prep ∧ (mj.canc = false → mj = mo ∧ i ≠ j) := by
    intro j mj hj
    rcases set_get hj with ⟨rfl, rfl⟩ | ⟨e, hj'⟩
    · exact ⟨m, hm, rfl, rfl, rfl, fun e => by cases e⟩
    · exact ⟨mj, hj', rfl, rfl, rfl, fun _ => ⟨rfl, e⟩⟩
  have hput : ∀ {j : Nat} {mo : MW}, s.ws[j]? = some mo → ∃ mj, (setAt s i { m with canc := true }).ws[j]? = some mj ∧ mj.items = mo.items ∧ mj.comm = mo.comm := by
    intro j mo hj
    by_cases e : i = j
    · subst e
      rw [hm] at hj; cases hj
      exact ⟨{ m with canc := true }, by simp [setAt, hi], rfl, rfl⟩
    · exact ⟨mo, by simp [setAt, e, hj], rfl, rfl⟩
  refine ⟨⟨h.ok.p1, h.ok.p4, by simpa [setAt] using h.ok.len, fun j mj hj => ?_, h.ok.keys, h.ok.opn⟩, ⟨fun j mj q hj hcm => ?_, fun j mj q hj hpm => ?_, fun j mj q hj hcm => ?_⟩, ?_, ?_, h.tag, ?_, h.parrTag, fun q hq => ?_, h.partTag, fun q hq => ?_, h.keptTag, fun q hq => ?_, h.visTag, fun q hq => ?_, ?_, h.wmTag, fun j mj hj hcj => ?_, fun j mj hj hcj => ?_, fun j mj hj hcj => ?_, fun j mj hj hcj => ?_, fun j mj q hj hcj ho => ?_, fun j mj q hj hcj ho => ?_, fun j mj q hj hcj ho => ?_, fun j mj q k hj hcj ho => ?_, h.reads.frame (fun k hk h1 h10 => ⟨hne (a := (τ k).2.1) (c := (τ k).2.2) (by rw [← h1]) (by omega) (by omega) (by omega) hk, rfl⟩)⟩
  · obtain ⟨mo, ho, e, _⟩ := hget hj
    rw [e]; exact h.ok.items j mo ho
  · obtain ⟨mo, ho, _, e1, e2, _⟩ := hget hj
    rw [e2]; rw [e1] at hcm; exact h.inv.cp j mo q ho hcm
  · obtain ⟨mo, ho, e, _, e2, _⟩ := hget hj
    rw [e]; rw [e2] at hpm; exact h.inv.po j mo q ho hpm
  · rcases set_get hj with ⟨rfl, rfl⟩ | ⟨_, hj'⟩
    · exact hnc q
    · exact h.inv.cc j mj q hj' hcm
  · refine h.told.ws rfl rfl rfl rfl (fun j mj hj => by obtain ⟨mo, ho, _⟩ := hget hj; exact h.told.sv j mo ho) (fun j mj hj => ?_)
    obtain ⟨m', a1, a2, a3⟩ := hput hj
    exact ⟨m', a1, a2, fun q hq => by rw [a3]; exact hq, rfl⟩
  · have := h.blk.of_eq (hne h.tag (by omega) (by omega) (by omega) h.blk.lt)
    simpa [setAt] using this
  · exact row_of_block h.parr (fun k hk => hne (h.parrTag k hk) (by omega) (by omega) (by omega) (row_ge h.parr k hk).2)
  · exact (h.part q hq).of_eq (hne (h.partTag q hq) (by omega) (by omega) (by omega) (h.part q hq).lt)
  · rw [keptF_canc hi]; exact hk q hq
  · exact (h.vism q hq).of_eq (hne (h.visTag q hq) (by omega) (by omega) (by omega) (h.vism q hq).lt)
  · refine visOk_comm (h.visOk q hq) rfl (fun j mj hj hcj => ?_) (fun j mj hj hcj => ?_)
    · obtain ⟨m', h1, h2, h3⟩ := hput hj
      exact ⟨m', h1, by rw [h3]; exact hcj, h2⟩
    · obtain ⟨mo, h1, h2, h3, _⟩ := hget hj
      exact ⟨mo, h1, by rw [← h3]; exact hcj, h2⟩
  · rw [writesF_canc hi]; exact hw
  · obtain ⟨mo, ho, _, _, _, e⟩ := hget hj
    obtain ⟨rfl, eij⟩ := e hcj
    have hb := h.wr j mj ho hcj
    exact hb.of_eq (hne (h.wrTag j mj ho hcj) (by omega) (fun _ e' => eij e'.symm) (by omega) hb.lt)
  · obtain ⟨mo, ho, _, _, _, e⟩ := hget hj
    obtain ⟨rfl, eij⟩ := e hcj
    exact h.wrTag j mj ho hcj
  · obtain ⟨mo, ho, _, _, _, e⟩ := hget hj
    obtain ⟨rfl, eij⟩ := e hcj
    have hb := h.shm j mj ho hcj
    have := hb.of_eq (hne (h.shmTag j mj ho hcj) (by omega) (by omega) (by omega) hb.lt)
    refine this.congr (fun kl => ?_)
    cases kl with
    | int k n => cases k <;> rfl
    | _ => rfl
  · obtain ⟨mo, ho, _, _, _, e⟩ := hget hj
    obtain ⟨rfl, eij⟩ := e hcj
    exact h.shmTag j mj ho hcj
  · obtain ⟨mo, hmo, _, _, _, e⟩ := hget hj
    obtain ⟨rfl, eij⟩ := e hcj
    have hb := h.sh j mj q hmo hcj ho
    exact hb.of_eq (hne (h.shTag j mj q hmo hcj ho) (by omega) (by omega) (by omega) hb.lt)
  · obtain ⟨mo, hmo, _, _, _, e⟩ := hget hj
    obtain ⟨rfl, eij⟩ := e hcj
    exact h.shTag j mj q hmo hcj ho
  · obtain ⟨mo, hmo, _, _, _, e⟩ := hget hj
    obtain ⟨rfl, eij⟩ := e hcj
    have hr := h.it j mj q hmo hcj ho
    exact row_of_block hr (fun k hk => hne (h.itTag j mj q k hmo hcj ho hk) (by omega) (by omega) (by omega) (row_ge hr k hk).2)
  · obtain ⟨mo, hmo, _, _, _, e⟩ := hget hj
    obtain ⟨rfl, eij⟩ := e hcj
    exact h.itTag j mj q k hmo hcj ho

set_option maxRecDepth 100000 in
set_option maxHeartbeats 800000 in
theorem forget_any (wb wm : Nat) (c : Array Value) (f : Lit → Option Value) (hb : Blk w wb c 105) (e2 : c[2]? = some mu0) (e5 : c[6]? = some (.map (some wm))) (hM : MapF w Tryz.prog 3 wm f) (n : Int) (h1 : -9223372036854775808 ≤ n) (h2 : n ≤ 9223372036854775807) :
    Calls Tryz.prog 55 #[ptr wb, .int .i64 n] w fun e w' => e = .returned (.tuple #[]) ∧ MapF w' Tryz.prog 3 wm (del f (.int .i64 n)) ∧ But w w' wm := by
  have c2 : w.cell? ⟨wb, 2, none⟩ = some (.int .i32 0) := hb.cell e2
  have c5 : w.cell? ⟨wb, 6, none⟩ = some (.map (some wm)) := hb.cell e5
  have f2 := hb.frozen 2
  have hne := blk_ne_map hb hM
  have hM1 : ∀ v, MapF (w.setCell ⟨wb, 2, none⟩ v) Tryz.prog 3 wm f := fun v => hM.of_eq (Below.heap_setCell _ _ _ _ (fun e => hne e.symm))
  have e2' : (c.setIfInBounds 2 (.int .i32 1))[2]? = some (.int .i32 1) := by
    have := (Array.getElem?_eq_some_iff.1 e2).1
    simp [this]
  unfold ptr
  go_enter_defers Tryz.func55, Tryz.ntmps55
  go_wp2_with (first | (go_at_call 37; refine (lock_free Tryz.muLib ⟨wb, 2, none⟩ _ c2 f2).mono ?_; rintro e w' ⟨rfl, rfl⟩) | (at_delete; refine wpList_delF _ rfl _ _ 102 3 rfl 118 keyInt Tryz.underlying102 wm f rfl (hM1 _) _ (.int .i64 n) rfl (keyOf_int h1 h2) ?_; intro w1 hM2 hT))
  have hB := But.of_turned hT
  have hb1 : Blk w1 wb _ 105 := (hb.set 2 (.int .i32 1)).of_eq (hB.block wb hne)
  refine leaves_cons (f := 38) (args := #[.pointer (some ⟨wb, 2, none⟩)]) (by simp) (by simp [go_sem]) ?_
  refine (unlock_deferred Tryz.muLib ⟨wb, 2, none⟩ .returning _ (hb1.cell (o := 2) e2') (hb1.frozen 2)).mono ?_
  rintro e u' w'' ⟨rfl, rfl, rfl⟩
  exact ⟨_, results_none rfl _ _ _, rfl, hM2.of_eq (Below.heap_setCell _ _ _ _ (fun e => hne e.symm)), But.locked hb e2 _ hB hne⟩

end
end Go.Proofs.YteoahlieielcdaaGreat
