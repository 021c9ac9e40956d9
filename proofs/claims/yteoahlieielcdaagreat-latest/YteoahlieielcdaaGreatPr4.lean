/-
  The program: prepare, Prepare.
-/
import Derived.Test.YteoahlieielcdaaGreatPr2
import Derived.Deep.RegionHeld3
namespace Go.Proofs.YteoahlieielcdaaGreat
open Go Go.RowKit Go.MuLone
open Go.Maps (Keyed)

/-- the keys that a map by numbers up to 200 may hold -/
def intKeys : List Lit := (List.range 201).map (fun (i : Nat) => Lit.int .i64 (i : Int))
theorem mem_intKeys {n : Int} (h : 0 ≤ n) (h' : n ≤ 200) : Lit.int .i64 n ∈ intKeys := by
  unfold intKeys
  refine List.mem_map.2 ⟨n.toNat, List.mem_range.2 (by omega), ?_⟩
  rw [Int.toNat_of_nonneg h]
theorem intKeys_len : intKeys.length < maxLen := by unfold intKeys maxLen; simp

section
variable {w : World} {τ : Nat → Tag} {sid b : Nat} {s : MS} {A : SA}

theorem keptF_keys (hlen : s.ws.length ≤ 200) (q : Nat) : ∀ kl, keptF s A q kl ≠ none → kl ∈ intKeys := by
  intro kl h
  cases kl with
  | int k n =>
    cases k <;> try exact absurd rfl h
    simp only [keptF] at h
    cases hf : mFind s n with
    | none => rw [hf] at h; exact absurd rfl h
    | some m => obtain ⟨h1, h2, _⟩ := mFind_some' hf; exact mem_intKeys (by omega) (by omega)
  | _ => exact absurd rfl h

/-- what a call of the program that gives one error leaves -/
def PPost (w : World) (τ : Nat → Tag) (sid b : Nat) (r : Int × MS) (e : Ending) (w' : World) : Prop :=
  ∃ A', e = .returned (.int .i64 r.1) ∧ RepS w' τ sid b r.2 A' ∧ Stp sid τ w τ w'

theorem keptF_prep {i : Nat} {m : MW} (hm : s.ws[i]? = some m) (hc : m.canc = false) (q q' : Nat) :
    keptF (setAt s i { m with prep := put m.prep q }) A q' = if q' = q then upd (keptF s A q) (.int .i64 ((i : Int) + 1)) (.agg #[A.iv i q, A.sv i]) else keptF s A q' := by
  have hi := lt_of_some hm
  funext kl
  cases kl with
  | int k n =>
    by_cases ek : k = .i64
    · subst ek
      by_cases e : n = (i : Int) + 1
      · subst e
        have h1 : mFind (setAt s i { m with prep := put m.prep q }) ((i : Int) + 1) = some { m with prep := put m.prep q } := mFind_set_same hi hc
        by_cases eq : q' = q
        · subst eq
          simp only [if_true]
          rw [upd_same (by trivial)]
          simp only [keptF, h1, put, if_true]
          rw [show ((i : Int) + 1 - 1).toNat = i from by omega]
        · simp only [if_neg eq, keptF, h1, mFind_of hm hc, put]
      · have h1 : mFind (setAt s i { m with prep := put m.prep q }) n = mFind s n := mFind_set_other e
        by_cases eq : q' = q
        · subst eq
          simp only [if_true]
          rw [upd_other (by intro e'; injection e'; omega)]
          simp only [keptF, h1]
        · simp only [if_neg eq, keptF, h1]
    · have hno : ∀ (s : MS) (q : Nat), keptF s A q (.int k n) = none := fun s q => by cases k <;> first | rfl | exact absurd rfl ek
      by_cases eq : q' = q
      · subst eq
        simp only [if_true]
        rw [upd_other (by intro e'; injection e' with e1 e2; exact ek e1), hno, hno]
      · rw [if_neg eq, hno, hno]
  | _ =>
    by_cases eq : q' = q
    · subst eq
      simp only [if_true]
      rw [upd_other (by intro e'; cases e')]
      rfl
    · rw [if_neg eq]; rfl

theorem visOk_comm {s s' : MS} {q : Nat} {v : List UInt8 → Nat} (h : VisOk s q v) (hp : s'.parts = s.parts)
    (h1 : ∀ (i : Nat) (m : MW), s.ws[i]? = some m → m.comm q = true → ∃ m', s'.ws[i]? = some m' ∧ m'.comm q = true ∧ m'.items = m.items)
    (h2 : ∀ (i : Nat) (m' : MW), s'.ws[i]? = some m' → m'.comm q = true → ∃ m, s.ws[i]? = some m ∧ m.comm q = true ∧ m'.items = m.items) : VisOk s' q v := by
  refine ⟨fun l hl => ?_, fun i m' x hm hc hx hq => ?_⟩
  · obtain ⟨m, hm, hc, x, hx, e⟩ := h.seen l hl
    obtain ⟨m', hm', hc', hi⟩ := h1 _ m hm hc
    exact ⟨m', hm', hc', x, by rw [hi]; exact hx, by rw [hp]; exact e⟩
  · obtain ⟨m, hm0, hc0, hi⟩ := h2 i m' hm hc
    exact h.top i m x hm0 hc0 (by rw [← hi]; exact hx) (by rw [← hp]; exact hq)

/-- a write is prepared on a part -/
theorem RepS.prep (h : RepS w τ sid b s A) {i : Nat} {m : MW} (hm : s.ws[i]? = some m) (hc : m.canc = false) {q : Nat} (ho : onPart s.parts m.items q = true) (hnp : m.prep q = false) {w' : World}
    (hsame : ∀ k, k ≠ A.kb q → k ≠ A.sh i q → w'.heap[k]? = w.heap[k]?)
    (hk : MapF w' Tryz.prog 3 (A.kb q) (upd (keptF s A q) (.int .i64 ((i : Int) + 1)) (.agg #[A.iv i q, A.sv i])))
    (hs : Blk w' (A.sh i q) #[ptr (A.pb q), .int .i64 1, nilSlice] 174) :
    RepS w' τ sid b (setAt s i { m with prep := put m.prep q }) A := by
  have hp1 := h.ok.p1
  have hq : q < s.parts := by have := (onPart_bd (by omega) ho).2; omega
  have hncomm : m.comm q = false := by
    cases hcq : m.comm q
    · rfl
    · rw [h.inv.cp i m q hm hcq] at hnp; cases hnp
  have hkn : ∀ q', q' < s.parts → q' ≠ q → A.kb q' ≠ A.kb q := fun q' hq' hne e => by
    have h1 := h.keptTag q' hq'; rw [e, h.keptTag q hq] at h1; simp at h1; omega
  have hks : ∀ q', q' < s.parts → A.kb q' ≠ A.sh i q := fun q' hq' e => by
    have h1 := h.keptTag q' hq'; rw [e, h.shTag i m q hm hc ho] at h1; simp at h1
  have hvk : ∀ q', q' < s.parts → A.vb q' ≠ A.kb q ∧ A.vb q' ≠ A.sh i q := fun q' hq' => ⟨fun e => by
    have h1 := h.visTag q' hq'; rw [e, h.keptTag q hq] at h1; simp at h1, fun e => by
    have h1 := h.visTag q' hq'; rw [e, h.shTag i m q hm hc ho] at h1; simp at h1⟩
  refine h.setW (m' := { m with prep := put m.prep q }) (vis' := A.vis) hm hc rfl hc (fun _ hq => hq) (fun q' hq' => ?_) (fun q' hq' => ?_) (fun k _ hne => ?_) (fun q' hq' => ?_) (fun q' hq' => ?_) (fun q' hq' => ?_) (fun q' ho' => ?_)
  · show put m.prep q q' = true
    unfold put
    split
    · rfl
    · exact h.inv.cp i m q' hm hq'
  · have hq2 : put m.prep q q' = true := hq'
    unfold put at hq2
    split at hq2
    · rename_i e; rw [e]; exact ho
    · exact h.inv.po i m q' hm hq2
  · exact hsame k (hne q hq).1 ((hne q hq).2.2 ho)
  · rw [keptF_prep hm hc]
    split
    · rename_i e; subst e; exact hk
    · rename_i e
      exact (h.kept q' hq').of_eq (hsame _ (hkn q' hq' e) (hks q' hq'))
  · exact (h.vism q' hq').of_eq (hsame _ (hvk q' hq').1 (hvk q' hq').2)
  · refine visOk_comm (h.visOk q' hq') rfl (fun j mj hj hcj => ?_) (fun j mj hj hcj => ?_)
    · by_cases e : i = j
      · subst e
        rw [hm] at hj; cases hj
        exact ⟨{ m with prep := put m.prep q }, by simp [setAt, lt_of_some hm], hcj, rfl⟩
      · exact ⟨mj, by simp [setAt, e, hj], hcj, rfl⟩
    · rcases set_get hj with ⟨rfl, rfl⟩ | ⟨_, hj'⟩
      · exact ⟨m, hm, hcj, rfl⟩
      · exact ⟨mj, hj', hcj, rfl⟩
  · by_cases e : q' = q
    · subst e
      simpa [stageOf, put, hncomm] using hs
    · have hb := h.sh i m q' hm hc ho'
      have hq2 : q' < s.parts := by have := (onPart_bd (by omega) ho').2; omega
      have : Blk w' (A.sh i q') _ _ := hb.of_eq (hsame _ (fun e' => by
        have h1 := h.shTag i m q' hm hc ho'; rw [e', h.keptTag q hq] at h1; simp at h1) (fun e' => by
        have h1 := h.shTag i m q' hm hc ho'; rw [e', h.shTag i m q hm hc ho] at h1; simp at h1; omega))
      simpa [stageOf, put, e] using this

set_option maxRecDepth 100000 in
set_option maxHeartbeats 1000000 in
theorem prepare_any (h : RepS w τ sid b s A) (n : Int) (m : MW) (hf : mFind s n = some m) (p : Int) (hp : -9223372036854775808 ≤ p) (hp' : p ≤ 9223372036854775807) :
    Calls Tryz.prog 53 #[ptr (A.pw (n - 1).toNat), .int .i64 p] w (PPost w τ sid b (mPrepare s n p)) := by
  obtain ⟨h1, h2, hm, hc⟩ := mFind_some' hf
  have hlen := h.ok.len
  have hp1 := h.ok.p1
  have hp4 := h.ok.p4
  obtain ⟨i, hi⟩ : ∃ i : Nat, n = (i : Int) + 1 := ⟨(n - 1).toNat, by omega⟩
  subst hi
  rw [show ((i : Int) + 1 - 1).toNat = i from by omega] at hm ⊢
  have hW := h.wr i m hm hc
  have c0 : w.cell? ⟨A.pw i, 0, none⟩ = some (.int .i32 0) := hW.cell (o := 0) rfl
  have f0 := hW.frozen 0
  have hSame := lock_round hW (o := 0) rfl (.int .i32 1)
  have hsne : A.sm i ≠ A.pw i := fun e => by have h1 := h.shmTag i m hm hc; rw [e, h.wrTag i m hm hc] at h1; simp at h1
  have hW1 := hW.set 0 (.int .i32 1)
  have d3 : (w.setCell ⟨A.pw i, 0, none⟩ (.int .i32 1)).cell? ⟨A.pw i, 4, none⟩ = some (.bool false) := hW1.cell (o := 4) rfl
  have d4 : (w.setCell ⟨A.pw i, 0, none⟩ (.int .i32 1)).cell? ⟨A.pw i, 5, none⟩ = some (.map (some (A.sm i))) := hW1.cell (o := 5) rfl
  have hM1 : MapF (w.setCell ⟨A.pw i, 0, none⟩ (.int .i32 1)) Tryz.prog 3 (A.sm i) (sharesF s A i m) := (h.shm i m hm hc).of_eq (Below.heap_setCell _ _ _ _ hsne)
  have cs := shareOn_any (s := s) (A := A) (A.pw i) (A.sm i) i m p _ hp hp' d3 d4 hM1
  cases ho : onPart s.parts m.items p with
  | false =>
    have Hr : Hid (mPrepare s ((i : Int) + 1) p = (8, s)) := by unfold Hid mPrepare; rw [hf]; simp [ho]
    have hv : shareVal s A i m p = (.pointer none, 8) := by unfold shareVal; rw [ho]; rfl
    rw [hv] at cs
    unfold ptr at cs ⊢
    unfold mu0 at hSame
    clear ho hv hf
    go_enter_defers Tryz.func53, Tryz.ntmps53
    go_wp2_with fail
    refine (lock_free Tryz.muLib ⟨A.pw i, 0, none⟩ _ c0 f0).mono ?_
    rintro e w' ⟨rfl, rfl⟩
    go_wp2_with fail
    refine cs.mono ?_
    rintro e w' ⟨rfl, rfl⟩
    go_wp2_with fail
    refine leaves_cons (f := 38) (args := #[.pointer (some ⟨A.pw i, 0, none⟩)]) (by simp) (by simp [go_sem]) ?_
    refine (unlock_deferred Tryz.muLib ⟨A.pw i, 0, none⟩ .returning _ (hW1.cell (o := 0) rfl) (hW1.frozen 0)).mono ?_
    rintro e u' w'' ⟨rfl, rfl, rfl⟩
    rw [Hr.out]
    exact ⟨_, results_tmp rfl _ _ _, A, rfl, h.same hSame, hSame.stp _ _⟩
  | true =>
    obtain ⟨hb0, hb1⟩ := onPart_bd (by omega) ho
    obtain ⟨q, rfl⟩ := Int.eq_ofNat_of_zero_le hb0
    have hq : q < s.parts := by omega
    have hv : shareVal s A i m q = (.pointer (some ⟨A.sh i q, 0, none⟩), 0) := by unfold shareVal; rw [ho]; rfl
    rw [hv] at cs
    have hS := h.sh i m q hm hc ho
    have hshne : A.sh i q ≠ A.pw i := fun e => by have h1 := h.shTag i m q hm hc ho; rw [e, h.wrTag i m hm hc] at h1; simp at h1
    have hS1 : Blk (w.setCell ⟨A.pw i, 0, none⟩ (.int .i32 1)) (A.sh i q) _ _ := hS.of_eq (Below.heap_setCell _ _ _ _ hshne)
    cases hpq : m.prep q with
    | true =>
      have Hr : Hid (mPrepare s ((i : Int) + 1) q = (10, s)) := by unfold Hid mPrepare; rw [hf]; simp [ho, hpq]
      have hst : (stageOf m q != 0) = true := by unfold stageOf; rw [hpq]; cases m.comm q <;> rfl
      have e1 : (w.setCell ⟨A.pw i, 0, none⟩ (.int .i32 1)).cell? ⟨A.sh i q, 1, none⟩ = some (.int .i64 (stageOf m q)) := hS1.cell (o := 1) rfl
      unfold ptr at cs ⊢
      unfold mu0 at hSame
      clear ho hv hf hpq
      go_enter_defers Tryz.func53, Tryz.ntmps53
      go_wp2_with fail
      refine (lock_free Tryz.muLib ⟨A.pw i, 0, none⟩ _ c0 f0).mono ?_
      rintro e w' ⟨rfl, rfl⟩
      go_wp2_with fail
      refine cs.mono ?_
      rintro e w' ⟨rfl, rfl⟩
      go_wp2_with fail
      refine leaves_cons (f := 38) (args := #[.pointer (some ⟨A.pw i, 0, none⟩)]) (by simp) (by simp [go_sem]) ?_
      refine (unlock_deferred Tryz.muLib ⟨A.pw i, 0, none⟩ .returning _ (hW1.cell (o := 0) rfl) (hW1.frozen 0)).mono ?_
      rintro e u' w'' ⟨rfl, rfl, rfl⟩
      rw [Hr.out]
      exact ⟨_, results_tmp rfl _ _ _, A, rfl, h.same hSame, hSame.stp _ _⟩
    | false =>
      have Hr : Hid (mPrepare s ((i : Int) + 1) q = (0, setAt s i { m with prep := put m.prep q })) := by
        unfold Hid mPrepare; rw [hf]; simp only [ho, hpq, setW_eq, Int.toNat_natCast]
        rw [show ((i : Int) + 1 - 1).toNat = i from by omega]; rfl
      have hst : stageOf m q = 0 := by
        unfold stageOf; rw [hpq]
        cases hcq : m.comm q
        · rfl
        · rw [h.inv.cp i m q hm hcq] at hpq; cases hpq
      rw [hst, hpq] at hS hS1
      have hWb := hW
      have hpq' := hpq
      generalize hW : w.setCell ⟨A.pw i, 0, none⟩ (.int .i32 1) = w1 at *
      have e0 : w1.cell? ⟨A.sh i q, 0, none⟩ = some (.pointer (some ⟨A.pb q, 0, none⟩)) := hS1.cell (o := 0) rfl
      have e1 : w1.cell? ⟨A.sh i q, 1, none⟩ = some (.int .i64 0) := hS1.cell (o := 1) rfl
      have e2 : w1.cell? ⟨A.sh i q, 2, none⟩ = some (A.iv i q) := hS1.cell (o := 2) rfl
      have d2 : w1.cell? ⟨A.pw i, 2, none⟩ = some (.int .i64 ((i : Int) + 1)) := hW1.cell (o := 2) rfl
      have d9 : w1.cell? ⟨A.pw i, 3, none⟩ = some (A.sv i) := hW1.cell (o := 3) rfl
      have hsvc := h.told.sv i m hm
      have hivc : ∃ a l c, A.iv i q = .slice a l c := by obtain ⟨a, cap, e⟩ := row_len (h.it i m q hm hc ho); exact ⟨a, _, cap, e⟩
      have hkt := h.keptTag q hq
      have hks : A.sh i q ≠ A.kb q := fun e => by have h1 := h.shTag i m q hm hc ho; rw [e, hkt] at h1; simp at h1
      have hkw : A.pw i ≠ A.kb q := fun e => by have h1 := h.wrTag i m hm hc; rw [e, hkt] at h1; simp at h1
      have hpw : A.pb q ≠ A.pw i := fun e => by have h1 := h.partTag q hq; rw [e, h.wrTag i m hm hc] at h1; simp at h1
      have hPB : Blk w1 (A.pb q) _ _ := (h.part q hq).of_eq (by rw [← hW]; exact Below.heap_setCell _ _ _ _ hpw)
      have hKM : MapF w1 Tryz.prog 3 (A.kb q) (keptF s A q) := (h.kept q hq).of_eq (by rw [← hW]; exact Below.heap_setCell _ _ _ _ (fun e => hkw e.symm))
      have hn1 : -9223372036854775808 ≤ (i : Int) + 1 := by omega
      have hn2 : (i : Int) + 1 ≤ 9223372036854775807 := by omega
      unfold ptr at cs ⊢
      clear hv hf hpq hst
      go_enter_defers Tryz.func53, Tryz.ntmps53
      go_wp2_with fail
      refine (lock_free Tryz.muLib ⟨A.pw i, 0, none⟩ _ c0 f0).mono ?_
      rintro e w' ⟨rfl, rfl⟩
      rw [hW]
      go_wp2_with fail
      refine cs.mono ?_
      rintro e w' ⟨rfl, rfl⟩
      go_wp2_with fail
      go_region_held3 (fun W => W.cell? ⟨A.sh i q, 0, none⟩ = some (.pointer (some ⟨A.pb q, 0, none⟩)) ∧ W.cell? ⟨A.sh i q, 2, none⟩ = some (A.iv i q) ∧ W.cell? ⟨A.pw i, 2, none⟩ = some (.int .i64 ((i : Int) + 1)) ∧ W.cell? ⟨A.pw i, 3, none⟩ = some (A.sv i)) (simp [*]) ((go_at_call 91; refine (kPrepare (A.pb q) (A.kb q) (A.vb q) (keptF s A q) (by exact hPB) (by exact hKM) intKeys (keptF_keys hlen q) intKeys_len _ hn1 hn2 _ _ hivc hsvc).mono ?_; rintro e w2 ⟨rfl, hM2, hB2⟩; have hS2 := hS1.of_eq (hB2.block _ hks); have hW2 := hW1.of_eq (hB2.block _ hkw); have k0 := hS2.cell (o := 0) (v := .pointer (some ⟨A.pb q, 0, none⟩)) rfl; have k2 := hS2.cell (o := 2) (v := A.iv i q) rfl; have k1 := hW2.cell (o := 2) (v := .int .i64 ((i : Int) + 1)) rfl; have k9 := hW2.cell (o := 3) (v := A.sv i) rfl))
      have k3 := hS2.cell (o := 1) (v := .int .i64 0) rfl
      have f1 := hS2.frozen 1
      have f2 := hS2.frozen 2
      go_wp2_with fail
      have hS3 := (hS2.set 1 (.int .i64 1)).set 2 (.slice none 0 0)
      have hW3 : Blk ((w2.setCell ⟨A.sh i q, 1, none⟩ (.int .i64 1)).setCell ⟨A.sh i q, 2, none⟩ (.slice none 0 0)) (A.pw i) _ _ := hW2.of_eq ((Below.heap_setCell _ _ _ _ (fun e => hshne e.symm)).trans (Below.heap_setCell _ _ _ _ (fun e => hshne e.symm)))
      refine leaves_cons (f := 38) (args := #[.pointer (some ⟨A.pw i, 0, none⟩)]) (by simp) (by simp [go_sem]) ?_
      refine (unlock_deferred Tryz.muLib ⟨A.pw i, 0, none⟩ .returning _ (hW3.cell (o := 0) rfl) (hW3.frozen 0)).mono ?_
      rintro e u' w'' ⟨rfl, rfl, rfl⟩
      rw [Hr.out]
      have hall : ∀ k, (k ≠ A.kb q ∧ k ≠ A.sh i q) → (((w2.setCell ⟨A.sh i q, 1, none⟩ (.int .i64 1)).setCell ⟨A.sh i q, 2, none⟩ (.slice none 0 0)).setCell ⟨A.pw i, 0, none⟩ mu0).heap[k]? = w.heap[k]? :=
        unlock_block hWb rfl (v := .int .i32 1) (fun k hk => by
          rw [Below.heap_setCell _ _ _ _ hk.2, Below.heap_setCell _ _ _ _ hk.2, hW]
          exact hB2.block k hk.1)
      refine ⟨_, results_tmp rfl _ _ _, A, rfl, ?_, ?_⟩
      · exact h.prep hm hc ho hpq' (fun k h1 h2 => hall k ⟨h1, h2⟩) (hM2.of_eq ((Below.heap_setCell _ _ _ _ (fun e => hkw e.symm)).trans ((Below.heap_setCell _ _ _ _ (fun e => hks e.symm)).trans (Below.heap_setCell _ _ _ _ (fun e => hks e.symm)))))
          (hS3.of_eq (Below.heap_setCell _ _ _ _ hshne))
      · refine ⟨hB2.os.trans (by rw [← hW]; rfl), hB2.tape.trans (by rw [← hW]; rfl), hB2.output.trans (by rw [← hW]; rfl), ?_, fun _ _ => rfl, fun k _ hk => hall k ⟨fun e => hk (by rw [e, hkt]), fun e => hk (by rw [e, h.shTag i m q hm hc ho])⟩⟩
        have := hB2.size
        rw [show w'.drew.heap.size = w.heap.size from by rw [← hW]; simp [World.setCell]] at this
        simp [World.setCell, this]

/-- Prepare, of the program -/
theorem pPrepare (h : RepS w τ sid b s A) (n p : Int) (hn : -9223372036854775808 ≤ n) (hn' : n ≤ 9223372036854775807) (hp : -9223372036854775808 ≤ p) (hp' : p ≤ 9223372036854775807) :
    Calls Tryz.prog 29 #[ptr b, .int .i64 n, .int .i64 p] w (PPost w τ sid b (mPrepare s n p)) := by
  have c := find_any h n hn hn'
  cases hf : mFind s n with
  | none =>
    have Hr : Hid (mPrepare s n p = (7, s)) := by unfold Hid mPrepare; rw [hf]
    have hv : findVal s A n = (.pointer none, false) := by unfold findVal; rw [hf]
    rw [hv] at c
    unfold ptr at c ⊢
    clear hf hv
    go_enter Tryz.func29, Tryz.ntmps29
    go_wp2_with fail
    refine c.mono ?_
    rintro e w1 ⟨rfl, hS⟩
    go_wp2_with fail
    go_ret
    rw [Hr.out]
    exact ⟨A, rfl, h.same hS, hS.stp _ _⟩
  | some m =>
    have hv : findVal s A n = (ptr (A.pw (n - 1).toNat), true) := by unfold findVal; rw [hf]
    rw [hv] at c
    have c2 : ∀ w1, Same w w1 → Calls Tryz.prog 53 #[ptr (A.pw (n - 1).toNat), .int .i64 p] w1 (PPost w1 τ sid b (mPrepare s n p)) := fun w1 hS => prepare_any (h.same hS) n m hf p hp hp'
    generalize (n - 1).toNat = j at c c2
    unfold ptr at c c2 ⊢
    clear hf hv
    go_enter Tryz.func29, Tryz.ntmps29
    go_wp2_with fail
    refine c.mono ?_
    rintro e w1 ⟨rfl, hS⟩
    have c3 := c2 w1 hS
    clear c c2
    go_wp2_with fail
    refine c3.mono ?_
    rintro e w2 ⟨A', rfl, hR, hT⟩
    go_wp2_with fail
    go_ret
    exact ⟨A', rfl, hR, (hS.stp _ _).trans hT⟩

end
end Go.Proofs.YteoahlieielcdaaGreat
