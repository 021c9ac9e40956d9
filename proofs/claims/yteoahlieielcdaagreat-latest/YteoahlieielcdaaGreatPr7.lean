/-
  The program: commit, Commit.
-/
import Derived.Test.YteoahlieielcdaaGreatPr6
namespace Go.Proofs.YteoahlieielcdaaGreat
open Go Go.RowKit Go.MuLone
open Go.Maps (Keyed)

/-- all keys that a store's writes write -/
def allKeys (ws : List MW) : List Lit := ws.flatMap (fun m => m.items.map (fun x => Lit.string x.1.data.toList))
theorem allKeys_len (ws : List MW) (h : ∀ m ∈ ws, m.items.length ≤ 8) : (allKeys ws).length ≤ 8 * ws.length := by
  induction ws with
  | nil => simp [allKeys]
  | cons m r ih =>
    have h1 := h m (List.mem_cons_self ..)
    have h2 := ih (fun m' hm' => h m' (List.mem_cons_of_mem _ hm'))
    have e : allKeys (m :: r) = m.items.map (fun x => Lit.string x.1.data.toList) ++ allKeys r := rfl
    rw [e, List.length_append, List.length_map, List.length_cons]
    omega
theorem mem_allKeys {ws : List MW} {i : Nat} {m : MW} {x : KV} (hm : ws[i]? = some m) (hx : x ∈ m.items) : Lit.string x.1.data.toList ∈ allKeys ws :=
  List.mem_flatMap.2 ⟨m, List.mem_of_getElem? hm, List.mem_map.2 ⟨x, hx, rfl⟩⟩
theorem mem_itemsOn {n : Int} {l : List KV} {q : Int} {x : KV} : x ∈ itemsOn n l q ↔ x ∈ l ∧ partOf n x.1 = q := by simp [itemsOn]
theorem itemsOn_pos {n : Int} {l : List KV} {q : Int} (h : onPart n l q = true) : 0 < (itemsOn n l q).length := by
  simp only [onPart, List.any_eq_true, decide_eq_true_eq] at h
  obtain ⟨x, hx, e⟩ := h
  exact List.length_pos_of_mem (mem_itemsOn.2 ⟨hx, e⟩)
theorem itemsOn_le (n : Int) (l : List KV) (q : Int) : (itemsOn n l q).length ≤ l.length := List.length_filter_le _ _

section
variable {w : World} {τ : Nat → Tag} {sid b : Nat} {s : MS} {A : SA}

theorem RepS.vis_le (h : RepS w τ sid b s A) {q : Nat} (hq : q < s.parts) (l : List UInt8) : A.vis q l ≤ 200 := by
  by_cases e : A.vis q l = 0
  · omega
  · obtain ⟨m, hm, _⟩ := (h.visOk q hq).seen l e
    have := lt_of_some hm
    have := h.ok.len
    omega
theorem RepS.vis_keys (h : RepS w τ sid b s A) {q : Nat} (hq : q < s.parts) : ∀ l, A.vis q l ≠ 0 → Lit.string l ∈ allKeys s.ws := by
  intro l e
  obtain ⟨m, hm, _, x, hx, e1, _⟩ := (h.visOk q hq).seen l e
  rw [← e1]
  exact mem_allKeys hm hx

theorem anyStage_zero (h : RepS w τ sid b s A) {i : Nat} {m : MW} (hm : s.ws[i]? = some m) : anyStage s m 0 = !allPrep s.parts m := by
  cases ha : allPrep s.parts m with
  | true =>
    refine anyStage_false (fun q hq ho e => ?_)
    simp only [allPrep, List.all_eq_true, List.mem_range] at ha
    have := ha q hq
    simp only [ho, Bool.not_true, Bool.false_or] at this
    unfold stageOf at e
    rw [this] at e
    cases hcq : m.comm q <;> rw [hcq] at e <;> simp at e
  | false =>
    simp only [allPrep, List.all_eq_false, List.mem_range] at ha
    obtain ⟨q, hq, e⟩ := ha
    cases ho : onPart s.parts m.items q
    · simp [ho] at e
    · simp [ho] at e
      refine anyStage_true hq ho ?_
      unfold stageOf
      rw [e]
      cases hcq : m.comm q
      · rfl
      · rw [h.inv.cp i m q hm hcq] at e; cases e

theorem keptF_comm {i : Nat} {m : MW} (hm : s.ws[i]? = some m) (hc : m.canc = false) (f : Nat → Bool) (q : Nat) : keptF (setAt s i { m with comm := f }) A q = keptF s A q := by
  funext kl
  cases kl with
  | int k n =>
    cases k <;> try rfl
    simp only [keptF]
    by_cases e : n = (i : Int) + 1
    · rw [e, mFind_set_same (m := { m with comm := f }) (lt_of_some hm) hc, mFind_of hm hc]
    · rw [mFind_set_other e]
  | _ => rfl

/-- a write is committed on a part -/
theorem RepS.comm (h : RepS w τ sid b s A) {i : Nat} {m : MW} (hm : s.ws[i]? = some m) (hc : m.canc = false) {q : Nat} (ho : onPart s.parts m.items q = true) (hp : m.prep q = true) (hnc : m.comm q = false) {w' : World}
    (hsame : ∀ k, k < w.heap.size → k ≠ A.vb q → k ≠ A.sh i q → w'.heap[k]? = w.heap[k]?)
    (hv : MapF w' Tryz.prog 9 (A.vb q) (visG (visMax (A.vis q) (i + 1) (itemsOn s.parts m.items q))))
    (hs : Blk w' (A.sh i q) #[ptr (A.pb q), .int .i64 2, nilSlice] 174) :
    RepS w' τ sid b (setAt s i { m with comm := put m.comm q }) { A with vis := fun q' => if q' = q then visMax (A.vis q) (i + 1) (itemsOn s.parts m.items q) else A.vis q' } := by
  have hp1 := h.ok.p1
  have hq : q < s.parts := by have := (onPart_bd (by omega) ho).2; omega
  have hvn : ∀ q', q' < s.parts → q' ≠ q → A.vb q' ≠ A.vb q := fun q' hq' hne e => by
    have h1 := h.visTag q' hq'; rw [e, h.visTag q hq] at h1; simp at h1; omega
  have hvs : ∀ q', q' < s.parts → A.vb q' ≠ A.sh i q := fun q' hq' e => by
    have h1 := h.visTag q' hq'; rw [e, h.shTag i m q hm hc ho] at h1; simp at h1
  have hkv : ∀ q', q' < s.parts → A.kb q' ≠ A.vb q ∧ A.kb q' ≠ A.sh i q := fun q' hq' => ⟨fun e => by
    have h1 := h.keptTag q' hq'; rw [e, h.visTag q hq] at h1; simp at h1, fun e => by
    have h1 := h.keptTag q' hq'; rw [e, h.shTag i m q hm hc ho] at h1; simp at h1⟩
  refine h.setW (m' := { m with comm := put m.comm q }) hm hc rfl hc (fun q' hq' => by show put m.comm q q' = true; simp only [put, hq']; split <;> rfl) (fun q' hq' => ?_) (fun q' hq' => h.inv.po i m q' hm hq') (fun k hkl hne => ?_) (fun q' hq' => ?_) (fun q' hq' => ?_) (fun q' hq' => ?_) (fun q' ho' => ?_)
  · have hq2 : put m.comm q q' = true := hq'
    unfold put at hq2
    split at hq2
    · rename_i e; rw [e]; exact hp
    · exact h.inv.cp i m q' hm hq2
  · exact hsame k hkl (hne q hq).2.1 ((hne q hq).2.2 ho)
  · rw [keptF_comm hm hc]
    exact (h.kept q' hq').of_eq (hsame _ (h.kept q' hq').lt (hkv q' hq').1 (hkv q' hq').2)
  · rw [visF_eq]
    by_cases e : q' = q
    · subst e; simpa using hv
    · simp only [e, if_false]
      have := (h.vism q' hq').of_eq (hsame _ (h.vism q' hq').lt (hvn q' hq' e) (hvs q' hq'))
      rwa [visF_eq] at this
  · by_cases e : q' = q
    · subst e
      simp only [if_true]
      refine ⟨fun l hl => ?_, fun j mj x hj hcj hx hpx => ?_⟩
      · by_cases hin : (itemsOn s.parts m.items q').any (fun x => decide (x.1.data.toList = l)) = true
        · have ev : visMax (A.vis q') (i + 1) (itemsOn s.parts m.items q') l = max (A.vis q' l) (i + 1) := by unfold visMax; rw [if_pos hin]
          rw [ev]
          by_cases hge : i + 1 < A.vis q' l
          · rw [show max (A.vis q' l) (i + 1) = A.vis q' l from by omega]
            obtain ⟨m0, hm0, hc0, r⟩ := (h.visOk q' hq).seen l (by omega)
            refine ⟨m0, ?_, hc0, r⟩
            show (s.ws.set i _)[A.vis q' l - 1]? = some m0
            rw [List.getElem?_set_ne (by omega)]
            exact hm0
          · rw [show max (A.vis q' l) (i + 1) = i + 1 from by omega]
            rw [List.any_eq_true] at hin
            obtain ⟨x, hx, ex⟩ := hin
            obtain ⟨hx1, hx2⟩ := mem_itemsOn.1 hx
            exact ⟨{ m with comm := put m.comm q' }, by simp [setAt, lt_of_some hm], by simp [put], x, hx1, of_decide_eq_true ex, hx2⟩
        · have ev : visMax (A.vis q') (i + 1) (itemsOn s.parts m.items q') l = A.vis q' l := by unfold visMax; rw [if_neg hin]
          rw [ev] at hl ⊢
          obtain ⟨m0, hm0, hc0, r⟩ := (h.visOk q' hq).seen l hl
          by_cases e : A.vis q' l - 1 = i
          · rw [e, hm] at hm0; cases hm0; rw [hnc] at hc0; cases hc0
          · refine ⟨m0, ?_, hc0, r⟩
            show (s.ws.set i _)[A.vis q' l - 1]? = some m0
            rw [List.getElem?_set_ne (fun e' => e e'.symm)]
            exact hm0
      · rcases set_get hj with ⟨rfl, rfl⟩ | ⟨_, hj'⟩
        · have hin : (itemsOn s.parts m.items q').any (fun y => decide (y.1.data.toList = x.1.data.toList)) = true :=
            List.any_eq_true.2 ⟨x, mem_itemsOn.2 ⟨hx, hpx⟩, by simp⟩
          unfold visMax
          rw [if_pos hin]
          omega
        · have := (h.visOk q' hq).top j mj x hj' hcj hx hpx
          unfold visMax
          split <;> omega
    · simp only [e, if_false]
      refine visOk_comm (h.visOk q' hq') rfl (fun j mj hj hcj => ?_) (fun j mj hj hcj => ?_)
      · by_cases e2 : i = j
        · subst e2
          rw [hm] at hj; cases hj
          exact ⟨{ m with comm := put m.comm q }, by simp [setAt, lt_of_some hm], by simp [put, e, hcj], rfl⟩
        · exact ⟨mj, by simp [setAt, e2, hj], hcj, rfl⟩
      · rcases set_get hj with ⟨rfl, rfl⟩ | ⟨_, hj'⟩
        · exact ⟨m, hm, by simpa [put, e] using hcj, rfl⟩
        · exact ⟨mj, hj', hcj, rfl⟩
  · by_cases e : q' = q
    · subst e
      simpa [stageOf, put, hp] using hs
    · have hb := h.sh i m q' hm hc ho'
      have : Blk w' (A.sh i q') _ _ := hb.of_eq (hsame _ hb.lt (fun e' => by
        have h1 := h.shTag i m q' hm hc ho'; rw [e', h.visTag q hq] at h1; simp at h1) (fun e' => by
        have h1 := h.shTag i m q' hm hc ho'; rw [e', h.shTag i m q hm hc ho] at h1; simp at h1; omega))
      simpa [stageOf, put, e] using this

set_option maxRecDepth 100000 in
set_option maxHeartbeats 2000000 in
theorem commit_any (h : RepS w τ sid b s A) (n : Int) (m : MW) (hf : mFind s n = some m) (p : Int) (hp : -9223372036854775808 ≤ p) (hp' : p ≤ 9223372036854775807) :
    Calls Tryz.prog 52 #[ptr (A.pw (n - 1).toNat), .int .i64 p] w (PPost w τ sid b (mCommit s n p)) := by
  obtain ⟨h1, h2, hm, hc⟩ := mFind_some' hf
  have hlen := h.ok.len
  have hp1 := h.ok.p1
  have hp4 := h.ok.p4
  obtain ⟨i, hi⟩ : ∃ i : Nat, n = (i : Int) + 1 := ⟨(n - 1).toNat, by omega⟩
  subst hi
  rw [show ((i : Int) + 1 - 1).toNat = i from by omega] at hm ⊢
  have hW := h.wr i m hm hc
  have c0 : w.cell? ⟨A.pw i, 0, none⟩ = some (.int .i32 0) := hW.cell (o := 0) rfl
  have f0 := hW.frozen 0
  have hSame := lock_round hW (o := 0) rfl (.int .i32 1)
  have hsne : A.sm i ≠ A.pw i := fun e => by have h1 := h.shmTag i m hm hc; rw [e, h.wrTag i m hm hc] at h1; simp at h1
  have hW1 := hW.set 0 (.int .i32 1)
  have hWb := hW
  have hoth : ∀ k, k ≠ A.pw i → (w.setCell ⟨A.pw i, 0, none⟩ (.int .i32 1)).heap[k]? = w.heap[k]? := fun k hk => Below.heap_setCell _ _ _ _ hk
  have hsz1 : (w.setCell ⟨A.pw i, 0, none⟩ (.int .i32 1)).heap.size = w.heap.size := by simp [World.setCell]
  have hos : (w.setCell ⟨A.pw i, 0, none⟩ (.int .i32 1)).os = w.os ∧ (w.setCell ⟨A.pw i, 0, none⟩ (.int .i32 1)).tape = w.tape ∧ (w.setCell ⟨A.pw i, 0, none⟩ (.int .i32 1)).output = w.output := ⟨rfl, rfl, rfl⟩
  have hun : ∀ (w3 : World) (p : Nat → Prop), (∀ k, p k → w3.heap[k]? = (w.setCell ⟨A.pw i, 0, none⟩ (.int .i32 1)).heap[k]?) → ∀ k, p k → (w3.setCell ⟨A.pw i, 0, none⟩ mu0).heap[k]? = w.heap[k]? := fun w3 p hp k hk => unlock_block hWb rfl hp k hk
  generalize hw1 : w.setCell ⟨A.pw i, 0, none⟩ (.int .i32 1) = w1 at *
  have d3 : w1.cell? ⟨A.pw i, 4, none⟩ = some (.bool false) := hW1.cell (o := 4) rfl
  have d4 : w1.cell? ⟨A.pw i, 5, none⟩ = some (.map (some (A.sm i))) := hW1.cell (o := 5) rfl
  have hM1 : MapF w1 Tryz.prog 3 (A.sm i) (sharesF s A i m) := (h.shm i m hm hc).of_eq (hoth _ hsne)
  have cs := shareOn_any (s := s) (A := A) (A.pw i) (A.sm i) i m p _ hp hp' d3 d4 hM1
  have hshne : ∀ q : Nat, onPart s.parts m.items q = true → A.sh i q ≠ A.pw i := fun q ho e => by have h1 := h.shTag i m q hm hc ho; rw [e, h.wrTag i m hm hc] at h1; simp at h1
  have hS1 : ∀ q : Nat, onPart s.parts m.items q = true → Blk w1 (A.sh i q) #[ptr (A.pb q), .int .i64 (stageOf m q), if m.prep q then nilSlice else A.iv i q] 174 := fun q ho => (h.sh i m q hm hc ho).of_eq (hoth _ (hshne q ho))
  have ca := anyAt_any (s := s) (A := A) i m 0 hp1 d4 hM1 (fun q _ ho => (hS1 q ho).cell (o := 1) rfl)
  rw [anyStage_zero h hm] at ca
  cases ho : onPart s.parts m.items p with
  | false =>
    have Hr : Hid (mCommit s ((i : Int) + 1) p = (8, s)) := by unfold Hid mCommit; rw [hf]; simp [ho]
    have hv : shareVal s A i m p = (.pointer none, 8) := by unfold shareVal; rw [ho]; rfl
    rw [hv] at cs
    unfold ptr at cs ⊢
    unfold mu0 at hSame
    clear ho hv hf ca hS1 hun
    go_enter_defers Tryz.func52, Tryz.ntmps52
    go_wp2_with fail
    refine (lock_free Tryz.muLib ⟨A.pw i, 0, none⟩ _ c0 f0).mono ?_
    rintro e w' ⟨rfl, rfl⟩
    rw [hw1]
    go_wp2_with fail
    refine cs.mono ?_
    rintro e w' ⟨rfl, rfl⟩
    go_wp2_with fail
    refine leaves_cons (f := 38) (args := #[.pointer (some ⟨A.pw i, 0, none⟩)]) (by simp) (by simp [go_sem]) ?_
    refine (unlock_deferred Tryz.muLib ⟨A.pw i, 0, none⟩ .returning _ (hW1.cell (o := 0) rfl) (hW1.frozen 0)).mono ?_
    rintro e u' w'' ⟨rfl, rfl, rfl⟩
    rw [Hr.out]
    exact ⟨_, results_tmp rfl _ _ _, A, rfl, h.same hSame, hSame.stp _ _⟩
  | true =>
    obtain ⟨hb0, hb1⟩ := onPart_bd (by omega) ho
    obtain ⟨q, rfl⟩ := Int.eq_ofNat_of_zero_le hb0
    have hq : q < s.parts := by omega
    have hv : shareVal s A i m q = (.pointer (some ⟨A.sh i q, 0, none⟩), 0) := by unfold shareVal; rw [ho]; rfl
    rw [hv] at cs
    cases hap : allPrep s.parts m with
    | false =>
      have Hr : Hid (mCommit s ((i : Int) + 1) q = (9, s)) := by unfold Hid mCommit; rw [hf]; simp [ho, hap]
      rw [hap] at ca
      unfold ptr at cs ca ⊢
      clear ho hv hf hap hS1
      go_enter_defers Tryz.func52, Tryz.ntmps52
      go_wp2_with fail
      refine (lock_free Tryz.muLib ⟨A.pw i, 0, none⟩ _ c0 f0).mono ?_
      rintro e w' ⟨rfl, rfl⟩
      rw [hw1]
      go_wp2_with fail
      refine cs.mono ?_
      rintro e w' ⟨rfl, rfl⟩
      go_wp2_with fail
      refine ca.mono ?_
      rintro e w2 ⟨rfl, hB⟩
      go_wp2_with fail
      have hW2 : Blk w2 (A.pw i) _ _ := hW1.of_eq (hB.block _ hW1.lt)
      refine leaves_cons (f := 38) (args := #[.pointer (some ⟨A.pw i, 0, none⟩)]) (by simp) (by simp [go_sem]) ?_
      refine (unlock_deferred Tryz.muLib ⟨A.pw i, 0, none⟩ .returning _ (hW2.cell (o := 0) rfl) (hW2.frozen 0)).mono ?_
      rintro e u' w'' ⟨rfl, rfl, rfl⟩
      rw [Hr.out]
      have hall := hun w2 (fun k => k < w.heap.size) (fun k hk => hB.block k (by omega))
      have hBl : Below w.heap.size w (w2.setCell ⟨A.pw i, 0, none⟩ mu0) := ⟨hB.os.trans hos.1, hB.tape.trans hos.2.1, hB.output.trans hos.2.2, by have := hB.size; simp [World.setCell]; omega, hall⟩
      exact ⟨_, results_tmp rfl _ _ _, A, rfl, h.below hBl, ⟨hBl.os, hBl.tape, hBl.output, hBl.size, fun _ _ => rfl, fun k hk _ => hBl.block k hk⟩⟩
    | true =>
      have hpq : m.prep q = true := by
        simp only [allPrep, List.all_eq_true, List.mem_range] at hap
        have := hap q hq
        simpa [ho] using this
      rw [hap] at ca
      have hSq := hS1 q ho
      rw [hpq] at hSq
      cases hcq : m.comm q with
      | true =>
        have Hr : Hid (mCommit s ((i : Int) + 1) q = (10, s)) := by unfold Hid mCommit; rw [hf]; simp [ho, hap, hcq]
        have hst : stageOf m q = 2 := by unfold stageOf; rw [hcq]; rfl
        rw [hst] at hSq
        unfold ptr at cs ca ⊢
        clear ho hv hf hap hS1 hst hcq
        go_enter_defers Tryz.func52, Tryz.ntmps52
        go_wp2_with fail
        refine (lock_free Tryz.muLib ⟨A.pw i, 0, none⟩ _ c0 f0).mono ?_
        rintro e w' ⟨rfl, rfl⟩
        rw [hw1]
        go_wp2_with fail
        refine cs.mono ?_
        rintro e w' ⟨rfl, rfl⟩
        go_wp2_with fail
        refine ca.mono ?_
        rintro e w2 ⟨rfl, hB⟩
        have hS2 : Blk w2 (A.sh i q) _ _ := hSq.of_eq (hB.block _ hSq.lt)
        have e1 : w2.cell? ⟨A.sh i q, 1, none⟩ = some (.int .i64 2) := hS2.cell (o := 1) rfl
        go_wp2_with fail
        have hW2 : Blk w2 (A.pw i) _ _ := hW1.of_eq (hB.block _ hW1.lt)
        refine leaves_cons (f := 38) (args := #[.pointer (some ⟨A.pw i, 0, none⟩)]) (by simp) (by simp [go_sem]) ?_
        refine (unlock_deferred Tryz.muLib ⟨A.pw i, 0, none⟩ .returning _ (hW2.cell (o := 0) rfl) (hW2.frozen 0)).mono ?_
        rintro e u' w'' ⟨rfl, rfl, rfl⟩
        rw [Hr.out]
        have hall := hun w2 (fun k => k < w.heap.size) (fun k hk => hB.block k (by omega))
        have hBl : Below w.heap.size w (w2.setCell ⟨A.pw i, 0, none⟩ mu0) := ⟨hB.os.trans hos.1, hB.tape.trans hos.2.1, hB.output.trans hos.2.2, by have := hB.size; simp [World.setCell]; omega, hall⟩
        exact ⟨_, results_tmp rfl _ _ _, A, rfl, h.below hBl, ⟨hBl.os, hBl.tape, hBl.output, hBl.size, fun _ _ => rfl, fun k hk _ => hBl.block k hk⟩⟩
      | false =>
        have Hr : Hid (mCommit s ((i : Int) + 1) q = (0, setAt s i { m with comm := put m.comm q })) := by
          unfold Hid mCommit; rw [hf]; simp only [ho, hap, hcq, setW_eq, Int.toNat_natCast]
          rw [show ((i : Int) + 1 - 1).toNat = i from by omega]; rfl
        have hst : stageOf m q = 1 := by unfold stageOf; rw [hcq, hpq]; rfl
        rw [hst] at hSq
        have hit := h.it i m q hm hc ho
        have hiw : ∀ k, (A.iv i q).ownBlock = some k → k ≠ A.pw i := fun k hk e => by have h1 := h.itTag i m q k hm hc ho hk; rw [e, h.wrTag i m hm hc] at h1; simp at h1
        have hpb : A.pb q ≠ A.pw i := fun e => by have h1 := h.partTag q hq; rw [e, h.wrTag i m hm hc] at h1; simp at h1
        have hkb : A.kb q ≠ A.pw i := fun e => by have h1 := h.keptTag q hq; rw [e, h.wrTag i m hm hc] at h1; simp at h1
        have hvb : A.vb q ≠ A.pw i := fun e => by have h1 := h.visTag q hq; rw [e, h.wrTag i m hm hc] at h1; simp at h1
        have hsv : A.sh i q ≠ A.vb q := fun e => by have h1 := h.shTag i m q hm hc ho; rw [e, h.visTag q hq] at h1; simp at h1
        have hsp := hshne q ho
        have hPB1 := (h.part q hq).of_eq (hoth _ hpb)
        have hKM1 := (h.kept q hq).of_eq (hoth _ hkb)
        have hVM1 := (h.vism q hq).of_eq (hoth _ hvb)
        rw [visF_eq] at hVM1
        have hIT1 := row_of_block hit (fun k hk => hoth k (hiw k hk))
        have hkf : keptF s A q (.int .i64 ((i + 1 : Nat) : Int)) = some (.agg #[A.iv i q, A.sv i]) := by
          rw [show ((i + 1 : Nat) : Int) = (i : Int) + 1 from by omega]
          simp only [keptF, hf, hpq, if_true]
          rw [show ((i : Int) + 1 - 1).toNat = i from by omega]
        have hI8 := (h.ok.items i m hm).1
        have hIle := itemsOn_le s.parts m.items q
        have cc : ∀ W, Below w1.heap.size w1 W → Calls Tryz.prog 90 #[ptr (A.pb q), .int .i64 ((i : Int) + 1)] W fun e w' => e = .returned (.tuple #[]) ∧ MapF w' Tryz.prog 9 (A.vb q) (visG (visMax (A.vis q) (i + 1) (itemsOn s.parts m.items q))) ∧ Fr (fun k => k = A.vb q) W w' := by
          intro W hB
          have := kCommit (w := W) (A.pb q) (A.kb q) (A.vb q) (keptF s A q) (A.vis q) (i + 1) (A.iv i q) (A.sv i) (itemsOn s.parts m.items q) (allKeys s.ws) (hPB1.of_eq (hB.block _ hPB1.lt)) (hKM1.of_eq (hB.block _ hKM1.lt)) hkf (hVM1.of_eq (hB.block _ hVM1.lt)) (row_of_block hIT1 (fun k hk => hB.block k (row_ge hIT1 k hk).2))
            (itemsOn_pos ho) (by omega) (fun x hx => (h.ok.items i m hm).2 x (mem_itemsOn.1 hx).1) (by omega) (by have := lt_of_some hm; omega) (h.vis_le hq) (h.vis_keys hq) (by
              have := allKeys_len s.ws (fun m' hm' => by obtain ⟨j, hj⟩ := List.getElem?_of_mem hm'; exact (h.ok.items j m' hj).1)
              omega)
          rw [show ((i + 1 : Nat) : Int) = (i : Int) + 1 from by omega] at this
          exact this
        have d2 : w1.cell? ⟨A.pw i, 2, none⟩ = some (.int .i64 ((i : Int) + 1)) := hW1.cell (o := 2) rfl
        have hpwv : A.pw i ≠ A.vb q := fun e => hvb e.symm
        unfold ptr at cs ca cc ⊢
        clear hv hS1 hst hkf hPB1 hKM1 hVM1 hIT1
        go_enter_defers Tryz.func52, Tryz.ntmps52
        go_wp2_with fail
        refine (lock_free Tryz.muLib ⟨A.pw i, 0, none⟩ _ c0 f0).mono ?_
        rintro e w' ⟨rfl, rfl⟩
        rw [hw1]
        go_wp2_with fail
        refine cs.mono ?_
        rintro e w' ⟨rfl, rfl⟩
        go_wp2_with fail
        refine ca.mono ?_
        rintro e w2 ⟨rfl, hB⟩
        have hS2 : Blk w2 (A.sh i q) _ _ := hSq.of_eq (hB.block _ hSq.lt)
        have hW2 : Blk w2 (A.pw i) _ _ := hW1.of_eq (hB.block _ hW1.lt)
        have e0 : w2.cell? ⟨A.sh i q, 0, none⟩ = some (.pointer (some ⟨A.pb q, 0, none⟩)) := hS2.cell (o := 0) rfl
        have e1 : w2.cell? ⟨A.sh i q, 1, none⟩ = some (.int .i64 1) := hS2.cell (o := 1) rfl
        have e2 : w2.cell? ⟨A.pw i, 2, none⟩ = some (.int .i64 ((i : Int) + 1)) := hW2.cell (o := 2) rfl
        have ccD := cc w2.drew hB.drew
        clear cs ca cc
        go_wp2_with fail
        go_region_held3 (fun W => W.cell? ⟨A.sh i q, 0, none⟩ = some (.pointer (some ⟨A.pb q, 0, none⟩)) ∧ W.cell? ⟨A.pw i, 2, none⟩ = some (.int .i64 ((i : Int) + 1))) (simp [*]) ((go_at_call 90; refine ccD.mono ?_; rintro e w3 ⟨rfl, hV3, hF3⟩; have hS3 := hF3.blk (a := w2.drew) hS2 hsv; have hW3 := hF3.blk (a := w2.drew) hW2 hpwv; have k0 := hS3.cell (o := 0) (v := .pointer (some ⟨A.pb q, 0, none⟩)) rfl; have k2 := hW3.cell (o := 2) (v := .int .i64 ((i : Int) + 1)) rfl))
        have k1 := hS3.cell (o := 1) (v := .int .i64 1) rfl
        have f1 := hS3.frozen 1
        clear ccD
        go_wp2_with fail
        have hS4 := hS3.set 1 (.int .i64 2)
        have hW4 : Blk (w3.setCell ⟨A.sh i q, 1, none⟩ (.int .i64 2)) (A.pw i) _ _ := hW3.of_eq (Below.heap_setCell _ _ _ _ (fun e => hsp e.symm))
        refine leaves_cons (f := 38) (args := #[.pointer (some ⟨A.pw i, 0, none⟩)]) (by simp) (by simp [go_sem]) ?_
        refine (unlock_deferred Tryz.muLib ⟨A.pw i, 0, none⟩ .returning _ (hW4.cell (o := 0) rfl) (hW4.frozen 0)).mono ?_
        rintro e u' w'' ⟨rfl, rfl, rfl⟩
        rw [Hr.out]
        have hszB := hB.size
        have hszF : w2.heap.size ≤ w3.heap.size := hF3.size
        have hall := hun (w3.setCell ⟨A.sh i q, 1, none⟩ (.int .i64 2)) (fun k => k < w.heap.size ∧ k ≠ A.vb q ∧ k ≠ A.sh i q) (fun k hk => by
          rw [Below.heap_setCell _ _ _ _ hk.2.2, hF3.block k (by show k < w2.heap.size; omega) hk.2.1]
          exact hB.block k (by omega))
        refine ⟨_, results_tmp rfl _ _ _, _, rfl, h.comm hm hc ho hpq hcq (w' := (w3.setCell ⟨A.sh i q, 1, none⟩ (.int .i64 2)).setCell ⟨A.pw i, 0, none⟩ mu0) (fun k h1 h2 h3 => hall k ⟨h1, h2, h3⟩) (hV3.of_eq ((Below.heap_setCell _ _ _ _ hvb).trans (Below.heap_setCell _ _ _ _ (fun e => hsv e.symm)))) ?_, ?_⟩
        · exact hS4.of_eq (Below.heap_setCell _ _ _ _ hsp)
        · exact ⟨hF3.os.trans (hB.os.trans hos.1), hF3.tape.trans (hB.tape.trans hos.2.1), hF3.output.trans (hB.output.trans hos.2.2), by simp [World.setCell]; omega, fun _ _ => rfl, fun k hk hs => hall k ⟨hk, fun e => hs (by rw [e, h.visTag q hq]), fun e => hs (by rw [e, h.shTag i m q hm hc ho])⟩⟩

/-- Commit, of the program -/
theorem pCommit (h : RepS w τ sid b s A) (n p : Int) (hn : -9223372036854775808 ≤ n) (hn' : n ≤ 9223372036854775807) (hp : -9223372036854775808 ≤ p) (hp' : p ≤ 9223372036854775807) :
    Calls Tryz.prog 28 #[ptr b, .int .i64 n, .int .i64 p] w (PPost w τ sid b (mCommit s n p)) := by
  have c := find_any h n hn hn'
  cases hf : mFind s n with
  | none =>
    have Hr : Hid (mCommit s n p = (7, s)) := by unfold Hid mCommit; rw [hf]
    have hv : findVal s A n = (.pointer none, false) := by unfold findVal; rw [hf]
    rw [hv] at c
    unfold ptr at c ⊢
    clear hf hv
    go_enter Tryz.func28, Tryz.ntmps28
    go_wp2_with fail
    refine c.mono ?_
    rintro e w1 ⟨rfl, hS⟩
    go_wp2_with fail
    go_ret
    rw [Hr.out]
    exact ⟨A, rfl, h.same hS, hS.stp _ _⟩
  | some m =>
    have hv : findVal s A n = (ptr (A.pw (n - 1).toNat), true) := by unfold findVal; rw [hf]
    rw [hv] at c
    have c2 : ∀ w1, Same w w1 → Calls Tryz.prog 52 #[ptr (A.pw (n - 1).toNat), .int .i64 p] w1 (PPost w1 τ sid b (mCommit s n p)) := fun w1 hS => commit_any (h.same hS) n m hf p hp hp'
    generalize (n - 1).toNat = j at c c2
    unfold ptr at c c2 ⊢
    clear hf hv
    go_enter Tryz.func28, Tryz.ntmps28
    go_wp2_with fail
    refine c.mono ?_
    rintro e w1 ⟨rfl, hS⟩
    have c3 := c2 w1 hS
    clear c c2
    go_wp2_with fail
    refine c3.mono ?_
    rintro e w2 ⟨A', rfl, hR, hT⟩
    go_wp2_with fail
    go_ret
    exact ⟨A', rfl, hR, (hS.stp _ _).trans hT⟩

end
end Go.Proofs.YteoahlieielcdaaGreat
