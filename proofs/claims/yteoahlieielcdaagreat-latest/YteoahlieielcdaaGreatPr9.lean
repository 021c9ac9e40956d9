/-
  The program: cancel, Cancel.
-/
import Derived.Test.YteoahlieielcdaaGreatPr8
namespace Go.Proofs.YteoahlieielcdaaGreat
open Go Go.RowKit Go.MuLone
open Go.Maps (Keyed)

section
variable {w : World} {τ : Nat → Tag} {sid b : Nat} {s : MS} {A : SA}

/-- what a part keeps, in the midst of a cancelling -/
def keptMid (s : MS) (A : SA) (i : Nat) (m : MW) (left : Lit → Bool) (q : Nat) : Lit → Option Value :=
  if (onPart s.parts m.items q && !left (.int .i64 q)) = true then del (keptF s A q) (.int .i64 ((i : Int) + 1)) else keptF s A q

/-- what cancel leaves, where it says yes -/
structure Canc (w w' : World) (s : MS) (A : SA) (i : Nat) : Prop where
  fr : Fr (fun k => k = A.pw i ∨ ∃ q, q < s.parts ∧ k = A.kb q) w w'
  kept : ∀ q, q < s.parts → MapF w' Tryz.prog 3 (A.kb q) (del (keptF s A q) (.int .i64 ((i : Int) + 1)))

set_option maxRecDepth 100000 in
set_option maxHeartbeats 2000000 in
theorem cancel_any (h : RepS w τ sid b s A) (i : Nat) (m : MW) (hm : s.ws[i]? = some m) (hc : m.canc = false) :
    Calls Tryz.prog 54 #[ptr (A.pw i)] w fun e w' =>
      ((m.comm 0 || m.comm 1 || m.comm 2 || m.comm 3) = true ∧ e = .returned (.int .i64 9) ∧ Below w.heap.size w w') ∨
      ((m.comm 0 || m.comm 1 || m.comm 2 || m.comm 3) = false ∧ e = .returned (.int .i64 0) ∧ Canc w w' s A i) := by
  have hlen := h.ok.len
  have hp1 := h.ok.p1
  have hp4 := h.ok.p4
  have hi := lt_of_some hm
  have hW := h.wr i m hm hc
  have c0 : w.cell? ⟨A.pw i, 0, none⟩ = some (.int .i32 0) := hW.cell (o := 0) rfl
  have f0 := hW.frozen 0
  have hsne : A.sm i ≠ A.pw i := fun e => by have h1 := h.shmTag i m hm hc; rw [e, h.wrTag i m hm hc] at h1; simp at h1
  have hW1 := hW.set 0 (.int .i32 1)
  have hWb := hW
  have hoth : ∀ k, k ≠ A.pw i → (w.setCell ⟨A.pw i, 0, none⟩ (.int .i32 1)).heap[k]? = w.heap[k]? := fun k hk => Below.heap_setCell _ _ _ _ hk
  have hsz1 : (w.setCell ⟨A.pw i, 0, none⟩ (.int .i32 1)).heap.size = w.heap.size := by simp [World.setCell]
  have hos : (w.setCell ⟨A.pw i, 0, none⟩ (.int .i32 1)).os = w.os ∧ (w.setCell ⟨A.pw i, 0, none⟩ (.int .i32 1)).tape = w.tape ∧ (w.setCell ⟨A.pw i, 0, none⟩ (.int .i32 1)).output = w.output := ⟨rfl, rfl, rfl⟩
  have hun : ∀ (w3 : World) (p : Nat → Prop), (∀ k, p k → w3.heap[k]? = (w.setCell ⟨A.pw i, 0, none⟩ (.int .i32 1)).heap[k]?) → ∀ k, p k → (w3.setCell ⟨A.pw i, 0, none⟩ mu0).heap[k]? = w.heap[k]? := fun w3 p hp k hk => unlock_block hWb rfl hp k hk
  generalize hw1 : w.setCell ⟨A.pw i, 0, none⟩ (.int .i32 1) = w1 at *
  have d3 : w1.cell? ⟨A.pw i, 4, none⟩ = some (.bool false) := hW1.cell (o := 4) rfl
  have d4 : w1.cell? ⟨A.pw i, 5, none⟩ = some (.map (some (A.sm i))) := hW1.cell (o := 5) rfl
  have hM1 : MapF w1 Tryz.prog 3 (A.sm i) (sharesF s A i m) := (h.shm i m hm hc).of_eq (hoth _ hsne)
  have hshne : ∀ q : Nat, onPart s.parts m.items q = true → A.sh i q ≠ A.pw i := fun q ho e => by have h1 := h.shTag i m q hm hc ho; rw [e, h.wrTag i m hm hc] at h1; simp at h1
  have hS1 : ∀ q : Nat, onPart s.parts m.items q = true → Blk w1 (A.sh i q) #[ptr (A.pb q), .int .i64 (stageOf m q), if m.prep q then nilSlice else A.iv i q] 174 := fun q ho => (h.sh i m q hm hc ho).of_eq (hoth _ (hshne q ho))
  have ca := anyAt_any (s := s) (A := A) i m 2 hp1 d4 hM1 (fun q _ ho => (hS1 q ho).cell (o := 1) rfl)
  rw [anyStage_two h hm] at ca
  cases hcm : (m.comm 0 || m.comm 1 || m.comm 2 || m.comm 3) with
  | true =>
    rw [hcm] at ca
    unfold ptr at ca ⊢
    clear hcm hS1
    go_enter_defers Tryz.func54, Tryz.ntmps54
    go_wp2_with fail
    refine (lock_free Tryz.muLib ⟨A.pw i, 0, none⟩ _ c0 f0).mono ?_
    rintro e w' ⟨rfl, rfl⟩
    rw [hw1]
    go_wp2_with fail
    refine ca.mono ?_
    rintro e w2 ⟨rfl, hB⟩
    go_wp2_with fail
    have hW2 : Blk w2 (A.pw i) _ _ := hW1.of_eq (hB.block _ hW1.lt)
    refine leaves_cons (f := 38) (args := #[.pointer (some ⟨A.pw i, 0, none⟩)]) (by simp) (by simp [go_sem]) ?_
    refine (unlock_deferred Tryz.muLib ⟨A.pw i, 0, none⟩ .returning _ (hW2.cell (o := 0) rfl) (hW2.frozen 0)).mono ?_
    rintro e u' w'' ⟨rfl, rfl, rfl⟩
    have hall := hun w2 (fun k => k < w.heap.size) (fun k hk => hB.block k (by omega))
    have hBl : Below w.heap.size w (w2.setCell ⟨A.pw i, 0, none⟩ mu0) := ⟨hB.os.trans hos.1, hB.tape.trans hos.2.1, hB.output.trans hos.2.2, by have := hB.size; simp [World.setCell]; omega, hall⟩
    exact ⟨_, results_tmp rfl _ _ _, Or.inl ⟨trivial, rfl, hBl⟩⟩
  | false =>
    rw [hcm] at ca
    have f3 : w1.frozen? ⟨A.pw i, 4, none⟩ = false := hW1.frozen 4
    have hkt := h.keptTag
    have hks : ∀ q q' : Nat, q < s.parts → onPart s.parts m.items q' = true → A.sh i q' ≠ A.kb q := fun q q' hq ho e => by have h1 := h.shTag i m q' hm hc ho; rw [e, hkt q hq] at h1; simp at h1
    have hkw : ∀ q, q < s.parts → A.pw i ≠ A.kb q := fun q hq e => by have h1 := h.wrTag i m hm hc; rw [e, hkt q hq] at h1; simp at h1
    have hkm : ∀ q, q < s.parts → A.sm i ≠ A.kb q := fun q hq e => by have h1 := h.shmTag i m hm hc; rw [e, hkt q hq] at h1; simp at h1
    have hkp : ∀ q q', q < s.parts → q' < s.parts → A.pb q' ≠ A.kb q := fun q q' hq hq' e => by have h1 := h.partTag q' hq'; rw [e, hkt q hq] at h1; simp at h1
    have hkk : ∀ q q', q < s.parts → q' < s.parts → q ≠ q' → A.kb q' ≠ A.kb q := fun q q' hq hq' hne e => by have h1 := hkt q' hq'; rw [e, hkt q hq] at h1; simp at h1; omega
    have hpw : ∀ q, q < s.parts → A.pb q ≠ A.pw i := fun q hq e => by have h1 := h.partTag q hq; rw [e, h.wrTag i m hm hc] at h1; simp at h1
    have hPB1 : ∀ q, q < s.parts → Blk w1 (A.pb q) #[mu0, sem0, .map (some (A.kb q)), .map (some (A.vb q))] 202 := fun q hq => (h.part q hq).of_eq (hoth _ (hpw q hq))
    have hKM1 : ∀ q, q < s.parts → MapF w1 Tryz.prog 3 (A.kb q) (keptF s A q) := fun q hq => (h.kept q hq).of_eq (hoth _ (fun e => hkw q hq e.symm))
    have hfs : ∀ x u, sharesF s A i m (.int .i64 x) = some u → u = .pointer (some ⟨A.sh i x.toNat, 0, none⟩) ∧ (0 ≤ x ∧ x < s.parts ∧ onPart s.parts m.items x = true) := by
      intro x u hu
      simp only [sharesF] at hu
      split at hu
      · rename_i ho
        cases hu
        exact ⟨rfl, (onPart_bd (by omega) ho).1, (onPart_bd (by omega) ho).2, ho⟩
      · cases hu
    unfold ptr at ca ⊢
    go_enter_defers Tryz.func54, Tryz.ntmps54
    go_wp2_with fail
    refine (lock_free Tryz.muLib ⟨A.pw i, 0, none⟩ _ c0 f0).mono ?_
    rintro e w' ⟨rfl, rfl⟩
    rw [hw1]
    go_wp2_with fail
    refine ca.mono ?_
    rintro e w2 ⟨rfl, hB⟩
    have hW2 : Blk w2 (A.pw i) _ _ := hW1.of_eq (hB.block _ hW1.lt)
    have g3 : w2.cell? ⟨A.pw i, 4, none⟩ = some (.bool false) := hW2.cell (o := 4) rfl
    have g4 : w2.cell? ⟨A.pw i, 5, none⟩ = some (.map (some (A.sm i))) := hW2.cell (o := 5) rfl
    have ff3 := hW2.frozen 4
    have hW3 := hW2.set 4 (.bool true)
    have hFr3 : Fr (fun k => k = A.pw i) w1 (w2.setCell ⟨A.pw i, 4, none⟩ (.bool true)) := (Fr.of_below hB).setCell (M := fun k => k = A.pw i) (p := ⟨A.pw i, 4, none⟩) rfl _
    have hM3 : MapF (w2.setCell ⟨A.pw i, 4, none⟩ (.bool true)) Tryz.prog 3 (A.sm i) (sharesF s A i m) := hFr3.map hM1 hsne
    obtain ⟨n, D, hown, hs⟩ := hM3
    have hsz3 : (w2.setCell ⟨A.pw i, 4, none⟩ (.bool true)).heap.size = w2.heap.size := by simp [World.setCell]
    go_wp2_with (at_range; refine wpList_range_own _ rfl _ 162 rfl 3 168 keyInt Tryz.underlying162 rawElem (A.sm i) n D rfl hown ?_; intro w0 hrg0 hg0 hs0)
    go_frame
    rw [hsz3] at hrg0 hs0 ⊢
    have hszB := hB.size
    generalize hx : w2.setCell ⟨A.pw i, 4, none⟩ (.bool true) = X at *
    have hSX : ∀ q : Nat, onPart s.parts m.items q = true → Blk X (A.sh i q) #[ptr (A.pb q), .int .i64 (stageOf m q), if m.prep q then nilSlice else A.iv i q] 174 := fun q ho => hFr3.blk (hS1 q ho) (hshne q ho)
    have hPX : ∀ q, q < s.parts → Blk X (A.pb q) #[mu0, sem0, .map (some (A.kb q)), .map (some (A.vb q))] 202 := fun q hq => hFr3.blk (hPB1 q hq) (hpw q hq)
    have hKX : ∀ q, q < s.parts → MapF X Tryz.prog 3 (A.kb q) (keptF s A q) := fun q hq => hFr3.map (hKM1 q hq) (fun e => hkw q hq e.symm)
    have hn1 : -9223372036854775808 ≤ (i : Int) + 1 := by omega
    have hn2 : (i : Int) + 1 ≤ 9223372036854775807 := by omega
    clear hS1 hPB1 hKM1 ca
    go_loopw [4] (fun _ wr => ∃ left cnt, wr.ranges Tryz.prog 3 rawElem (A.sm i) w2.heap.size n D left cnt ∧ Fr (fun k => ∃ q, q < s.parts ∧ k = A.kb q) X wr ∧ Hid (∀ q, q < s.parts → MapF wr Tryz.prog 3 (A.kb q) (keptMid s A i m left q))) (fun _ wr => wr.rangeLeft (A.sm i) w2.heap.size)
    case atStart =>
      refine ⟨_, _, hrg0, ⟨hg0.os, hg0.tape, hg0.output, hg0.size, fun k hk _ => hg0.block k hk (by simp)⟩, fun q hq => ?_⟩
      have e1 : keptMid s A i m (Maps.has D) q = keptF s A q := by
        unfold keptMid
        rw [hs.2]
        simp only [sharesF]
        by_cases ho : onPart s.parts m.items q = true
        · simp [ho]
        · simp [ho]
      rw [e1]
      exact (hKX q hq).of_eq (hg0.block _ (hKX q hq).lt (by simp))
    case round =>
      obtain ⟨left, cnt, hrg, hF, HK⟩ := hrel
      go_wp2_with (at_next; refine wpList_nextF _ rfl _ rfl 3 keyInt Tryz.underlying3 (A.sm i) w2.heap.size n D (sharesF s A i m) hs (fun x => A.sh i x.toNat) _ hfs left cnt rfl hrg ?_ ?_)
      · intro hl0
        have HC : Hid (∀ q, q < s.parts → MapF wr Tryz.prog 3 (A.kb q) (del (keptF s A q) (.int .i64 ((i : Int) + 1)))) := by
          intro q hq
          have := HK.out q hq
          unfold keptMid at this
          rw [hl0] at this
          cases ho : onPart s.parts m.items q
          · rw [ho] at this
            rw [keptF_off h hm hc ho]
            simpa using this
          · rw [ho] at this
            simpa using this
        have hWr := hF.blk hW3 (fun ⟨q, hq, e⟩ => hkw q hq e)
        clear hl0
        go_wp2_with fail
        refine leaves_cons (f := 38) (args := #[.pointer (some ⟨A.pw i, 0, none⟩)]) (by simp) (by simp [go_sem]) ?_
        refine (unlock_deferred Tryz.muLib ⟨A.pw i, 0, none⟩ .returning _ (hWr.cell (o := 0) rfl) (hWr.frozen 0)).mono ?_
        rintro e u' w'' ⟨rfl, rfl, rfl⟩
        refine ⟨_, results_tmp rfl _ _ _, Or.inr ⟨trivial, rfl, ⟨⟨hF.os.trans (hFr3.os.trans hos.1), hF.tape.trans (hFr3.tape.trans hos.2.1), hF.output.trans (hFr3.output.trans hos.2.2), ?_, fun k hk hM => ?_⟩, fun q hq => (HC.out q hq).of_eq (Below.heap_setCell _ _ _ _ (fun e => hkw q hq e.symm))⟩⟩⟩
        · have h1 := hF.size
          have h2 := hFr3.size
          simp [World.setCell]; omega
        · have hkp' : k ≠ A.pw i := fun e => hM (Or.inl e)
          have h2 := hFr3.size
          rw [Below.heap_setCell _ _ _ _ hkp', hF.block k (by omega) (fun e => hM (Or.inr e)), hFr3.block k (by omega) hkp', hoth k hkp']
      · intro x w4 cnt1 hx0 hx1 hxo hlx hrg1 hlt hg1 hs1 hen
        obtain ⟨q, rfl⟩ := Int.eq_ofNat_of_zero_le hx0
        simp only [Int.toNat_natCast] at hen ⊢
        have hq : q < s.parts := by omega
        have hrl := hrg.lt
        have hsF := hF.size
        have hF4 : Fr (fun k => ∃ q, q < s.parts ∧ k = A.kb q) X w4 := ⟨hg1.os.trans hF.os, hg1.tape.trans hF.tape, hg1.output.trans hF.output, by omega, fun k hk hM => (hg1.block k (by omega) (fun e => by have := Option.some.inj e; omega)).trans (hF.block k hk hM)⟩
        have hS4 := hF4.blk (hSX q hxo) (fun ⟨q', hq', e⟩ => hks q' q hq' hxo e)
        have hW4 := hF4.blk hW3 (fun ⟨q', hq', e⟩ => hkw q' hq' e)
        have hP4 := hF4.blk (hPX q hq) (fun ⟨q', hq', e⟩ => hkp q' q hq' hq e)
        have hK4 : ∀ q', q' < s.parts → MapF w4 Tryz.prog 3 (A.kb q') (keptMid s A i m left q') := fun q' hq' => (HK.out q' hq').of_eq (hg1.block _ (HK.out q' hq').lt (fun e => by have := Option.some.inj e; have := (hKX q' hq').lt; omega))
        have hKq : MapF w4 Tryz.prog 3 (A.kb q) (keptF s A q) := by
          have := hK4 q hq
          unfold keptMid at this
          rw [hlx] at this
          simpa using this
        have e0 : w4.cell? ⟨A.sh i q, 0, none⟩ = some (.pointer (some ⟨A.pb q, 0, none⟩)) := hS4.cell (o := 0) rfl
        have e2 : w4.cell? ⟨A.pw i, 2, none⟩ = some (.int .i64 ((i : Int) + 1)) := hW4.cell (o := 2) rfl
        have hsq : A.sh i q ≠ A.kb q := hks q q hq hxo
        have hwq := hkw q hq
        have HM : Hid (∀ w5 : World, But w4 w5 (A.kb q) → MapF w5 Tryz.prog 3 (A.kb q) (del (keptF s A q) (.int .i64 ((i : Int) + 1))) → ∀ q', q' < s.parts → MapF w5 Tryz.prog 3 (A.kb q') (keptMid s A i m (fun z => left z && !z.sameKey (.int .i64 q)) q')) := by
          intro w5 hB5 hM5 q' hq'
          by_cases e : q' = q
          · subst e
            have e1 : keptMid s A i m (fun z => left z && !z.sameKey (.int .i64 q')) q' = del (keptF s A q') (.int .i64 ((i : Int) + 1)) := by
              have e2 : (Lit.int .i64 (q' : Int)).sameKey (.int .i64 q') = true := same_self (by trivial)
              unfold keptMid
              simp only [hxo, e2, Bool.not_true, Bool.and_false, Bool.not_false, Bool.and_true, if_true]
            rw [e1]; exact hM5
          · have e1 : keptMid s A i m (fun z => left z && !z.sameKey (.int .i64 q)) q' = keptMid s A i m left q' := by
              have e2 : (Lit.int .i64 (q' : Int)).sameKey (.int .i64 q) = false := Maps.sameKey_ne (by intro e2; injection e2 with _ e2; omega)
              unfold keptMid
              simp only [e2, Bool.not_false, Bool.and_true]
            rw [e1]
            exact (hK4 q' hq').of_eq (hB5.block _ (hkk q q' hq hq' (fun e2 => e e2.symm)))
        have hr5 : ∀ w5 : World, But w4 w5 (A.kb q) → w5.ranges Tryz.prog 3 rawElem (A.sm i) w2.heap.size n D (fun z => left z && !z.sameKey (.int .i64 q)) cnt1 ∧ Fr (fun k => ∃ q, q < s.parts ∧ k = A.kb q) X w5 := fun w5 hB5 =>
          ⟨hrg1.kept hB5.grown (fun e => hkm q hq (Option.some.inj e)) (fun e => by have := Option.some.inj e; have := (hKX q hq).lt; omega), hF4.trans (Fr.of_but (M := fun k => ∃ q, q < s.parts ∧ k = A.kb q) hB5 ⟨q, hq, rfl⟩)⟩
        have HR5 := (show Hid _ from hr5)
        clear hr5 hlx hxo hK4 hSX hPX hs hfs
        go_wp2_with fail
        go_region_held3 (fun W => W.cell? ⟨A.sh i q, 0, none⟩ = some (.pointer (some ⟨A.pb q, 0, none⟩)) ∧ W.cell? ⟨A.pw i, 2, none⟩ = some (.int .i64 ((i : Int) + 1))) (simp [*]) ((go_at_call 92; refine (kDrop (A.pb q) (A.kb q) (A.vb q) (keptF s A q) (by exact hP4) (by exact hKq) _ hn1 hn2).mono ?_; rintro e w5 ⟨rfl, hM5, hB5⟩; have hS5 := hS4.of_eq (hB5.block _ hsq); have hW5 := hW4.of_eq (hB5.block _ hwq); have k0 := hS5.cell (o := 0) (v := .pointer (some ⟨A.pb q, 0, none⟩)) rfl; have k2 := hW5.cell (o := 2) (v := .int .i64 ((i : Int) + 1)) rfl))
        have hB5' : But w4 w5 (A.kb q) := ⟨hB5.os, hB5.tape, hB5.output, hB5.size, hB5.block⟩
        obtain ⟨r1, r2⟩ := HR5.out w5 hB5'
        have r3 := HM.out w5 hB5' hM5
        go_roundw
        case rel => (repeat apply Exists.intro); exact ⟨⟨_, _, r1, r2, r3⟩, rfl⟩
        case measure => rw [r1.left_eq, hrg.left_eq]; omega

end
end Go.Proofs.YteoahlieielcdaaGreat

/-
  The program: Cancel.
-/
namespace Go.Proofs.YteoahlieielcdaaGreat
open Go Go.RowKit Go.MuLone
open Go.Maps (Keyed)

section
variable {w : World} {τ : Nat → Tag} {sid b : Nat} {s : MS} {A : SA}

theorem comm_all {m : MW} (hi : ∀ q, m.comm q = true → q < 4) (h : (m.comm 0 || m.comm 1 || m.comm 2 || m.comm 3) = false) : ∀ q, m.comm q = false := by
  intro q
  cases hc : m.comm q
  · rfl
  · have := hi q hc
    have : q = 0 ∨ q = 1 ∨ q = 2 ∨ q = 3 := by omega
    simp only [Bool.or_eq_false_iff] at h
    rcases this with rfl | rfl | rfl | rfl <;> simp_all

set_option maxRecDepth 100000 in
set_option maxHeartbeats 800000 in
theorem pCancel (h : RepS w τ sid b s A) (n : Int) (hn : -9223372036854775808 ≤ n) (hn' : n ≤ 9223372036854775807) :
    Calls Tryz.prog 30 #[ptr b, .int .i64 n] w (PPost w τ sid b (mCancel s n)) := by
  have c := find_any h n hn hn'
  cases hf : mFind s n with
  | none =>
    have Hr : Hid (mCancel s n = (7, s)) := by unfold Hid mCancel; rw [hf]
    have hv : findVal s A n = (.pointer none, false) := by unfold findVal; rw [hf]
    rw [hv] at c
    unfold ptr at c ⊢
    clear hf hv
    go_enter Tryz.func30, Tryz.ntmps30
    go_wp2_with fail
    refine c.mono ?_
    rintro e w1 ⟨rfl, hS⟩
    go_wp2_with fail
    go_ret
    rw [Hr.out]
    exact ⟨A, rfl, h.same hS, hS.stp _ _⟩
  | some m =>
    have hv : findVal s A n = (ptr (A.pw (n - 1).toNat), true) := by unfold findVal; rw [hf]
    rw [hv] at c
    obtain ⟨h1, h2, hm, hc⟩ := mFind_some' hf
    have hp4 := h.ok.p4
    have hp1 := h.ok.p1
    have c2 : ∀ w1, Same w w1 → _ := fun w1 hS => cancel_any (h.same hS) (n - 1).toNat m hm hc
    have hnj : n = ((n - 1).toNat : Int) + 1 := by omega
    have H9 : Hid ((m.comm 0 || m.comm 1 || m.comm 2 || m.comm 3) = true → mCancel s n = (9, s)) := by intro ha; unfold mCancel; rw [hf]; simp only [ha, if_true]
    have H0 : Hid ((m.comm 0 || m.comm 1 || m.comm 2 || m.comm 3) = false → mCancel s n = (0, setAt s (n - 1).toNat { m with canc := true })) := by
      intro ha; unfold mCancel; rw [hf]; simp only [ha]; rfl
    have hci : ∀ q, m.comm q = true → q < 4 := fun q hcq => by
      have ho := h.inv.po _ m q hm (h.inv.cp _ m q hm hcq)
      have := (onPart_bd (by omega) ho).2
      omega
    generalize (n - 1).toNat = j at *
    have Hnj : Hid (n = (j : Int) + 1) := hnj
    unfold ptr at c c2 ⊢
    clear hf hv hnj
    go_enter Tryz.func30, Tryz.ntmps30
    go_wp2_with fail
    refine c.mono ?_
    rintro e w1 ⟨rfl, hS⟩
    have c3 := c2 w1 hS
    clear c c2
    go_wp2_with fail
    refine c3.mono ?_
    rintro e w2 (⟨hcm, rfl, hB⟩ | ⟨hcm, rfl, hC⟩)
    · have Hr : Hid (mCancel s n = (9, s)) := H9.out hcm
      clear c3 hcm
      go_wp2_with fail
      go_ret
      rw [Hr.out]
      have hB2 : Below w.heap.size w w2 := ⟨hB.os.trans hS.os, hB.tape.trans hS.tape, hB.output.trans hS.output, by have := hB.size; rw [hS.heap] at this; exact this, fun k hk => (hB.block k (by rw [hS.heap]; exact hk)).trans (by rw [hS.heap])⟩
      exact ⟨A, rfl, h.below hB2, ⟨hB2.os, hB2.tape, hB2.output, hB2.size, fun _ _ => rfl, fun k hk _ => hB2.block k hk⟩⟩
    · have Hr : Hid (mCancel s n = (0, setAt s j { m with canc := true })) := H0.out hcm
      have hnc := comm_all hci hcm
      have hF : Fr (fun k => k = A.pw j ∨ ∃ q, q < s.parts ∧ k = A.kb q) w w2 := (Fr.of_same hS).trans hC.fr
      have hbne : ¬ (b = A.pw j ∨ ∃ q, q < s.parts ∧ b = A.kb q) := by
        rintro (e | ⟨q, hq, e⟩)
        · have h1 := h.wrTag j m hm hc; rw [← e, h.tag] at h1; simp at h1
        · have h1 := h.keptTag q hq; rw [← e, h.tag] at h1; simp at h1
      have hmne : ¬ (A.wm = A.pw j ∨ ∃ q, q < s.parts ∧ A.wm = A.kb q) := by
        rintro (e | ⟨q, hq, e⟩)
        · have h1 := h.wrTag j m hm hc; rw [← e, h.wmTag] at h1; simp at h1
        · have h1 := h.keptTag q hq; rw [← e, h.wmTag] at h1; simp at h1
      have hb2 := hF.blk h.blk hbne
      have hm2 := hF.map h.wmap hmne
      have c4 := forget_any (w := w2) b A.wm _ (writesF s A) hb2 rfl rfl hm2 n hn hn'
      unfold ptr at c4
      clear c3 hcm
      go_wp2_with fail
      refine c4.mono ?_
      rintro e w3 ⟨rfl, hM3, hB3⟩
      clear c4
      go_wp2_with fail
      go_ret
      rw [Hr.out]
      have hkm : ∀ q, q < s.parts → A.kb q ≠ A.wm := fun q hq e => hmne (Or.inr ⟨q, hq, e.symm⟩)
      have hsz2 := hF.size
      rw [Hnj.out] at hM3
      refine ⟨A, rfl, h.canc hm hc hnc (fun k hk hkb hkp hkw => ?_) (fun q hq => (hC.kept q hq).of_eq (hB3.block _ (hkm q hq))) hM3, ?_⟩
      · exact (hB3.block k hkw).trans (hF.block k hk (by rintro (e | ⟨q, hq, e⟩); exact hkp e; exact hkb q hq e))
      · refine ⟨hB3.os.trans hF.os, hB3.tape.trans hF.tape, hB3.output.trans hF.output, by rw [hB3.size]; exact hF.size, fun _ _ => rfl, fun k hk hs => ?_⟩
        refine (hB3.block k (fun e => hs (by rw [e, h.wmTag]))).trans (hF.block k hk ?_)
        rintro (e | ⟨q, hq, e⟩)
        · exact hs (by rw [e, h.wrTag j m hm hc])
        · exact hs (by rw [e, h.keptTag q hq])

end
end Go.Proofs.YteoahlieielcdaaGreat
