/-
  The document's answer: Part, Commit, Cancel, New.
-/
import Derived.Test.YteoahlieielcdaaGreatRef1
namespace Go.Proofs.YteoahlieielcdaaGreat
open Go Go.RowKit

section
variable {w : World} {τ : Nat → Tag} {sid b : Nat} {s : MS} {A : RA}

theorem allPrep_true {n : Nat} {m : MW} (h : ∀ q, q < n → onPart n m.items q = true → m.prep q = true) : allPrep n m = true := by
  simp only [allPrep, List.all_eq_true, List.mem_range]
  intro q hq
  cases ho : onPart n m.items q
  · rfl
  · simpa using h q hq ho
theorem allPrep_false {n : Nat} {m : MW} {q : Nat} (hq : q < n) (ho : onPart n m.items q = true) (hp : m.prep q = false) : allPrep n m = false := by
  cases ha : allPrep n m
  · rfl
  · simp only [allPrep, List.all_eq_true, List.mem_range] at ha
    have := ha q hq
    simp [ho, hp] at this

set_option maxRecDepth 100000 in
set_option maxHeartbeats 800000 in
theorem rCommit (h : RepR w τ sid b s A) (n p : Int) (hn : -9223372036854775808 ≤ n) (hn' : n ≤ 9223372036854775807) :
    Calls Tryz.prog 61 #[ptr b, .int .i64 n, .int .i64 p] w (RPost w τ sid b A (mCommit s n p)) := by
  cases hf : mFind s n with
  | none =>
    have Hr : Hid (mCommit s n p = (7, s)) := by unfold Hid mCommit; rw [hf]
    have c := rwrite_none h n hn hn' hf
    unfold ptr at c ⊢
    clear hf
    go_enter Tryz.func61, Tryz.ntmps61
    go_wp2_with fail
    refine c.mono ?_
    rintro e w' ⟨rfl, rfl⟩
    go_wp2_with fail
    go_ret
    rw [Hr.out]
    exact ⟨rfl, h, Stp.refl _ _ _⟩
  | some m =>
    obtain ⟨h1, h2, hm, hc⟩ := mFind_some hf
    have c := rwrite_some h n m hf
    generalize hi : (n - 1).toNat = i at *
    have con := on_any h hm p
    have hp4 := h.ok.p4
    have hp1 := h.ok.p1
    cases hon : onPart s.parts m.items p with
    | false =>
      have Hr : Hid (mCommit s n p = (8, s)) := by unfold Hid mCommit; rw [hf]; simp [hon]
      rw [hon] at con
      unfold ptr at c con ⊢
      clear hf hon
      go_enter Tryz.func61, Tryz.ntmps61
      go_wp2_with fail
      refine c.mono ?_
      rintro e w' ⟨rfl, rfl⟩
      go_wp2_with fail
      refine con.mono ?_
      rintro e w' ⟨rfl, rfl⟩
      go_wp2_with fail
      go_ret
      rw [Hr.out]
      exact ⟨rfl, h, Stp.refl _ _ _⟩
    | true =>
      obtain ⟨hb0, hb1⟩ := onPart_bd (by omega) hon
      obtain ⟨q, rfl⟩ := Int.eq_ofNat_of_zero_le hb0
      have hq : q < 4 := by omega
      have cq := h.cComm hm hq
      have fq := (h.wr i m hm).frozen (5 + q)
      have cP := h.cParts
      rw [hon] at con
      have H9 : Hid (allPrep s.parts m = false → mCommit s n q = (9, s)) := by intro ha; unfold mCommit; rw [hf]; simp [hon, ha]
      have H10 : Hid (allPrep s.parts m = true → m.comm q = true → mCommit s n q = (10, s)) := by intro ha hcq; unfold mCommit; rw [hf]; simp [hon, ha, hcq]
      have H0 : Hid (allPrep s.parts m = true → m.comm q = false → mCommit s n q = (0, { s with ws := s.ws.set i { m with comm := put m.comm q } })) := by
        intro ha hcq; unfold mCommit; rw [hf]; simp [hon, ha, hcq, setW, hi]
      have hR := h.comm hm hq
      unfold ptr at c con ⊢
      clear hf hon
      go_enter Tryz.func61, Tryz.ntmps61
      go_wp2_with fail
      refine c.mono ?_
      rintro e w' ⟨rfl, rfl⟩
      go_wp2_with fail
      refine con.mono ?_
      rintro e w' ⟨rfl, rfl⟩
      clear c con
      go_wp2_with fail
      go_loop [9] (fun u => ∃ k : Nat, k ≤ s.parts ∧ u = .int .i64 k ∧ Hid (∀ j, j < k → onPart s.parts m.items j = true → m.prep j = true)) (fun u => s.parts - (intOf u).toNat)
      case atStart => exact ⟨0, Nat.zero_le _, rfl, fun j hj => by omega⟩
      case round =>
        obtain ⟨k, hk, rfl, HO⟩ := hrel
        by_cases hlt : k < s.parts
        · have con := on_any h hm k
          have ck := h.cPrep hm (q := k) (by omega)
          unfold ptr at con
          cases hon : onPart s.parts m.items k with
          | false =>
            have HO' : Hid (∀ j, j < k + 1 → onPart s.parts m.items j = true → m.prep j = true) := by
              intro j hj hoj
              by_cases e : j = k
              · subst e; rw [hon] at hoj; cases hoj
              · exact HO.out j (by omega) hoj
            rw [hon] at con
            clear hon
            go_wp2_with fail
            refine con.mono ?_
            rintro e w' ⟨rfl, rfl⟩
            clear con
            go_wp2_with fail
            go_round
            case rel => exact ⟨k + 1, by omega, by go_num, HO'⟩
            case measure => simp [intOf]; omega
          | true =>
            cases hpk : m.prep k with
            | true =>
              have HO' : Hid (∀ j, j < k + 1 → onPart s.parts m.items j = true → m.prep j = true) := by
                intro j hj hoj
                by_cases e : j = k
                · subst e; exact hpk
                · exact HO.out j (by omega) hoj
              rw [hon] at con
              rw [hpk] at ck
              clear hon hpk
              go_wp2_with fail
              refine con.mono ?_
              rintro e w' ⟨rfl, rfl⟩
              clear con
              go_wp2_with fail
              go_round
              case rel => exact ⟨k + 1, by omega, by go_num, HO'⟩
              case measure => simp [intOf]; omega
            | false =>
              have Hr := H9.out (allPrep_false hlt hon hpk)
              have Hr' : Hid (mCommit s n q = (9, s)) := Hr
              rw [hon] at con
              rw [hpk] at ck
              clear hon hpk Hr
              go_wp2_with fail
              refine con.mono ?_
              rintro e w' ⟨rfl, rfl⟩
              clear con
              go_wp2_with fail
              go_ret
              rw [Hr'.out]
              exact ⟨rfl, h, Stp.refl _ _ _⟩
        · have ha : allPrep s.parts m = true := allPrep_true (fun j hj => HO.out j (by omega))
          cases hcq : m.comm q with
          | true =>
            have Hr : Hid (mCommit s n q = (10, s)) := H10.out ha hcq
            rw [hcq] at cq
            clear ha hcq
            go_wp2_with fail
            go_ret
            rw [Hr.out]
            exact ⟨rfl, h, Stp.refl _ _ _⟩
          | false =>
            have Hr := H0.out ha hcq
            have Hr' : Hid (mCommit s n q = _) := Hr
            rw [hcq] at cq
            clear ha hcq Hr
            go_wp2_with fail
            go_ret
            rw [Hr'.out]
            exact ⟨rfl, hR, (Stp.refl _ _ _).setCell (by rw [h.wrTag i (lt_of_some hm)]) _⟩

end
end Go.Proofs.YteoahlieielcdaaGreat

/-
  The document's answer: Part, Cancel, New.
-/
namespace Go.Proofs.YteoahlieielcdaaGreat
open Go Go.RowKit

section
variable {w : World} {τ : Nat → Tag} {sid b : Nat} {s : MS} {A : RA}

def noComm (m : MW) : Bool := m.comm 0 || m.comm 1 || m.comm 2 || m.comm 3
theorem comm_some {m : MW} {k : Nat} (hk : k < 4) (h : m.comm k = true) : (m.comm 0 || m.comm 1 || m.comm 2 || m.comm 3) = true := by
  match k, hk with
  | 0, _ => simp [h]
  | 1, _ => simp [h]
  | 2, _ => simp [h]
  | 3, _ => simp [h]
theorem comm_none {m : MW} (h : ∀ j, j < 4 → m.comm j = false) : (m.comm 0 || m.comm 1 || m.comm 2 || m.comm 3) = false := by
  simp [h 0, h 1, h 2, h 3]

set_option maxRecDepth 100000 in
set_option maxHeartbeats 800000 in
theorem rCancel (h : RepR w τ sid b s A) (n : Int) (hn : -9223372036854775808 ≤ n) (hn' : n ≤ 9223372036854775807) :
    Calls Tryz.prog 62 #[ptr b, .int .i64 n] w (RPost w τ sid b A (mCancel s n)) := by
  cases hf : mFind s n with
  | none =>
    have Hr : Hid (mCancel s n = (7, s)) := by unfold Hid mCancel; rw [hf]
    have c := rwrite_none h n hn hn' hf
    unfold ptr at c ⊢
    clear hf
    go_enter Tryz.func62, Tryz.ntmps62
    go_wp2_with fail
    refine c.mono ?_
    rintro e w' ⟨rfl, rfl⟩
    go_wp2_with fail
    go_ret
    rw [Hr.out]
    exact ⟨rfl, h, Stp.refl _ _ _⟩
  | some m =>
    obtain ⟨h1, h2, hm, hc⟩ := mFind_some hf
    have c := rwrite_some h n m hf
    generalize hi : (n - 1).toNat = i at *
    have f9 := (h.wr i m hm).frozen 9
    have c9 := h.cCanc hm
    have hR := h.canc hm
    have H9 : Hid ((m.comm 0 || m.comm 1 || m.comm 2 || m.comm 3) = true → mCancel s n = (9, s)) := by intro ha; unfold mCancel; rw [hf]; simp only [ha, if_true]
    have H0 : Hid ((m.comm 0 || m.comm 1 || m.comm 2 || m.comm 3) = false → mCancel s n = (0, { s with ws := s.ws.set i { m with canc := true } })) := by
      intro ha; unfold mCancel; rw [hf]; simp only [ha]; simp [setW, hi]
    unfold ptr at c ⊢
    clear hf
    go_enter Tryz.func62, Tryz.ntmps62
    go_wp2_with fail
    refine c.mono ?_
    rintro e w' ⟨rfl, rfl⟩
    clear c
    go_wp2_with fail
    go_loop [6] (fun u => ∃ k : Nat, k ≤ 4 ∧ u = .int .i64 k ∧ Hid (∀ j, j < k → m.comm j = false)) (fun u => 4 - (intOf u).toNat)
    case atStart => exact ⟨0, Nat.zero_le _, rfl, fun j hj => by omega⟩
    case round =>
      obtain ⟨k, hk, rfl, HO⟩ := hrel
      by_cases hlt : k < 4
      · have ck := h.cComm hm (q := k) (by omega)
        cases hck : m.comm k with
        | true =>
          have Hr : Hid (mCancel s n = (9, s)) := H9.out (comm_some hlt hck)
          rw [hck] at ck
          clear hck
          go_wp2_with fail
          go_ret
          rw [Hr.out]
          exact ⟨rfl, h, Stp.refl _ _ _⟩
        | false =>
          have HO' : Hid (∀ j, j < k + 1 → m.comm j = false) := by
            intro j hj
            by_cases e : j = k
            · subst e; exact hck
            · exact HO.out j (by omega)
          rw [hck] at ck
          clear hck
          go_wp2_with fail
          go_round
          case rel => exact ⟨k + 1, by omega, by go_num, HO'⟩
          case measure => simp [intOf]; omega
      · have Hr := H0.out (comm_none (fun j hj => HO.out j (by omega)))
        have Hr' : Hid (mCancel s n = _) := Hr
        clear Hr
        go_wp2_with fail
        go_ret
        rw [Hr'.out]
        exact ⟨rfl, hR, (Stp.refl _ _ _).setCell (by rw [h.wrTag i (lt_of_some hm)]) _⟩

/-- Part: its answer -/
def mPart (n : Int) (k : ByteArray) : Int × Int := if goodKey k then (partOf n k, 0) else (0, 4)
theorem ret_two {k k' : IntKind} {a b c d : Int} (h : (a, b) = (c, d)) : Ending.returned (.tuple #[.int k a, .int k' b]) = .returned (.tuple #[.int k c, .int k' d]) := by cases h; rfl
theorem goodKey_size {x : ByteArray} (h : goodKey x = true) : 1 ≤ x.size ∧ x.size ≤ 8 := by simpa [goodKey] using h

set_option maxHeartbeats 400000 in
theorem rPart (h : RepR w τ sid b s A) (k : ByteArray) (hk : k.size ≤ maxLen) :
    Calls Tryz.prog 58 #[ptr b, .string k] w fun e w' => e = .returned (.tuple #[.int .i64 (mPart s.parts k).1, .int .i64 (mPart s.parts k).2]) ∧ w' = w := by
  have c := good_any k w hk
  have hp4 := h.ok.p4
  have hp1 := h.ok.p1
  unfold ptr
  cases hg : goodKey k with
  | true =>
    have := goodKey_size hg
    have Hr : Hid (mPart s.parts k = (partOf s.parts k, 0)) := by unfold Hid mPart; rw [hg]; rfl
    have cp := part_any b s.parts k w (by omega) (by omega) (by omega) h.cParts
    rw [hg] at c
    clear hg
    go_enter Tryz.func58, Tryz.ntmps58
    go_wp2_with fail
    refine c.mono ?_
    rintro e w' ⟨rfl, rfl⟩
    go_wp2_with fail
    refine cp.mono ?_
    rintro e w' ⟨rfl, rfl⟩
    go_wp2_with fail
    go_ret2
    exact ⟨ret_two Hr.out.symm, rfl⟩
  | false =>
    have Hr : Hid (mPart s.parts k = (0, 4)) := by unfold Hid mPart; rw [hg]; rfl
    rw [hg] at c
    clear hg
    go_enter Tryz.func58, Tryz.ntmps58
    go_wp2_with fail
    refine c.mono ?_
    rintro e w' ⟨rfl, rfl⟩
    go_wp2_with fail
    go_ret2
    exact ⟨ret_two Hr.out.symm, rfl⟩

/-- New's error -/
def newErr (parts mode : Int) : Int := if parts < 1 ∨ 4 < parts then 1 else if mode < 1 ∨ 3 < mode then 2 else 0
def emptyRA : RA := { arr := .slice none 0 0, rv := .slice none 0 0, wb := fun _ => 0, iv := fun _ => .slice none 0 0, B := { rb := fun _ => 0, kv := fun _ => .slice none 0 0, av := fun _ => .slice none 0 0, fv := fun _ => .slice none 0 0 } }
def emptyMS (parts mode : Int) : MS := { parts := parts.toNat, mode := mode, ws := [], rs := [] }
def newCells (parts mode : Int) : Obj := .cells #[.int .i64 parts, .int .i64 mode, .slice none 0 0, .slice none 0 0] 188

set_option maxHeartbeats 400000 in
theorem rNew_bad (parts mode : Int) (w : World) (h : newErr parts mode ≠ 0) :
    Calls Tryz.prog 93 #[.int .i64 parts, .int .i64 mode] w fun e w' => e = .returned (.tuple #[.pointer none, .int .i64 (newErr parts mode)]) ∧ w' = w := by
  by_cases h1 : parts < 1
  · have hr : newErr parts mode = 1 := by unfold newErr; rw [if_pos (by omega)]
    rw [hr]; clear hr h
    go_enter Tryz.func93, Tryz.ntmps93
    go_wp2
    go_ret2
    exact ⟨rfl, rfl⟩
  · by_cases h2 : 4 < parts
    · have hr : newErr parts mode = 1 := by unfold newErr; rw [if_pos (by omega)]
      rw [hr]; clear hr h
      go_enter Tryz.func93, Tryz.ntmps93
      go_wp2
      go_ret2
      exact ⟨rfl, rfl⟩
    · have hp : ¬ (parts < 1 ∨ 4 < parts) := by omega
      by_cases h3 : mode < 1
      · have hr : newErr parts mode = 2 := by unfold newErr; rw [if_neg hp, if_pos (by omega)]
        rw [hr]; clear hr h hp
        go_enter Tryz.func93, Tryz.ntmps93
        go_wp2
        go_ret2
        exact ⟨rfl, rfl⟩
      · have h4 : 3 < mode := by
          apply Classical.byContradiction
          intro h4
          exact h (by unfold newErr; rw [if_neg hp, if_neg (by omega)])
        have hr : newErr parts mode = 2 := by unfold newErr; rw [if_neg hp, if_pos (by omega)]
        rw [hr]; clear hr h hp
        go_enter Tryz.func93, Tryz.ntmps93
        go_wp2
        go_ret2
        exact ⟨rfl, rfl⟩

theorem newErr_ok {parts mode : Int} (h : newErr parts mode = 0) : 1 ≤ parts ∧ parts ≤ 4 ∧ 1 ≤ mode ∧ mode ≤ 3 := by
  unfold newErr at h
  split at h
  · cases h
  · split at h
    · cases h
    · omega

set_option maxHeartbeats 400000 in
theorem rNew_good (parts mode : Int) (w : World) (h : newErr parts mode = 0) :
    Calls Tryz.prog 93 #[.int .i64 parts, .int .i64 mode] w fun e w' => e = .returned (.tuple #[ptr w.heap.size, .int .i64 0]) ∧ w' = w.alloc (newCells parts mode) := by
  obtain ⟨h1, h2, h3, h4⟩ := newErr_ok h
  clear h
  have g1 : ¬ parts < 1 := by omega
  have g2 : ¬ 4 < parts := by omega
  have g3 : ¬ mode < 1 := by omega
  have g4 : ¬ 3 < mode := by omega
  unfold ptr
  go_enter Tryz.func93, Tryz.ntmps93
  go_wp2
  go_ret2
  exact ⟨rfl, rfl⟩

/-- a store that was just made -/
theorem RepR.made {parts mode : Int} (h : newErr parts mode = 0) (w : World) (τ : Nat → Tag) (sid : Nat) :
    RepR (w.alloc (newCells parts mode)) (fun k => if k = w.heap.size then (sid, 0, 0) else τ k) sid w.heap.size (emptyMS parts mode) emptyRA := by
  obtain ⟨h1, h2, h3, h4⟩ := newErr_ok h
  refine ⟨⟨?_, ?_, by simp [emptyMS], ?_, fun i r hi => by simp [emptyMS] at hi, by simp [emptyMS, openReads]⟩, ?_, by simp, World.ownsRow_nil _ _ _ _, ?_, ?_, ?_, ?_, ?_, ?_⟩
  · show 1 ≤ parts.toNat; omega
  · show parts.toNat ≤ 4; omega
  · intro i m hi; simp [emptyMS] at hi
  · have e : ((emptyMS parts mode).parts : Int) = parts := by show ((parts.toNat : Nat) : Int) = parts; omega
    rw [e]
    exact Blk.new w _ _
  · intro k hk; simp [emptyRA, Value.ownBlock] at hk
  · intro i m hi; simp [emptyMS] at hi
  · intro i hi; simp [emptyMS] at hi
  · intro i m hi; simp [emptyMS] at hi
  · intro i k hi; simp [emptyMS] at hi
  · exact ⟨World.ownsRow_nil _ _ _ _, fun k hk => by simp [emptyRA, Value.ownBlock] at hk, fun i r hi => by simp [emptyMS] at hi, fun i hi => by simp [emptyMS] at hi, fun i r hi => by simp [emptyMS] at hi, fun i k hi => by simp [emptyMS] at hi, fun i r hi => by simp [emptyMS] at hi, fun i k hi => by simp [emptyMS] at hi, fun i r hi => by simp [emptyMS] at hi, fun i k hi => by simp [emptyMS] at hi⟩

end
end Go.Proofs.YteoahlieielcdaaGreat
