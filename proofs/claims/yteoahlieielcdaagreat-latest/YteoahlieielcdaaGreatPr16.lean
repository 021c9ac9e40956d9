/-
  The program: a store that has a write more.
-/
import Derived.Test.YteoahlieielcdaaGreatPr15
namespace Go.Proofs.YteoahlieielcdaaGreat
open Go Go.RowKit Go.MuLone
open Go.Maps (Keyed)

/-- where the parts of a store lie behind a new write -/
def pushSA (A : SA) (n pw sm : Nat) (sh : Nat → Nat) (iv : Nat → Value) (sv : Value) : SA :=
  { A with pw := fun j => if j = n then pw else A.pw j, sm := fun j => if j = n then sm else A.sm j, sh := fun j q => if j = n then sh q else A.sh j q, iv := fun j q => if j = n then iv q else A.iv j q, sv := fun j => if j = n then sv else A.sv j }
/-- the store with a write more -/
def pushMS (s : MS) (L : List KV) : MS := { s with ws := s.ws ++ [newMW L] }

section
variable {w : World} {τ : Nat → Tag} {sid b : Nat} {s : MS} {A : SA} {L : List KV}

theorem push_get {i : Nat} {m : MW} (hm : (pushMS s L).ws[i]? = some m) : (i < s.ws.length ∧ s.ws[i]? = some m) ∨ (i = s.ws.length ∧ m = newMW L) := by
  unfold pushMS at hm
  by_cases e : i < s.ws.length
  · simp only [List.getElem?_append_left e] at hm; exact Or.inl ⟨e, hm⟩
  · simp only [List.getElem?_append_right (Nat.le_of_not_lt e)] at hm
    have hi' := lt_of_some hm
    simp at hi'
    have : i = s.ws.length := by omega
    subst this
    simp at hm
    exact Or.inr ⟨rfl, hm.symm⟩
theorem mFind_push_old {n : Int} (hn : n ≠ (s.ws.length : Int) + 1) : mFind (pushMS s L) n = mFind s n := by
  unfold mFind pushMS
  simp only [List.length_append, List.length_singleton]
  by_cases h1 : n < 1 ∨ (s.ws.length : Int) < n
  · rw [if_pos h1, if_pos (by omega)]
  · rw [if_neg h1, if_neg (by omega), List.getElem?_append_left (by omega)]
theorem mFind_push_new : mFind (pushMS s L) ((s.ws.length : Int) + 1) = some (newMW L) :=
  mFind_of (i := s.ws.length) (by simp [pushMS]) rfl
theorem writesF_push {pw sm : Nat} {sh : Nat → Nat} {iv : Nat → Value} {sv : Value} : writesF (pushMS s L) (pushSA A s.ws.length pw sm sh iv sv) = upd (writesF s A) (.int .i64 ((s.ws.length : Int) + 1)) (ptr pw) := by
  funext kl
  by_cases e : kl = .int .i64 ((s.ws.length : Int) + 1)
  · subst e
    rw [upd_same (by trivial)]
    simp only [writesF, mFind_push_new]
    rw [show ((s.ws.length : Int) + 1 - 1).toNat = s.ws.length from by omega]
    simp [pushSA]
  · rw [upd_other e]
    cases kl with
    | int k n =>
      cases k <;> try rfl
      have hn : n ≠ (s.ws.length : Int) + 1 := fun e' => e (by rw [e'])
      simp only [writesF, mFind_push_old hn]
      cases hf : mFind s n with
      | none => rfl
      | some m =>
        obtain ⟨h1, h2, _⟩ := mFind_some' hf
        have : (n - 1).toNat ≠ s.ws.length := by omega
        simp only [pushSA, if_neg this]
    | _ => rfl
theorem keptF_push {pw sm : Nat} {sh : Nat → Nat} {iv : Nat → Value} {sv : Value} (q : Nat) : keptF (pushMS s L) (pushSA A s.ws.length pw sm sh iv sv) q = keptF s A q := by
  funext kl
  cases kl with
  | int k n =>
    cases k <;> try rfl
    by_cases hn : n = (s.ws.length : Int) + 1
    · subst hn
      have : mFind s ((s.ws.length : Int) + 1) = none := by unfold mFind; rw [if_pos (by omega)]
      simp only [keptF, mFind_push_new, this, newMW]
      rfl
    · simp only [keptF, mFind_push_old hn]
      cases hf : mFind s n with
      | none => rfl
      | some m =>
        obtain ⟨h1, h2, _⟩ := mFind_some' hf
        have : (n - 1).toNat ≠ s.ws.length := by omega
        simp only [pushSA, if_neg this]
  | _ => rfl

theorem RepS.push (h : RepS w τ sid b s A) (hl8 : L.length ≤ 8) (hlg : ∀ x ∈ L, goodKV x = true) (hlen : s.ws.length < 200) {w' : World} {τ' : Nat → Tag} {pw sm : Nat} {sh : Nat → Nat} {iv : Nat → Value} {sv : Value}
    {kv : Value} {K : List ByteArray} (hsv1 : IsIf sv) (hp : PartW w' τ' sid s.ws.length s.parts A.pb pw sm sh iv sv kv K L w.heap.size) (ht : ∀ k, k < w.heap.size → τ' k = τ k)
    (hold : ∀ k, k < w.heap.size → k ≠ b → k ≠ A.wm → w'.heap[k]? = w.heap[k]?)
    (hb : Blk w' b #[.int .i64 s.mode, A.parr, mu0, sem0, .int .i64 ((s.ws.length : Int) + 1), .int .i64 s.rs.length, .map (some A.wm), .map (some A.R.rm)] 105)
    (hw : MapF w' Tryz.prog 3 A.wm (upd (writesF s A) (.int .i64 ((s.ws.length : Int) + 1)) (ptr pw))) :
    RepS w' τ' sid b (pushMS s L) (pushSA A s.ws.length pw sm sh iv sv) := by
  have hne : ∀ {k a c : Nat}, τ k = (sid, a, c) → a ≠ 0 → a ≠ 5 → k < w.heap.size → w'.heap[k]? = w.heap[k]? := by
    intro k a c htk h0 h5 hk
    refine hold k hk (fun e => ?_) (fun e => ?_)
    · rw [e, h.tag] at htk; simp at htk; omega
    · rw [e, h.wmTag] at htk; simp at htk; omega
  have hprep : ∀ q, (newMW L).prep q = false := fun _ => rfl
  refine ⟨⟨h.ok.p1, h.ok.p4, by simp [pushMS]; omega, fun j mj hj => ?_, h.ok.keys, h.ok.opn⟩, ⟨fun j mj q hj hcm => ?_, fun j mj q hj hpm => ?_, fun j mj q hj hcm => ?_⟩, ?_, ?_, by rw [ht b h.blk.lt, h.tag], ?_, fun k hk => ?_, fun q hq => ?_, fun q hq => ?_, fun q hq => ?_, fun q hq => ?_, fun q hq => ?_, fun q hq => ?_, fun q hq => ?_, ?_, ?_, fun j mj hj hcj => ?_, fun j mj hj hcj => ?_, fun j mj hj hcj => ?_, fun j mj hj hcj => ?_, fun j mj q hj hcj ho => ?_, fun j mj q hj hcj ho => ?_, fun j mj q hj hcj ho => ?_, fun j mj q k hj hcj ho hk => ?_, h.reads.frame (fun k hk h1 h10 => ⟨hne (a := (τ k).2.1) (c := (τ k).2.2) (by rw [← h1]) (by omega) (by omega) hk, ht k hk⟩)⟩
  · rcases push_get hj with ⟨_, e⟩ | ⟨_, rfl⟩
    · exact h.ok.items j mj e
    · exact ⟨hl8, hlg⟩
  · rcases push_get hj with ⟨_, e⟩ | ⟨_, rfl⟩
    · exact h.inv.cp j mj q e hcm
    · cases hcm
  · rcases push_get hj with ⟨_, e⟩ | ⟨_, rfl⟩
    · exact h.inv.po j mj q e hpm
    · cases hpm
  · rcases push_get hj with ⟨_, e⟩ | ⟨_, rfl⟩
    · exact h.inv.cc j mj q e hcm
    · rfl
  · refine h.told.ws rfl rfl rfl rfl (fun j mj hj => by
      rcases push_get hj with ⟨hjl, e⟩ | ⟨rfl, rfl⟩
      · have : j ≠ s.ws.length := by omega
        simp only [pushSA, this, if_false]
        exact h.told.sv j mj e
      · simpa [pushSA] using hsv1) (fun j mj hj => ?_)
    have hjl := lt_of_some hj
    have : j ≠ s.ws.length := by omega
    refine ⟨mj, ?_, rfl, fun _ hq => hq, by simp [pushSA, this]⟩
    simp only [pushMS]
    rw [List.getElem?_append_left hjl]; exact hj
  · have e : ((pushMS s L).ws.length : Int) = (s.ws.length : Int) + 1 := by simp [pushMS]
    rw [e]; exact hb
  · exact row_of_block h.parr (fun k hk => hne (h.parrTag k hk) (by omega) (by omega) (row_ge h.parr k hk).2)
  · rw [ht k (row_ge h.parr k hk).2, h.parrTag k hk]
  · exact (h.part q hq).of_eq (hne (h.partTag q hq) (by omega) (by omega) (h.part q hq).lt)
  · show τ' (A.pb q) = _
    rw [ht _ (h.part q hq).lt, h.partTag q hq]
  · rw [keptF_push]
    exact (h.kept q hq).of_eq (hne (h.keptTag q hq) (by omega) (by omega) (h.kept q hq).lt)
  · show τ' (A.kb q) = _
    rw [ht _ (h.kept q hq).lt, h.keptTag q hq]
  · exact (h.vism q hq).of_eq (hne (h.visTag q hq) (by omega) (by omega) (h.vism q hq).lt)
  · show τ' (A.vb q) = _
    rw [ht _ (h.vism q hq).lt, h.visTag q hq]
  · refine visOk_comm (h.visOk q hq) rfl (fun j mj hj hcj => ⟨mj, ?_, hcj, rfl⟩) (fun j mj hj hcj => ?_)
    · simp only [pushMS]
      rw [List.getElem?_append_left (lt_of_some hj)]; exact hj
    · rcases push_get hj with ⟨_, e⟩ | ⟨_, rfl⟩
      · exact ⟨mj, e, hcj, rfl⟩
      · cases hcj
  · rw [writesF_push]; exact hw
  · show τ' A.wm = _
    rw [ht _ h.wmap.lt, h.wmTag]
  · rcases push_get hj with ⟨hjl, e⟩ | ⟨rfl, rfl⟩
    · have hb' := h.wr j mj e hcj
      have : j ≠ s.ws.length := by omega
      simp only [pushSA, this, if_false]
      exact hb'.of_eq (hne (h.wrTag j mj e hcj) (by omega) (by omega) hb'.lt)
    · simpa [pushSA] using hp.blk
  · rcases push_get hj with ⟨hjl, e⟩ | ⟨rfl, rfl⟩
    · have hb' := h.wr j mj e hcj
      have : j ≠ s.ws.length := by omega
      simp only [pushSA, this, if_false]
      rw [ht _ hb'.lt, h.wrTag j mj e hcj]
    · simpa [pushSA] using hp.tag
  · rcases push_get hj with ⟨hjl, e⟩ | ⟨rfl, rfl⟩
    · have hb' := h.shm j mj e hcj
      have hjn : j ≠ s.ws.length := by omega
      have e1 : sharesF (pushMS s L) (pushSA A s.ws.length pw sm sh iv sv) j mj = sharesF s A j mj := by
        funext kl
        cases kl with
        | int k n => cases k <;> first | rfl | (simp only [sharesF, pushSA, hjn, if_false]; rfl)
        | _ => rfl
      rw [e1]
      simp only [pushSA, hjn, if_false]
      exact hb'.of_eq (hne (h.shmTag j mj e hcj) (by omega) (by omega) hb'.lt)
    · have e1 : sharesF (pushMS s L) (pushSA A s.ws.length pw sm sh iv sv) s.ws.length (newMW L) = shF s.parts sh L := by
        funext kl
        cases kl with
        | int k n => cases k <;> first | rfl | (simp only [sharesF, pushSA, if_true]; rfl)
        | _ => rfl
      rw [e1]
      simpa [pushSA] using hp.map
  · rcases push_get hj with ⟨hjl, e⟩ | ⟨rfl, rfl⟩
    · have hb' := h.shm j mj e hcj
      have : j ≠ s.ws.length := by omega
      simp only [pushSA, this, if_false]
      rw [ht _ hb'.lt, h.shmTag j mj e hcj]
    · simpa [pushSA] using hp.mapTag
  · rcases push_get hj with ⟨hjl, e⟩ | ⟨rfl, rfl⟩
    · have hb' := h.sh j mj q e hcj ho
      have : j ≠ s.ws.length := by omega
      simp only [pushSA, this, if_false]
      exact hb'.of_eq (hne (h.shTag j mj q e hcj ho) (by omega) (by omega) hb'.lt)
    · have := hp.shB q ho
      simpa [pushSA, stageOf, newMW] using this
  · rcases push_get hj with ⟨hjl, e⟩ | ⟨rfl, rfl⟩
    · have hb' := h.sh j mj q e hcj ho
      have : j ≠ s.ws.length := by omega
      simp only [pushSA, this, if_false]
      rw [ht _ hb'.lt, h.shTag j mj q e hcj ho]
    · have := hp.shTag q ho
      simpa [pushSA] using this
  · rcases push_get hj with ⟨hjl, e⟩ | ⟨rfl, rfl⟩
    · have hr := h.it j mj q e hcj ho
      have : j ≠ s.ws.length := by omega
      simp only [pushSA, this, if_false]
      exact row_of_block hr (fun k hk => hne (h.itTag j mj q k e hcj ho hk) (by omega) (by omega) (row_ge hr k hk).2)
    · have := hp.it q ho
      simpa [pushSA, newMW, pushMS] using this
  · rcases push_get hj with ⟨hjl, e⟩ | ⟨rfl, rfl⟩
    · have hr := h.it j mj q e hcj ho
      have hjn : j ≠ s.ws.length := by omega
      simp only [pushSA, hjn, if_false] at hk
      rw [ht _ (row_ge hr k hk).2, h.itTag j mj q k e hcj ho hk]
    · simp only [pushSA, if_true] at hk
      exact hp.itTag q k ho hk

end
end Go.Proofs.YteoahlieielcdaaGreat
