/-
  The program: Finish: refused; and where no key needs a second question.
-/
import Derived.Test.YteoahlieielcdaaGreatPrF3
namespace Go.Proofs.YteoahlieielcdaaGreat
open Go Go.RowKit Go.MuLone
open Go.Maps (Keyed)

/-- the store with read i finished -/
def finAt (s : MS) (i : Nat) (r : MR) : MS := { s with rs := s.rs.set i { r with fin := true } }

theorem openReads_fin {rs : List MR} {i : Nat} {r : MR} (hr : rs[i]? = some r) (hf : r.fin = false) : openReads (rs.set i { r with fin := true }) + 1 = openReads rs := by
  unfold openReads
  induction rs generalizing i with
  | nil => simp at hr
  | cons a l ih =>
    cases i with
    | zero =>
      simp at hr; subst hr
      simp [hf]
    | succ i =>
      have := ih (by simpa using hr)
      simp only [List.set_cons_succ, List.countP_cons]
      omega

theorem findR_fin {rs : List MR} {i : Nat} {r : MR} (hr : rs[i]? = some r) (n : Int) : findR (rs.set i { r with fin := true }) n = if n = (i : Int) + 1 then none else findR rs n := by
  have hi := lt_of_some hr
  unfold findR
  simp only [List.length_set]
  by_cases e : n = (i : Int) + 1
  · subst e
    rw [if_pos rfl, if_neg (by omega), show ((i : Int) + 1 - 1).toNat = i from by omega]
    simp [hi]
  · rw [if_neg e]
    split
    · rfl
    · rw [List.getElem?_set_ne (by omega)]
theorem readsF_fin {rs : List MR} {i : Nat} {r : MR} {B : SB} (hr : rs[i]? = some r) : readsF (rs.set i { r with fin := true }) B = del (readsF rs B) (.int .i64 ((i : Int) + 1)) := by
  funext kl
  by_cases e : kl = .int .i64 ((i : Int) + 1)
  · subst e
    rw [del_same (by trivial)]
    simp [readsF, findR_fin hr]
  · rw [del_other e]
    cases kl with
    | int k n =>
      cases k <;> try rfl
      have hn : n ≠ (i : Int) + 1 := fun e' => e (by rw [e'])
      simp only [readsF, findR_fin hr, if_neg hn]
    | _ => rfl

section
variable {w : World} {τ : Nat → Tag} {sid b : Nat} {s : MS} {A : SA}

/-- A READ IS FINISHED: it is out of the map; all else is as it was. -/
theorem RepS.fin (h : RepS w τ sid b s A) {i : Nat} {r : MR} (hr : s.rs[i]? = some r) (hfin : r.fin = false) {w' : World} (hne : ∀ k, k ≠ A.R.rm → w'.heap[k]? = w.heap[k]?)
    (hM : MapF w' Tryz.prog 3 A.R.rm (del (readsF s.rs A.R) (.int .i64 ((i : Int) + 1)))) : RepS w' τ sid b (finAt s i r) A := by
  have hi := lt_of_some hr
  have hget : ∀ {q : Nat} {rq : MR}, (s.rs.set i { r with fin := true })[q]? = some rq → rq.fin = false → q ≠ i ∧ s.rs[q]? = some rq := by
    intro q rq hq hf
    rcases set_some hq with ⟨rfl, rfl⟩ | ⟨e, hq⟩
    · cases hf
    · exact ⟨fun e' => e e'.symm, hq⟩
  have hne' : ∀ {k g g' : Nat}, τ k = (sid, g, g') → g ≠ 10 → w'.heap[k]? = w.heap[k]? := fun ht hg => hne _ (fun e => by rw [e, h.reads.rmTag] at ht; simp at ht; omega)
  have := h.frameR (w' := w') (τ' := τ) (rs' := s.rs.set i { r with fin := true }) (B' := A.R) (fun k hk h1 h2 h3 => ⟨hne _ (fun e => by rw [e, h.reads.rmTag] at h3; simp at h3), rfl⟩) h.tag
    ⟨h.ok.p1, h.ok.p4, h.ok.len, h.ok.items, fun q rq hq => ?_, ?_⟩ ⟨h.told.sv, fun q rq hq hf => ?_, fun q rq j hq ha => ?_, fun q rq j x hq hf hx => ?_, fun q rq j x hq hf hx hv => ?_, fun q rq j x hq hf hx hv => ?_, fun q rq j x hq hf hx hv => ?_⟩ ?_ ⟨?_, h.reads.rmTag, fun q rq hq hf => ?_, fun q rq hq hf => ?_, fun q rq hq hf => ?_, fun q rq hq hf => ?_, fun q rq j x hq hf hx => ?_, fun q rq j x hq hf hx => ?_, fun q rq hq hf => ?_, fun q rq k hq hf hk => ?_⟩
  · exact this
  · rcases set_some hq with ⟨rfl, rfl⟩ | ⟨_, hq⟩
    · exact h.ok.keys i r hr
    · exact h.ok.keys q rq hq
  · have := openReads_fin hr hfin
    have h50 := h.ok.opn
    show openReads (s.rs.set i { r with fin := true }) ≤ 50
    omega
  · exact h.told.no q rq (hget hq hf).2 hf
  · rcases set_some hq with ⟨rfl, rfl⟩ | ⟨_, hq⟩
    · exact h.told.un i r j hr ha
    · exact h.told.un q rq j hq ha
  · exact h.told.hv q rq j x (hget hq hf).2 hf hx
  · exact h.told.tv q rq j x (hget hq hf).2 hf hx hv
  · exact h.told.t0 q rq j x (hget hq hf).2 hf hx hv
  · exact h.told.fm q rq j x (hget hq hf).2 hf hx hv
  · simp only [List.length_set]
    exact h.blk.of_eq (hne' h.tag (by omega))
  · rw [readsF_fin hr]; exact hM
  · have h1 := (hget hq hf).2
    exact (h.reads.rd q rq h1 hf).of_eq (hne' (h.reads.rdTag q rq h1 hf) (by omega))
  · exact h.reads.rdTag q rq (hget hq hf).2 hf
  · have h1 := (hget hq hf).2
    exact (h.reads.qmap q rq h1 hf).of_eq (hne' (h.reads.qmTag q rq h1 hf) (by omega))
  · exact h.reads.qmTag q rq (hget hq hf).2 hf
  · have h1 := (hget hq hf).2
    exact (h.reads.q q rq j x h1 hf hx).of_eq (hne' (h.reads.qTag q rq j x h1 hf hx) (by omega))
  · exact h.reads.qTag q rq j x (hget hq hf).2 hf hx
  · have h1 := (hget hq hf).2
    exact row_of_block (h.reads.ky q rq h1 hf) (fun k hk => hne' (h.reads.kyTag q rq k h1 hf hk) (by omega))
  · exact h.reads.kyTag q rq k (hget hq hf).2 hf hk

set_option maxRecDepth 100000 in
set_option maxHeartbeats 2000000 in
/-- what a refused Finish leaves -/
theorem pFinish_none (h : RepS w τ sid b s A) (n : Int) (hn : -9223372036854775808 ≤ n) (hn' : n ≤ 9223372036854775807) (hf : mFindR s n = none) :
    Calls Tryz.prog 23 #[ptr b, .int .i64 n] w fun e w' => e = .returned (.tuple #[.slice none 0 0, .int .i64 0, .int .i64 7]) ∧ RepS w' τ sid b s A ∧ Stp sid τ w τ w' := by
  have c := findRead_any h n hn hn'
  have hv : findRVal s A n = (.pointer none, false) := by unfold findRVal; rw [hf]
  rw [hv] at c
  unfold ptr at c ⊢
  clear hf hv
  go_enter Tryz.func23, Tryz.ntmps23
  go_wp2_with fail
  refine c.mono ?_
  rintro e w1 ⟨rfl, hS⟩
  go_wp2_with fail
  go_ret3
  exact ⟨rfl, h.same hS, hS.stp _ _⟩

set_option maxRecDepth 100000 in
set_option maxHeartbeats 2000000 in
theorem pFinish_order (h : RepS w τ sid b s A) (n : Int) (hn : -9223372036854775808 ≤ n) (hn' : n ≤ 9223372036854775807) (r : MR) (hf : mFindR s n = some r) (ha : allAsked r = false) :
    Calls Tryz.prog 23 #[ptr b, .int .i64 n] w fun e w' => e = .returned (.tuple #[.slice none 0 0, .int .i64 0, .int .i64 9]) ∧ RepS w' τ sid b s A ∧ Stp sid τ w τ w' := by
  have c := findRead_any h n hn hn'
  obtain ⟨h1, h2, hr, hc⟩ := mFindR_some hf
  have hv : findRVal s A n = (ptr (A.R.pr (n - 1).toNat), true) := by unfold findRVal; rw [hf]
  rw [hv] at c
  have c2 : ∀ w1, Same w w1 → Calls Tryz.prog 42 #[ptr (A.R.pr (n - 1).toNat)] w1 fun e w' => e = .returned (.bool false) ∧ Below w1.heap.size w1 w' := fun w1 hS => by
    have := isAllAsked_any (h.same hS) hr hc
    rw [ha] at this; exact this
  generalize (n - 1).toNat = j at c c2
  unfold ptr at c c2 ⊢
  clear hf hv ha
  go_enter Tryz.func23, Tryz.ntmps23
  go_wp2_with fail
  refine c.mono ?_
  rintro e w1 ⟨rfl, hS⟩
  have c3 := c2 w1 hS
  clear c c2
  go_wp2_with fail
  refine c3.mono ?_
  rintro e w2 ⟨rfl, hB⟩
  clear c3
  go_wp2_with fail
  go_ret3
  exact ⟨rfl, (h.same hS).below hB, (hS.stp _ _).trans (stp_below hB)⟩

/-- what is told of a key -/
def ansVal (s : MS) (c : Nat) (x : ByteArray) : ByteArray := if c = 0 then ⟨#[]⟩ else ((s.ws[c - 1]?).bind (fun m => valueIn m.items x)).getD ⟨#[]⟩
def AnsOk (C : Array Value) (keys : List ByteArray) (c : Nat) (v : ByteArray → ByteArray) : Prop :=
  ∀ (j : Nat) (x : ByteArray), keys[j]? = some x → C[j * 3]? = some (.string x) ∧ C[j * 3 + 1]? = some (.int .i64 c) ∧ C[j * 3 + 2]? = some (.string (v x))

theorem value_size {l : List KV} {x v : ByteArray} (hg : ∀ y ∈ l, goodKV y = true) (h : valueIn l x = some v) : v.size ≤ 64 := by
  unfold valueIn at h
  obtain ⟨y, hy, rfl⟩ := Option.map_eq_some_iff.1 h
  exact (goodKV_size (hg y (List.mem_of_find?_eq_some hy))).2.2

set_option maxRecDepth 100000 in
set_option maxHeartbeats 2000000 in
/-- FINISH, WHERE ALL CANDIDATES ARE ONE, and it is none or was told whole. -/
theorem pFinish_lone (h : RepS w τ sid b s A) (n : Int) (hn : -9223372036854775808 ≤ n) (hn' : n ≤ 9223372036854775807) (r : MR) (hf : mFindR s n = some r) (ha : allAsked r = true) (c : Nat) (hall : ∀ (j : Nat) (x : ByteArray), r.keys[j]? = some x → r.found j = c) (hone : c = 0 ∨ ¬ (s.mode = 2 ∧ 1 < r.keys.length)) :
    Calls Tryz.prog 23 #[ptr b, .int .i64 n] w fun e w' => ∃ ab C, e = .returned (.tuple #[.slice (some ⟨ab, 0, none⟩) r.keys.length r.keys.length, .int .i64 0, .int .i64 0]) ∧ Blk w' ab C 62 ∧ C.size = r.keys.length * 3 ∧ AnsOk C r.keys c (ansVal s c) ∧ w.heap.size ≤ ab ∧ RepS w' τ sid b (finAt s (n - 1).toNat r) A ∧ Stp sid τ w τ w' := by
  have cfr := findRead_any h n hn hn'
  obtain ⟨h1, h2, hr, hc⟩ := mFindR_some hf
  have hv : findRVal s A n = (ptr (A.R.pr (n - 1).toNat), true) := by unfold findRVal; rw [hf]
  rw [hv] at cfr
  obtain ⟨i, hi⟩ : ∃ i : Nat, (n - 1).toNat = i := ⟨_, rfl⟩
  have hni : n = (i : Int) + 1 := by omega
  subst hni
  rw [hi] at hr cfr ⊢
  have c2 : ∀ w1, Same w w1 → Calls Tryz.prog 42 #[ptr (A.R.pr i)] w1 fun e w' => e = .returned (.bool true) ∧ Below w1.heap.size w1 w' := fun w1 hS => by
    have := isAllAsked_any (h.same hS) hr hc
    rw [ha] at this; exact this
  have hrn : readsF s.rs A.R (.int .i64 ((i : Int) + 1)) = some (ptr (A.R.pr i)) := by
    have h9 : findR s.rs ((i : Int) + 1) = some r := hf
    simp only [readsF, h9, hi]
  have hno := h.told.no i r hr hc
  have hok : ∀ (j : Nat) (x : ByteArray), r.keys[j]? = some x → c = 0 ∨ A.R.hv i j = true := fun j x hx => by
    by_cases e : c = 0
    · exact Or.inl e
    · refine Or.inr ?_
      rw [h.told.hv i r j x hr hc hx, hall j x hx, hno]
      rcases hone with e' | e'
      · exact absurd e' e
      · simp [e]
        by_cases e1 : s.mode = 2
        · exact Or.inr (by have : ¬ 1 < r.keys.length := fun h' => e' ⟨e1, h'⟩; omega)
        · exact Or.inl e1
  have hval : ∀ (j : Nat) (x : ByteArray), r.keys[j]? = some x → A.R.tv i j = ansVal s c x ∧ (A.R.tv i j).size ≤ 64 ∧ IsIf (A.R.ts i j) := fun j x hx => by
    by_cases e : c = 0
    · have hv0 : A.R.hv i j = false := by rw [h.told.hv i r j x hr hc hx, hall j x hx]; simp [e]
      obtain ⟨t1, t2⟩ := h.told.t0 i r j x hr hc hx hv0
      refine ⟨by rw [t1]; simp [ansVal, e], by rw [t1]; exact Nat.zero_le _, Or.inl t2⟩
    · have hv1 : A.R.hv i j = true := (hok j x hx).resolve_left e
      obtain ⟨m, hm, t1, t2⟩ := h.told.tv i r j x hr hc hx hv1
      rw [hall j x hx] at hm t2
      refine ⟨by simp [ansVal, e, hm, t1], value_size (h.ok.items _ m hm).2 t1, by rw [t2]; exact h.told.sv _ m hm⟩
  have c3 : ∀ w2 : World, RepS w2 τ sid b s A → Calls Tryz.prog 43 #[ptr b, .int .i64 ((i : Int) + 1)] w2 fun e w' => e = .returned (.bool true) ∧ RepS w' τ sid b (finAt s i r) A ∧ Stp sid τ w2 τ w' ∧ Seen w' A i r := fun w2 h2' => by
    have := forgetRead_any b A.R.rm _ _ h2'.blk rfl rfl h2'.reads.rmap ((i : Int) + 1) hn hn'
    rw [hrn] at this
    refine this.mono ?_
    rintro e w3 ⟨rfl, hM3, hB3⟩
    have hne : ∀ {k g g' : Nat}, τ k = (sid, g, g') → g ≠ 10 → w3.heap[k]? = w2.heap[k]? := fun ht hg => hB3.block _ (fun e => by rw [e, h2'.reads.rmTag] at ht; simp at ht; omega)
    obtain ⟨k1, k2, k3, k4⟩ := h2'.ok.keys i r hr
    refine ⟨rfl, h2'.fin hr hc hB3.block hM3, ⟨hB3.os, hB3.tape, hB3.output, Nat.le_of_eq hB3.size.symm, fun _ _ => rfl, fun k _ hk => hB3.block k (fun e => hk (by rw [e, h2'.reads.rmTag]))⟩, ⟨k4, k1, k2, fun x hx => (goodKey_size (k3 x hx)).2, ?_, ?_, fun j x hx => ⟨ptr (A.pb (partOf s.parts x).toNat), ?_⟩, ?_, fun j x hx => (hval j x hx).2.2⟩⟩
    · exact (h2'.reads.rd i r hr hc).of_eq (hne (h2'.reads.rdTag i r hr hc) (by omega))
    · exact (h2'.reads.qmap i r hr hc).of_eq (hne (h2'.reads.qmTag i r hr hc) (by omega))
    · exact (h2'.reads.q i r j x hr hc hx).of_eq (hne (h2'.reads.qTag i r j x hr hc hx) (by omega))
    · exact row_of_block (h2'.reads.ky i r hr hc) (fun k hk => hne (h2'.reads.kyTag i r k hr hc hk) (by omega))
  have c4 := fun (w3 : World) (h3 : Seen w3 A i r) => finish_lone h3 c hall hok (fun j x hx => (hval j x hx).2.1)
  have HV : Hid (∀ (C : Array Value), AnsIn C r.keys c (A.R.tv i) r.keys.length → AnsOk C r.keys c (ansVal s c)) := fun C hC j x hx => by
    obtain ⟨a1, a2, a3⟩ := hC j x (lt_of_some hx) hx
    rw [(hval j x hx).1] at a3
    exact ⟨a1, a2, a3⟩
  have H0 : Hid (RepS w τ sid b s A) := h
  unfold ptr at cfr c2 c3 c4 ⊢
  clear hf hv ha hall hone hrn hno hok hval h hi h1 h2
  have HN : ∃ m : Int, (i : Int) + 1 = m := ⟨_, rfl⟩
  obtain ⟨m, hm⟩ := HN
  rw [hm] at cfr c3 hn hn' ⊢
  clear hm
  go_enter Tryz.func23, Tryz.ntmps23
  go_wp2_with fail
  refine cfr.mono ?_
  rintro e w1 ⟨rfl, hS⟩
  have d2 := c2 w1 hS
  have HR1 : Hid (RepS w1 τ sid b s A) := H0.out.same hS
  clear cfr c2
  go_wp2_with fail
  refine d2.mono ?_
  rintro e w2 ⟨rfl, hB⟩
  have HR2 : Hid (RepS w2 τ sid b s A) := HR1.out.below hB
  have d3 := c3 w2 HR2.out
  clear d2 c3
  go_wp2_with fail
  refine d3.mono ?_
  rintro e w3 ⟨rfl, hR3, hT3, hS3⟩
  have d4 := c4 w3 hS3
  clear d3 c4
  go_wp2_with fail
  refine d4.mono ?_
  rintro e w4 ⟨C, rfl, hC, hCs, hA, hB4⟩
  have hR4 := hR3.below hB4
  have hT4 : Stp sid τ w τ w4 := ((hS.stp _ _).trans (stp_below hB)).trans (hT3.trans (stp_below hB4))
  have hsz : w.heap.size ≤ w3.heap.size := by
    have a1 := hB.size
    have a2 := hT3.size
    have a3 : w1.heap.size = w.heap.size := by rw [hS.heap]
    omega
  have HO := HV.out C hA
  clear d4 hA
  have HO' : Hid _ := HO
  clear HO
  go_wp2_with fail
  go_ret3
  exact ⟨w3.heap.size, C, rfl, hC, hCs, HO'.out, hsz, hR4, hT4⟩

end
end Go.Proofs.YteoahlieielcdaaGreat
