/-
  The program: Part, find, shareOn.
-/
import Derived.Test.YteoahlieielcdaaGreatPr1
namespace Go.Proofs.YteoahlieielcdaaGreat
open Go Go.RowKit Go.MuLone
open Go.Maps (Keyed)

theorem keyInt : Keyed Tryz.prog 3 := Maps.int_keyed Tryz.underlying3
theorem keyStr : Keyed Tryz.prog 9 := Maps.string_keyed Tryz.underlying9
theorem wf_int {n : Int} (h : -9223372036854775808 ≤ n) (h' : n ≤ 9223372036854775807) : (Lit.int .i64 n).wf = true := WalkArith.wf_i64 ⟨h, h'⟩
theorem keyOf_int {n : Int} (h : -9223372036854775808 ≤ n) (h' : n ≤ 9223372036854775807) : keyOf Tryz.prog 3 (.int .i64 n) = some (.int .i64 n) := Maps.keyOf_int_mk Tryz.underlying3 (wf_int h h')
theorem keyOf_str {s : ByteArray} (h : s.size ≤ maxLen) : keyOf Tryz.prog 9 (.string s) = some (.string s.data.toList) := WideMaps.keyOf_string_mk Tryz.underlying9 h
theorem zeroWPtr (w : World) : (zeroValue 118).run Tryz.prog w = .ok (.pointer none) w := by kernel_rfl
theorem zeroShPtr (w : World) : (zeroValue 168).run Tryz.prog w = .ok (.pointer none) w := by kernel_rfl
theorem zeroItems (w : World) : (zeroValue 214).run Tryz.prog w = .ok (.agg #[.slice none 0 0, .nilIface]) w := by kernel_rfl
theorem fldItems (x y : Value) (w : World) : (Instr.field 214 (.agg #[x, y]) 0).run Tryz.prog w = .ok x w := by kernel_rfl
theorem fldSib (x y : Value) (w : World) : (Instr.field 214 (.agg #[x, y]) 1).run Tryz.prog w = .ok y w := by kernel_rfl
theorem zeroInt (w : World) : (zeroValue 3).run Tryz.prog w = .ok (.int .i64 0) w := by kernel_rfl

section
variable {w : World} {τ : Nat → Tag} {sid b : Nat} {s : MS} {A : SA}

theorem RepS.cParr (h : RepS w τ sid b s A) : ∃ a cap, A.parr = .slice a s.parts cap ∧ w.cell? ⟨b, 1, none⟩ = some (.slice a s.parts cap) := by
  obtain ⟨a, cap, hv⟩ := row_len h.parr
  exact ⟨a, cap, hv, by rw [← hv]; exact h.blk.cell (o := 1) rfl⟩

set_option maxHeartbeats 400000 in
theorem pPart (h : RepS w τ sid b s A) (k : ByteArray) (hk : k.size ≤ maxLen) :
    Calls Tryz.prog 27 #[ptr b, .string k] w fun e w' => e = .returned (.tuple #[.int .i64 (if goodKey k then partOf s.parts k else 0), .int .i64 (if goodKey k then 0 else 4)]) ∧ Below w.heap.size w w' := by
  have c := isKey_any k w hk
  have hp4 := h.ok.p4
  have hp1 := h.ok.p1
  unfold ptr
  cases hg : goodKey k with
  | true =>
    have hsz : 1 ≤ k.size ∧ k.size ≤ 8 := by simpa [goodKey] using hg
    obtain ⟨a, cap, _, cP⟩ := h.cParr
    have cp := partOf_any b s.parts a cap k w (by omega) (by omega) (by omega) cP
    unfold ptr at cp
    rw [hg] at c
    clear hg
    go_enter Tryz.func27, Tryz.ntmps27
    go_wp2_with fail
    refine c.mono ?_
    rintro e w' ⟨rfl, rfl⟩
    go_wp2_with fail
    refine cp.mono ?_
    rintro e w' ⟨rfl, hB⟩
    go_wp2_with fail
    go_ret2
    exact ⟨rfl, hB⟩
  | false =>
    rw [hg] at c
    clear hg
    go_enter Tryz.func27, Tryz.ntmps27
    go_wp2_with fail
    refine c.mono ?_
    rintro e w' ⟨rfl, rfl⟩
    go_wp2_with fail
    go_ret2
    exact ⟨rfl, Below.refl _ _⟩

/-- what find answers -/
def findVal (s : MS) (A : SA) (n : Int) : Value × Bool := match mFind s n with
  | some _ => (ptr (A.pw (n - 1).toNat), true)
  | none => (.pointer none, false)

set_option maxRecDepth 100000 in
set_option maxHeartbeats 800000 in
theorem find_any (h : RepS w τ sid b s A) (n : Int) (hn : -9223372036854775808 ≤ n) (hn' : n ≤ 9223372036854775807) :
    Calls Tryz.prog 51 #[ptr b, .int .i64 n] w fun e w' => e = .returned (.tuple #[(findVal s A n).1, .bool (findVal s A n).2]) ∧ Same w w' := by
  have c2 : w.cell? ⟨b, 2, none⟩ = some (.int .i32 0) := h.blk.cell (o := 2) rfl
  have c5 : w.cell? ⟨b, 6, none⟩ = some (.map (some A.wm)) := h.blk.cell (o := 6) rfl
  have f2 := h.blk.frozen 2
  have hM : ∀ v, MapF (w.setCell ⟨b, 2, none⟩ v) Tryz.prog 3 A.wm (writesF s A) := fun v => h.wmap.of_eq (Below.heap_setCell _ _ _ _ (fun e => by have := h.wmTag; rw [e, h.tag] at this; simp at this))
  have hSame := lock_round h.blk (o := 2) rfl (.int .i32 1)
  unfold mu0 at hSame
  obtain ⟨fv, hfv, hval⟩ : ∃ fv, writesF s A (.int .i64 n) = fv ∧ (findVal s A n).1 = fv.getD (.pointer none) ∧ (findVal s A n).2 = fv.isSome := by
    refine ⟨_, rfl, ?_⟩
    unfold writesF findVal
    cases hf : mFind s n <;> simp only [hf] <;> exact ⟨rfl, rfl⟩
  rw [hval.1, hval.2]
  unfold ptr
  go_enter_defers Tryz.func51, Tryz.ntmps51
  go_wp2_with (first | (go_at_call 37; refine (lock_free Tryz.muLib ⟨b, 2, none⟩ _ c2 f2).mono ?_; rintro e w' ⟨rfl, rfl⟩) | (at_lookup; refine wpList_lookF_ok _ rfl _ _ 102 rfl 3 118 keyInt Tryz.underlying102 (zeroWPtr _) A.wm (writesF s A) rfl (hM _) _ (.int .i64 n) rfl (keyOf_int hn hn') fv hfv ?_))
  refine leaves_cons (f := 38) (args := #[.pointer (some ⟨b, 2, none⟩)]) (by simp) (by simp [go_sem]) ?_
  refine (unlock_deferred Tryz.muLib ⟨b, 2, none⟩ .returning _ ?_ ?_).mono ?_
  · exact World.cell?_setCell_same w ⟨b, 2, none⟩ (.int .i32 1) c2
  · simp [f2]
  rintro e u' w'' ⟨rfl, rfl, rfl⟩
  exact ⟨_, results_tmp2 rfl _ _ _, rfl, hSame⟩

/-- what shareOn answers -/
def shareVal (s : MS) (A : SA) (i : Nat) (m : MW) (p : Int) : Value × Int := if onPart s.parts m.items p = true then (ptr (A.sh i p.toNat), 0) else (.pointer none, 8)
theorem ret_share {v v' : Value} {a b : Int} (h : (v, a) = (v', b)) : Ending.returned (.tuple #[v, .int .i64 a]) = .returned (.tuple #[v', .int .i64 b]) := by cases h; rfl

set_option maxRecDepth 100000 in
set_option maxHeartbeats 800000 in
theorem shareOn_any (pw sm : Nat) (i : Nat) (m : MW) (p : Int) (w : World) (hp : -9223372036854775808 ≤ p) (hp' : p ≤ 9223372036854775807) (c3 : w.cell? ⟨pw, 4, none⟩ = some (.bool false)) (c4 : w.cell? ⟨pw, 5, none⟩ = some (.map (some sm))) (hM : MapF w Tryz.prog 3 sm (sharesF s A i m)) :
    Calls Tryz.prog 88 #[ptr pw, .int .i64 p] w fun e w' => e = .returned (.tuple #[(shareVal s A i m p).1, .int .i64 (shareVal s A i m p).2]) ∧ w' = w := by
  unfold ptr
  cases ho : onPart s.parts m.items p with
  | true =>
    have hfv : sharesF s A i m (.int .i64 p) = some (.pointer (some ⟨A.sh i p.toNat, 0, none⟩)) := by simp only [sharesF, ho, if_true]; rfl
    have Hr : Hid (shareVal s A i m p = (.pointer (some ⟨A.sh i p.toNat, 0, none⟩), 0)) := by unfold Hid shareVal; rw [ho]; rfl
    clear ho
    go_enter Tryz.func88, Tryz.ntmps88
    go_wp2_with (at_lookup; refine wpList_lookF_ok _ rfl _ _ 162 rfl 3 168 keyInt Tryz.underlying162 (zeroShPtr _) sm (sharesF s A i m) rfl hM _ (.int .i64 p) rfl (keyOf_int hp hp') _ hfv ?_)
    go_ret2
    exact ⟨ret_share Hr.out.symm, rfl⟩
  | false =>
    have hfv : sharesF s A i m (.int .i64 p) = none := by simp [sharesF, ho]
    have Hr : Hid (shareVal s A i m p = (.pointer none, 8)) := by unfold Hid shareVal; rw [ho]; rfl
    clear ho
    go_enter Tryz.func88, Tryz.ntmps88
    go_wp2_with (at_lookup; refine wpList_lookF_ok _ rfl _ _ 162 rfl 3 168 keyInt Tryz.underlying162 (zeroShPtr _) sm (sharesF s A i m) rfl hM _ (.int .i64 p) rfl (keyOf_int hp hp') _ hfv ?_)
    go_ret2
    exact ⟨ret_share Hr.out.symm, rfl⟩

end
end Go.Proofs.YteoahlieielcdaaGreat

/-
  The program: what a part does: Prepare, Drop.
-/
namespace Go.Proofs.YteoahlieielcdaaGreat
open Go Go.RowKit Go.MuLone
open Go.Maps (Keyed)

/-- all blocks but b are as they were; none is new -/
structure But (w w' : World) (b : Nat) : Prop where
  os : w'.os = w.os
  tape : w'.tape = w.tape
  output : w'.output = w.output
  size : w'.heap.size = w.heap.size
  block : ∀ k, k ≠ b → w'.heap[k]? = w.heap[k]?
theorem But.of_turned {w w' : World} {b : Nat} (h : w.mapTurned w' b) : But w w' b := ⟨h.grown.os, h.grown.tape, h.grown.output, turned_size h, fun _ hk => turned_other h hk⟩
theorem But.trans {a b c : World} {k : Nat} (h : But a b k) (g : But b c k) : But a c k := ⟨g.os.trans h.os, g.tape.trans h.tape, g.output.trans h.output, g.size.trans h.size, fun i hi => (g.block i hi).trans (h.block i hi)⟩
/-- a lock taken, another block turned, the lock given back -/
theorem But.locked {w w1 : World} {b o kb : Nat} {c : Array Value} {t : TypeId} (hb : Blk w b c t) (hc : c[o]? = some mu0) (v : Value) (h : But (w.setCell ⟨b, o, none⟩ v) w1 kb) (hne : b ≠ kb) : But w (w1.setCell ⟨b, o, none⟩ mu0) kb := by
  refine ⟨h.os, h.tape, h.output, by simpa [World.setCell] using h.size, fun k hk => ?_⟩
  by_cases e : k = b
  · subst e
    have h1 : Blk (w1.setCell ⟨k, o, none⟩ mu0) k ((c.setIfInBounds o v).setIfInBounds o mu0) t := ((hb.set o v).of_eq (h.block k hne)).set o mu0
    have h2 : Blk ((w.setCell ⟨k, o, none⟩ v).setCell ⟨k, o, none⟩ mu0) k ((c.setIfInBounds o v).setIfInBounds o mu0) t := (hb.set o v).set o mu0
    have h3 := (lock_round hb hc v).heap
    rw [show (w1.setCell ⟨k, o, none⟩ mu0).heap[k]? = _ from h1, ← show ((w.setCell ⟨k, o, none⟩ v).setCell ⟨k, o, none⟩ mu0).heap[k]? = _ from h2, h3]
  · rw [Below.heap_setCell _ _ _ _ e, h.block k hk, Below.heap_setCell _ _ _ _ e]
/-- behind a lock taken, whatever was done and the lock given back: what was not touched is as it was -/
theorem unlock_block {w w3 : World} {b o : Nat} {c : Array Value} {t : TypeId} {v : Value} (hb : Blk w b c t) (hc : c[o]? = some mu0) {p : Nat → Prop} (h3 : ∀ k, p k → w3.heap[k]? = (w.setCell ⟨b, o, none⟩ v).heap[k]?) (k : Nat) (hk : p k) :
    (w3.setCell ⟨b, o, none⟩ mu0).heap[k]? = w.heap[k]? := by
  by_cases e : k = b
  · subst e
    have h1 : Blk (w3.setCell ⟨k, o, none⟩ mu0) k ((c.setIfInBounds o v).setIfInBounds o mu0) t := ((hb.set o v).of_eq (h3 k hk)).set o mu0
    have h2 : Blk ((w.setCell ⟨k, o, none⟩ v).setCell ⟨k, o, none⟩ mu0) k ((c.setIfInBounds o v).setIfInBounds o mu0) t := (hb.set o v).set o mu0
    have h4 := (lock_round hb hc v).heap
    rw [show (w3.setCell ⟨k, o, none⟩ mu0).heap[k]? = _ from h1, ← show ((w.setCell ⟨k, o, none⟩ v).setCell ⟨k, o, none⟩ mu0).heap[k]? = _ from h2, h4]
  · rw [Below.heap_setCell _ _ _ _ e, h3 k hk, Below.heap_setCell _ _ _ _ e]
theorem blk_ne_map {w : World} {P : Program} {t t' : TypeId} {b k : Nat} {c : Array Value} {f : Lit → Option Value} (h : Blk w b c t) (hm : MapF w P t' k f) : b ≠ k := by
  rintro rfl
  obtain ⟨n, D, ⟨es, clock, hb, _⟩, _⟩ := hm
  have : w.heap[b]? = some (.cells c t (0, 0)) := h
  rw [this] at hb
  cases hb

section
variable {w : World}

set_option maxRecDepth 100000 in
set_option maxHeartbeats 800000 in
theorem kPrepare (pb kb vb : Nat) (f : Lit → Option Value) (hb : Blk w pb #[mu0, sem0, .map (some kb), .map (some vb)] 202) (hM : MapF w Tryz.prog 3 kb f) (L : List Lit) (hL : ∀ kl, f kl ≠ none → kl ∈ L) (hn : L.length < maxLen)
    (n : Int) (h1 : -9223372036854775808 ≤ n) (h2 : n ≤ 9223372036854775807) (iv sv : Value) (hiv : ∃ a l c, iv = .slice a l c) (hsv : IsIf sv) :
    Calls Tryz.prog 91 #[ptr pb, .int .i64 n, iv, sv] w fun e w' => e = .returned (.tuple #[]) ∧ MapF w' Tryz.prog 3 kb (upd f (.int .i64 n) (.agg #[iv, sv])) ∧ But w w' kb := by
  have c0 : w.cell? ⟨pb, 0, none⟩ = some (.int .i32 0) := hb.cell (o := 0) rfl
  have c2 : w.cell? ⟨pb, 2, none⟩ = some (.map (some kb)) := hb.cell (o := 2) rfl
  have f0 := hb.frozen 0
  have hne := blk_ne_map hb hM
  have hM1 : ∀ v, MapF (w.setCell ⟨pb, 0, none⟩ v) Tryz.prog 3 kb f := fun v => hM.of_eq (Below.heap_setCell _ _ _ _ (fun e => hne e.symm))
  obtain ⟨ia, il, ic, rfl⟩ := hiv
  unfold ptr
  rcases hsv with rfl | ⟨st, sx, rfl⟩
  all_goals
    go_enter_defers Tryz.func91, Tryz.ntmps91
    go_wp2_with (first | (go_at_call 37; refine (lock_free Tryz.muLib ⟨pb, 0, none⟩ _ c0 f0).mono ?_; rintro e w' ⟨rfl, rfl⟩) | (at_mapUpdate; refine wpList_updF _ rfl _ _ _ 199 rfl 3 214 keyInt Tryz.underlying199 kb f rfl (hM1 _) L hL hn _ _ (.int .i64 n) rfl rfl (keyOf_int h1 h2) ?_; intro w1 hM2 hT))
    have hB := But.of_turned hT
    have hb1 : Blk w1 pb _ 202 := (hb.set 0 (.int .i32 1)).of_eq (hB.block pb hne)
    refine leaves_cons (f := 38) (args := #[.pointer (some ⟨pb, 0, none⟩)]) (by simp) (by simp [go_sem]) ?_
    refine (unlock_deferred Tryz.muLib ⟨pb, 0, none⟩ .returning _ (hb1.cell (o := 0) rfl) (hb1.frozen 0)).mono ?_
    rintro e u' w'' ⟨rfl, rfl, rfl⟩
    exact ⟨_, results_none rfl _ _ _, rfl, hM2.of_eq (Below.heap_setCell _ _ _ _ (fun e => hne e.symm)), But.locked hb rfl _ hB hne⟩

set_option maxRecDepth 100000 in
set_option maxHeartbeats 800000 in
theorem kDrop (pb kb vb : Nat) (f : Lit → Option Value) (hb : Blk w pb #[mu0, sem0, .map (some kb), .map (some vb)] 202) (hM : MapF w Tryz.prog 3 kb f)
    (n : Int) (h1 : -9223372036854775808 ≤ n) (h2 : n ≤ 9223372036854775807) :
    Calls Tryz.prog 92 #[ptr pb, .int .i64 n] w fun e w' => e = .returned (.tuple #[]) ∧ MapF w' Tryz.prog 3 kb (del f (.int .i64 n)) ∧ But w w' kb := by
  have c0 : w.cell? ⟨pb, 0, none⟩ = some (.int .i32 0) := hb.cell (o := 0) rfl
  have c2 : w.cell? ⟨pb, 2, none⟩ = some (.map (some kb)) := hb.cell (o := 2) rfl
  have f0 := hb.frozen 0
  have hne := blk_ne_map hb hM
  have hM1 : ∀ v, MapF (w.setCell ⟨pb, 0, none⟩ v) Tryz.prog 3 kb f := fun v => hM.of_eq (Below.heap_setCell _ _ _ _ (fun e => hne e.symm))
  unfold ptr
  go_enter_defers Tryz.func92, Tryz.ntmps92
  go_wp2_with (first | (go_at_call 37; refine (lock_free Tryz.muLib ⟨pb, 0, none⟩ _ c0 f0).mono ?_; rintro e w' ⟨rfl, rfl⟩) | (at_delete; refine wpList_delF _ rfl _ _ 199 3 rfl 214 keyInt Tryz.underlying199 kb f rfl (hM1 _) _ (.int .i64 n) rfl (keyOf_int h1 h2) ?_; intro w1 hM2 hT))
  have hB := But.of_turned hT
  have hb1 : Blk w1 pb _ 202 := (hb.set 0 (.int .i32 1)).of_eq (hB.block pb hne)
  refine leaves_cons (f := 38) (args := #[.pointer (some ⟨pb, 0, none⟩)]) (by simp) (by simp [go_sem]) ?_
  refine (unlock_deferred Tryz.muLib ⟨pb, 0, none⟩ .returning _ (hb1.cell (o := 0) rfl) (hb1.frozen 0)).mono ?_
  rintro e u' w'' ⟨rfl, rfl, rfl⟩
  exact ⟨_, results_none rfl _ _ _, rfl, hM2.of_eq (Below.heap_setCell _ _ _ _ (fun e => hne e.symm)), But.locked hb rfl _ hB hne⟩

end
end Go.Proofs.YteoahlieielcdaaGreat

/-
  A store of the program behind a step: one write is turned.
-/
namespace Go.Proofs.YteoahlieielcdaaGreat
open Go Go.RowKit
open Go.Maps (Keyed)

section
variable {w : World} {τ : Nat → Tag} {sid b : Nat} {s : MS} {A : SA}

/-- the store with write i turned -/
def setAt (s : MS) (i : Nat) (m : MW) : MS := { s with ws := s.ws.set i m }
theorem setW_eq (s : MS) (n : Int) (m : MW) : setW s n m = setAt s (n - 1).toNat m := rfl

theorem mFind_none' {s : MS} {n : Int} (h : mFind s n = none) : n < 1 ∨ (s.ws.length : Int) < n ∨ (1 ≤ n ∧ n ≤ s.ws.length ∧ ∃ m, s.ws[(n - 1).toNat]? = some m ∧ m.canc = true) := by
  unfold mFind at h
  split at h
  · omega
  · rename_i hb
    have hlt : (n - 1).toNat < s.ws.length := by omega
    rw [List.getElem?_eq_getElem hlt] at h
    simp only at h
    refine Or.inr (Or.inr ⟨by omega, by omega, _, List.getElem?_eq_getElem hlt, ?_⟩)
    cases hc : s.ws[(n - 1).toNat].canc
    · rw [hc] at h; simp at h
    · rfl
theorem mFind_some' {s : MS} {n : Int} {m : MW} (h : mFind s n = some m) : 1 ≤ n ∧ n ≤ s.ws.length ∧ s.ws[(n - 1).toNat]? = some m ∧ m.canc = false := by
  unfold mFind at h
  split at h
  · cases h
  · rename_i hb
    have hlt : (n - 1).toNat < s.ws.length := by omega
    rw [List.getElem?_eq_getElem hlt] at h
    simp only at h
    split at h
    · cases h
    · rename_i hc
      cases h
      exact ⟨by omega, by omega, List.getElem?_eq_getElem hlt, by simpa using hc⟩
theorem mFind_of {s : MS} {i : Nat} {m : MW} (hm : s.ws[i]? = some m) (hc : m.canc = false) : mFind s ((i : Int) + 1) = some m := by
  have hi := lt_of_some hm
  unfold mFind
  rw [if_neg (by omega), show ((i : Int) + 1 - 1).toNat = i from by omega, hm]
  simp [hc]
theorem mFind_set_same {s : MS} {i : Nat} {m : MW} (hi : i < s.ws.length) (hc : m.canc = false) : mFind (setAt s i m) ((i : Int) + 1) = some m :=
  mFind_of (by simp [setAt, hi]) hc
theorem mFind_set_other {s : MS} {i : Nat} {m : MW} {n : Int} (hn : n ≠ (i : Int) + 1) : mFind (setAt s i m) n = mFind s n := by
  unfold mFind setAt
  simp only [List.length_set]
  split
  · rfl
  · rw [List.getElem?_set_ne (by omega)]
theorem set_get {s : MS} {i j : Nat} {m m' : MW} (h : (setAt s i m').ws[j]? = some m) : (i = j ∧ m = m') ∨ (i ≠ j ∧ s.ws[j]? = some m) := set_some h

theorem writesF_set {m m' : MW} {i : Nat} (hm : s.ws[i]? = some m) (hc : m.canc = false) (hc' : m'.canc = false) : writesF (setAt s i m') A = writesF s A := by
  funext kl
  cases kl with
  | int k n =>
    cases k <;> try rfl
    simp only [writesF]
    by_cases e : n = (i : Int) + 1
    · rw [e, mFind_set_same (lt_of_some hm) hc', mFind_of hm hc]
    · rw [mFind_set_other e]
  | _ => rfl

/-- ONE WRITE IS TURNED: its stages; what the parts keep of it and what is visible. -/
theorem RepS.setW (h : RepS w τ sid b s A) {i : Nat} {m m' : MW} (hm : s.ws[i]? = some m) (hc : m.canc = false) (hit : m'.items = m.items) (hc' : m'.canc = false)
    (hcmm : ∀ q, m.comm q = true → m'.comm q = true) (hcp : ∀ q, m'.comm q = true → m'.prep q = true) (hpo : ∀ q : Nat, m'.prep q = true → onPart s.parts m.items q = true) {w' : World} {vis' : Nat → List UInt8 → Nat}
    (hsame : ∀ k, k < w.heap.size → (∀ q, q < s.parts → k ≠ A.kb q ∧ k ≠ A.vb q ∧ (onPart s.parts m.items q = true → k ≠ A.sh i q)) → w'.heap[k]? = w.heap[k]?)
    (hk : ∀ q, q < s.parts → MapF w' Tryz.prog 3 (A.kb q) (keptF (setAt s i m') A q))
    (hv : ∀ q, q < s.parts → MapF w' Tryz.prog 9 (A.vb q) (visF { A with vis := vis' } q)) (hvo : ∀ q, q < s.parts → VisOk (setAt s i m') q (vis' q))
    (hs : ∀ q : Nat, onPart s.parts m.items q = true → Blk w' (A.sh i q) #[ptr (A.pb q), .int .i64 (stageOf m' q), if m'.prep q then nilSlice else A.iv i q] 174) :
    RepS w' τ sid b (setAt s i m') { A with vis := vis' } := by
  have hi := lt_of_some hm
  have hbd : ∀ q : Nat, onPart s.parts m.items q = true → q < s.parts := fun q ho => by
    have := (onPart_bd (by have := h.ok.p1; omega) ho).2; omega
  have hne : ∀ {k a c : Nat}, τ k = (sid, a, c) → a ≠ 3 → a ≠ 4 → (a = 8 → ∀ q, q < s.parts → c ≠ i * 4 + q) → k < w.heap.size → w'.heap[k]? = w.heap[k]? := by
    intro k a c ht h3 h4 h8 hkl
    refine hsame k hkl (fun q hq => ⟨fun e => ?_, fun e => ?_, fun ho e => ?_⟩)
    · have := h.keptTag q hq; rw [← e, ht] at this; simp at this; omega
    · have := h.visTag q hq; rw [← e, ht] at this; simp at this; omega
    · have := h.shTag i m q hm hc ho; rw [← e, ht] at this; simp at this; exact h8 this.1 q hq this.2
  have hp4 := h.ok.p4
  have hshm : ∀ {j : Nat} {mj mj' : MW}, mj'.items = mj.items → sharesF (setAt s i m') A j mj' = sharesF s A j mj := by
    intro j mj mj' e
    funext kl
    cases kl with
    | int k n => cases k <;> first | rfl | (simp only [sharesF, e]; rfl)
    | _ => rfl
  have hget : ∀ {j : Nat} {mj : MW}, (setAt s i m').ws[j]? = some mj → ∃ mo, s.ws[j]? = some mo ∧ mj.items = mo.items ∧ (mj.canc = false → mo.canc = false) ∧ (i ≠ j → mj = mo) := by
    intro j mj hj
    rcases set_get hj with ⟨rfl, rfl⟩ | ⟨e, hj'⟩
    · exact ⟨m, hm, hit, fun _ => hc, fun e => absurd rfl e⟩
    · exact ⟨mj, hj', rfl, id, fun _ => rfl⟩
  refine ⟨⟨h.ok.p1, h.ok.p4, by simpa [setAt] using h.ok.len, fun j mj hj => ?_, h.ok.keys, h.ok.opn⟩, ⟨fun j mj q hj => ?_, fun j mj q hj => ?_, fun j mj q hj => ?_⟩, ?_, ?_, h.tag, ?_, h.parrTag, fun q hq => ?_, h.partTag, hk, h.keptTag, hv, h.visTag, hvo, ?_, h.wmTag, fun j mj hj hcj => ?_, fun j mj hj hcj => ?_, fun j mj hj hcj => ?_, fun j mj hj hcj => ?_, fun j mj q hj hcj ho => ?_, fun j mj q hj hcj ho => ?_, fun j mj q hj hcj ho => ?_, fun j mj q k hj hcj ho => ?_, h.reads.frame (fun k hk h1 h10 => ⟨hne (a := (τ k).2.1) (c := (τ k).2.2) (by rw [← h1]) (by omega) (by omega) (by omega) hk, rfl⟩)⟩
  · obtain ⟨mo, ho, e, _⟩ := hget hj
    rw [e]; exact h.ok.items j mo ho
  · intro hcm
    rcases set_get hj with ⟨rfl, rfl⟩ | ⟨_, hj'⟩
    · exact hcp q hcm
    · exact h.inv.cp j mj q hj' hcm
  · intro hpm
    rcases set_get hj with ⟨rfl, rfl⟩ | ⟨_, hj'⟩
    · rw [hit]; exact hpo q hpm
    · exact h.inv.po j mj q hj' hpm
  · intro hcm
    rcases set_get hj with ⟨rfl, rfl⟩ | ⟨_, hj'⟩
    · rw [hc'] at hcm; cases hcm
    · exact h.inv.cc j mj q hj' hcm
  · refine h.told.ws rfl rfl rfl rfl (fun j mj hj => by obtain ⟨mo, ho, _⟩ := hget hj; exact h.told.sv j mo ho) (fun j mj hj => ?_)
    by_cases e : i = j
    · subst e
      rw [hm] at hj; cases hj
      exact ⟨m', by simp [setAt, hi], hit, hcmm, rfl⟩
    · exact ⟨mj, by simp only [setAt]; rw [List.getElem?_set_ne e]; exact hj, rfl, fun _ hq => hq, rfl⟩
  · have := h.blk.of_eq (hne h.tag (by omega) (by omega) (by omega) h.blk.lt)
    simpa [setAt] using this
  · exact row_of_block h.parr (fun k hk => hne (h.parrTag k hk) (by omega) (by omega) (by omega) (row_ge h.parr k hk).2)
  · exact (h.part q hq).of_eq (hne (h.partTag q hq) (by omega) (by omega) (by omega) (h.part q hq).lt)
  · have : writesF (setAt s i m') { A with vis := vis' } = writesF s A := writesF_set (A := A) hm hc hc'
    rw [this]
    exact h.wmap.of_eq (hne h.wmTag (by omega) (by omega) (by omega) h.wmap.lt)
  · obtain ⟨mo, ho, _, ec, _⟩ := hget hj
    have hb := h.wr j mo ho (ec hcj)
    exact hb.of_eq (hne (h.wrTag j mo ho (ec hcj)) (by omega) (by omega) (by omega) hb.lt)
  · obtain ⟨mo, ho, _, ec, _⟩ := hget hj
    exact h.wrTag j mo ho (ec hcj)
  · obtain ⟨mo, ho, e, ec, _⟩ := hget hj
    have : sharesF (setAt s i m') { A with vis := vis' } j mj = sharesF s A j mo := hshm e
    rw [this]
    have hb := h.shm j mo ho (ec hcj)
    exact hb.of_eq (hne (h.shmTag j mo ho (ec hcj)) (by omega) (by omega) (by omega) hb.lt)
  · obtain ⟨mo, ho, _, ec, _⟩ := hget hj
    exact h.shmTag j mo ho (ec hcj)
  · obtain ⟨mo, hmo, e, ec, en⟩ := hget hj
    rw [e] at ho
    by_cases eij : i = j
    · subst eij
      rw [hm] at hmo; cases hmo
      rcases set_get hj with ⟨_, rfl⟩ | ⟨e', _⟩
      · exact hs q ho
      · exact absurd rfl e'
    · rw [en eij]
      rw [en eij] at hcj
      have hb := h.sh j mo q hmo hcj ho
      refine hb.of_eq (hne (h.shTag j mo q hmo hcj ho) (by omega) (by omega) (fun _ q' hq' e' => ?_) hb.lt)
      have hq1 := (onPart_bd (n := (s.parts : Int)) (by have := h.ok.p1; omega) ho).2
      omega
  · obtain ⟨mo, hmo, e, ec, _⟩ := hget hj
    rw [e] at ho
    exact h.shTag j mo q hmo (ec hcj) ho
  · obtain ⟨mo, hmo, e, ec, _⟩ := hget hj
    rw [e] at ho
    rw [e]
    have hr := h.it j mo q hmo (ec hcj) ho
    exact row_of_block hr (fun k hk => hne (h.itTag j mo q k hmo (ec hcj) ho hk) (by omega) (by omega) (by omega) (row_ge hr k hk).2)
  · obtain ⟨mo, hmo, e, ec, _⟩ := hget hj
    rw [e] at ho
    exact h.itTag j mo q k hmo (ec hcj) ho

end
end Go.Proofs.YteoahlieielcdaaGreat
