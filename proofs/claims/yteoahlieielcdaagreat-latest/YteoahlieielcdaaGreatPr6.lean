/-
  The program: what a part does: Commit.
-/
import Derived.Test.YteoahlieielcdaaGreatPr5
namespace Go.Proofs.YteoahlieielcdaaGreat
open Go Go.RowKit Go.MuLone
open Go.Maps (Keyed)

/-- old blocks but those of M are as they were -/
structure Fr (M : Nat → Prop) (w w' : World) : Prop where
  os : w'.os = w.os
  tape : w'.tape = w.tape
  output : w'.output = w.output
  size : w.heap.size ≤ w'.heap.size
  block : ∀ k, k < w.heap.size → ¬ M k → w'.heap[k]? = w.heap[k]?
theorem Fr.refl (M : Nat → Prop) (w : World) : Fr M w w := ⟨rfl, rfl, rfl, Nat.le_refl _, fun _ _ _ => rfl⟩
theorem Fr.trans {M : Nat → Prop} {a b c : World} (h : Fr M a b) (g : Fr M b c) : Fr M a c :=
  ⟨g.os.trans h.os, g.tape.trans h.tape, g.output.trans h.output, Nat.le_trans h.size g.size, fun k hk hm => (g.block k (Nat.lt_of_lt_of_le hk h.size) hm).trans (h.block k hk hm)⟩
theorem Fr.mono {M N : Nat → Prop} {a b : World} (h : Fr M a b) (hMN : ∀ k, M k → N k) : Fr N a b := ⟨h.os, h.tape, h.output, h.size, fun k hk hn => h.block k hk (fun e => hn (hMN k e))⟩
theorem Fr.drewN {M : Nat → Prop} {a b : World} (h : Fr M a b) (n : Nat) : Fr M a (b.drewN n) := ⟨h.os, h.tape, h.output, h.size, h.block⟩
theorem Fr.drew {M : Nat → Prop} {a b : World} (h : Fr M a b) : Fr M a b.drew := ⟨h.os, h.tape, h.output, h.size, h.block⟩
theorem Fr.alloc {M : Nat → Prop} {a b : World} (h : Fr M a b) (o : Obj) : Fr M a (b.alloc o) :=
  h.trans ⟨rfl, rfl, rfl, by simp, fun k hk _ => Below.heap_alloc _ _ _ hk⟩
theorem Fr.setCell {M : Nat → Prop} {a b : World} (h : Fr M a b) {p : Addr} (hp : M p.block) (v : Value) : Fr M a (b.setCell p v) :=
  h.trans ⟨rfl, rfl, rfl, by simp [World.setCell], fun k _ hm => Below.heap_setCell _ _ _ _ (fun e => hm (by rw [e]; exact hp))⟩
theorem Fr.of_but {M : Nat → Prop} {a b : World} {k : Nat} (h : But a b k) (hk : M k) : Fr M a b := ⟨h.os, h.tape, h.output, Nat.le_of_eq h.size.symm, fun i _ hm => h.block i (fun e => hm (by rw [e]; exact hk))⟩
theorem Fr.of_below {M : Nat → Prop} {a b : World} (h : Below a.heap.size a b) : Fr M a b := ⟨h.os, h.tape, h.output, h.size, fun k hk _ => h.block k hk⟩
theorem Fr.of_same {M : Nat → Prop} {a b : World} (h : Same a b) : Fr M a b := ⟨h.os, h.tape, h.output, by rw [h.heap]; exact Nat.le_refl _, fun k _ _ => by rw [h.heap]⟩
theorem Fr.stp {M : Nat → Prop} {a b : World} (h : Fr M a b) {sid : Nat} {τ : Nat → Tag} (hM : ∀ k, k < a.heap.size → M k → (τ k).1 = sid) : Stp sid τ a τ b :=
  ⟨h.os, h.tape, h.output, h.size, fun _ _ => rfl, fun k hk hs => h.block k hk (fun e => hs (hM k hk e))⟩
theorem Fr.blk {M : Nat → Prop} {a b : World} (h : Fr M a b) {k : Nat} {c : Array Value} {t : TypeId} (hb : Blk a k c t) (hm : ¬ M k) : Blk b k c t := hb.of_eq (h.block k hb.lt hm)
theorem Fr.map {M : Nat → Prop} {a b : World} (h : Fr M a b) {P : Program} {t : TypeId} {k : Nat} {f : Lit → Option Value} (hb : MapF a P t k f) (hm : ¬ M k) : MapF b P t k f := hb.of_eq (h.block k hb.lt hm)
theorem Fr.row {M : Nat → Prop} {a b : World} (h : Fr M a b) {e : TypeId} {sz : Nat} {v : Value} {n base : Nat} {xs : List Value} (hr : a.ownsRow base e sz v n xs) (hm : ∀ k, v.ownBlock = some k → ¬ M k) : b.ownsRow base e sz v n xs :=
  row_of_block hr (fun k hk => h.block k (row_ge hr k hk).2 (hm k hk))

/-- the visible writes as a map -/
def visG (v : List UInt8 → Nat) : Lit → Option Value
  | .string l => if v l = 0 then none else some (.int .i64 (v l))
  | _ => none
theorem visF_eq (A : SA) (q : Nat) : visF A q = visG (A.vis q) := by
  funext kl; cases kl <;> rfl
/-- what is visible behind a commit of write n that writes L -/
def visMax (v : List UInt8 → Nat) (n : Nat) (L : List KV) : List UInt8 → Nat := fun l => if L.any (fun x => decide (x.1.data.toList = l)) then max (v l) n else v l
theorem visMax_snoc (v : List UInt8 → Nat) (n : Nat) (hn : 0 < n) (L : List KV) (x : KV) : visG (visMax v n (L ++ [x])) = upd (visG (visMax v n L)) (.string x.1.data.toList) (.int .i64 (max (visMax v n L x.1.data.toList) n : Nat)) := by
  funext kl
  by_cases e : kl = .string x.1.data.toList
  · subst e
    rw [upd_same (by trivial)]
    simp only [visG, visMax, List.any_append, List.any_cons, decide_true, Bool.or_true, List.any_nil, Bool.or_false, if_true]
    cases L.any (fun y => decide (y.1.data.toList = x.1.data.toList)) <;> simp <;> omega
  · rw [upd_other e]
    cases kl with
    | string l =>
      have : x.1.data.toList ≠ l := fun e' => e (by rw [e'])
      have h1 : visMax v n (L ++ [x]) l = visMax v n L l := by
        unfold visMax
        rw [List.any_append, List.any_cons, List.any_nil, decide_eq_false this, Bool.false_or, Bool.or_false]
      simp only [visG, h1]
    | _ => rfl
theorem visMax_nil (v : List UInt8 → Nat) (n : Nat) : visMax v n [] = v := by funext l; simp [visMax]

theorem visMax_le {v : List UInt8 → Nat} {n : Nat} (hv : ∀ l, v l ≤ 200) (hn : n ≤ 200) (L : List KV) (l : List UInt8) : visMax v n L l ≤ 200 := by
  unfold visMax
  have := hv l
  split <;> omega
theorem visMax_keys {v : List UInt8 → Nat} {n : Nat} {SL : List Lit} (hSL : ∀ l, v l ≠ 0 → Lit.string l ∈ SL) {L : List KV} (K : List KV) (hK : ∀ x ∈ K, x ∈ L) :
    ∀ kl, visG (visMax v n K) kl ≠ none → kl ∈ SL ++ L.map (fun x => Lit.string x.1.data.toList) := by
  intro kl h
  cases kl with
  | string l =>
    rw [List.mem_append]
    by_cases hk : K.any (fun x => decide (x.1.data.toList = l)) = true
    · rw [List.any_eq_true] at hk
      obtain ⟨x, hx, e⟩ := hk
      exact Or.inr (List.mem_map.2 ⟨x, hK x hx, by rw [of_decide_eq_true e]⟩)
    · refine Or.inl (hSL l (fun e0 => h ?_))
      simp only [visG, visMax, hk, e0]
      rfl
  | _ => exact absurd rfl h
theorem visG_getD (u : List UInt8 → Nat) (l : List UInt8) : (visG u (.string l)).getD (.int .i64 0) = .int .i64 (u l) := by
  simp only [visG]
  by_cases h : u l = 0
  · simp [h]
  · simp [h]

section
variable {w : World}

set_option maxRecDepth 100000 in
set_option maxHeartbeats 1000000 in
theorem kCommit (pb kb vb : Nat) (f : Lit → Option Value) (v : List UInt8 → Nat) (n : Nat) (iv sv : Value) (L : List KV) (SL : List Lit) (hb : Blk w pb #[mu0, sem0, .map (some kb), .map (some vb)] 202) (hM : MapF w Tryz.prog 3 kb f) (hf : f (.int .i64 n) = some (.agg #[iv, sv]))
    (hV : MapF w Tryz.prog 9 vb (visG v)) (hO : w.ownsRow 0 70 2 iv L.length (kvCells L)) (hL0 : 0 < L.length) (hL8 : L.length ≤ 8) (hLg : ∀ x ∈ L, goodKV x = true) (hn0 : 0 < n) (hn : n ≤ 200) (hv : ∀ l, v l ≤ 200)
    (hSL : ∀ l, v l ≠ 0 → Lit.string l ∈ SL) (hSn : SL.length ≤ 2000) :
    Calls Tryz.prog 90 #[ptr pb, .int .i64 n] w fun e w' => e = .returned (.tuple #[]) ∧ MapF w' Tryz.prog 9 vb (visG (visMax v n L)) ∧ Fr (fun k => k = vb) w w' := by
  have c0 : w.cell? ⟨pb, 0, none⟩ = some (.int .i32 0) := hb.cell (o := 0) rfl
  have f0 := hb.frozen 0
  have hne := blk_ne_map hb hM
  have hnv := blk_ne_map hb hV
  have hb1 := hb.set 0 (.int .i32 1)
  obtain ⟨g, cap, hiv, _, hcap, hcell, _⟩ := row_form hO hL0
  subst hiv
  have hfi := fldItems (.slice (some ⟨g, 0, none⟩) L.length cap) sv
  have hgl : g < w.heap.size := (row_ge hO g rfl).2
  have hgp : g ≠ pb := by
    rintro rfl
    obtain ⟨_, h2⟩ := hO
    rcases h2 with ⟨e, _⟩ | ⟨g', cap', cur, e, _, hg, _⟩
    · cases e
    · cases e
      have h3 : w.heap[g]? = some (.cells _ 202 (0, 0)) := hb
      rw [h3] at hg; cases hg
  have hM1 : MapF (w.setCell ⟨pb, 0, none⟩ (.int .i32 1)) Tryz.prog 3 kb f := hM.of_eq (Below.heap_setCell _ _ _ _ (fun e => hne e.symm))
  have hV1 : MapF (w.setCell ⟨pb, 0, none⟩ (.int .i32 1)) Tryz.prog 9 vb (visG v) := hV.of_eq (Below.heap_setCell _ _ _ _ (fun e => hnv e.symm))
  have hcell1 : ∀ j, j < L.length * 2 → (w.setCell ⟨pb, 0, none⟩ (.int .i32 1)).cell? ⟨g, j, none⟩ = (kvCells L)[j]? := fun j hj => (World.cell?_of_block (w := w) (Below.heap_setCell _ _ _ _ hgp)).trans (hcell j hj)
  have hsz1 : (w.setCell ⟨pb, 0, none⟩ (.int .i32 1)).heap.size = w.heap.size := by simp [World.setCell]
  have hgv : g ≠ vb := by
    rintro rfl
    obtain ⟨_, h2⟩ := hO
    rcases h2 with ⟨e, _⟩ | ⟨g', cap', cur, e, _, hg, _⟩
    · cases e
    · cases e
      obtain ⟨n, D, ⟨es, clock, hb', _⟩, _⟩ := hV
      rw [hg] at hb'; cases hb'
  generalize hw1 : w.setCell ⟨pb, 0, none⟩ (.int .i32 1) = w1 at *
  have d2 : w1.cell? ⟨pb, 2, none⟩ = some (.map (some kb)) := hb1.cell (o := 2) rfl
  unfold ptr
  go_enter_defers Tryz.func90, Tryz.ntmps90
  go_wp2_with fail
  refine (lock_free Tryz.muLib ⟨pb, 0, none⟩ _ c0 f0).mono ?_
  rintro e w' ⟨rfl, rfl⟩
  rw [hw1]
  go_wp2_with (at_lookup; refine wpList_lookF _ rfl _ _ 199 rfl 3 214 keyInt Tryz.underlying199 (zeroItems _) kb f rfl hM1 _ (.int .i64 n) rfl (keyOf_int (by omega) (by omega)) _ hf ?_)
  go_loopw [21] (fun u wr => ∃ k : Nat, k ≤ L.length ∧ u = .int .i64 k ∧ Fr (fun k => k = vb) w1 wr ∧ MapF wr Tryz.prog 9 vb (visG (visMax v n (L.take k)))) (fun u _ => L.length - (intOf u).toNat)
  case atStart => exact ⟨0, Nat.zero_le _, rfl, Fr.refl _ _, by rw [List.take_zero, visMax_nil]; exact hV1⟩
  case round =>
    obtain ⟨k, hk, rfl, hF, hVk⟩ := hrel
    by_cases hlt : k < L.length
    · have hx : L[k]? = some L[k] := List.getElem?_eq_getElem hlt
      obtain ⟨e1, e2⟩ := kvCells_at L k _ hx
      have ck := hcell1 (k * 2) (by omega)
      have cv := hcell1 (k * 2 + 1) (by omega)
      rw [e1] at ck
      rw [e2] at cv
      have ck' : wr.cell? ⟨g, k * 2, none⟩ = some (.string L[k].1) := (World.cell?_of_block (w := w1) (hF.block g (by omega) hgv)).trans ck
      have cv' : wr.cell? ⟨g, k * 2 + 1, none⟩ = some (.string L[k].2) := (World.cell?_of_block (w := w1) (hF.block g (by omega) hgv)).trans cv
      have hbr := hF.blk hb1 hnv
      have d3 : wr.cell? ⟨pb, 3, none⟩ = some (.map (some vb)) := hbr.cell (o := 3) rfl
      have hpl : pb < wr.heap.size := hbr.lt
      have hgs := goodKV_size (hLg _ (List.getElem_mem hlt))
      have HT : Hid (L.take (k + 1) = L.take k ++ [L[k]]) := List.take_succ_eq_append_getElem hlt
      generalize L[k] = x at *
      obtain ⟨kk, vv⟩ := x
      simp only at ck' cv' hgs
      clear ck cv e1 e2 hx hcell1 hcell
      go_wp2_with fail
      have hVW : MapF (wr.alloc (.cells #[.string kk, .string vv] 70)) Tryz.prog 9 vb (visG (visMax v n (L.take k))) := hVk.of_eq (Below.heap_alloc _ _ _ hVk.lt)
      have cI : (wr.alloc (.cells #[.string kk, .string vv] 70)).cell? ⟨wr.heap.size, 0, none⟩ = some (.string kk) := (Blk.new wr _ _).cell (o := 0) rfl
      have d3W : (wr.alloc (.cells #[.string kk, .string vv] 70)).cell? ⟨pb, 3, none⟩ = some (.map (some vb)) := (World.cell?_of_block (w := wr) (Below.heap_alloc _ _ _ hpl)).trans d3
      have hFW : Fr (fun k => k = vb) w1 (wr.alloc (.cells #[.string kk, .string vv] 70)) := hF.alloc _
      generalize wr.alloc (.cells #[.string kk, .string vv] 70) = W at *
      have hu := visMax_le hv hn (L.take k) kk.data.toList
      have hwv : wr.heap.size ≠ vb := by have := hVk.lt; omega
      have hSu : ∀ kl, visG (visMax v n (L.take k)) kl ≠ none → kl ∈ SL ++ L.map (fun x => Lit.string x.1.data.toList) := visMax_keys hSL (L.take k) (fun x hx => List.mem_of_mem_take hx)
      have hlk : (Instr.lookup 200 (.map (some vb)) (.string kk) false).run Tryz.prog W.drew = .ok (.int .i64 (visMax v n (L.take k) kk.data.toList)) W.drew := by
        have := MapF.look (w := W.drew) (e := 3) hVW keyStr Tryz.underlying200 (zeroInt _) (keyOf_str (s := kk) (by unfold maxLen; omega))
        rw [visG_getD] at this
        exact this
      obtain ⟨W2, hup, hM2, hT2⟩ := MapF.store (w := W.drew) (e := 3) hVW keyStr Tryz.underlying200 _ hSu (by simp; unfold maxLen; omega) (keyOf_str (s := kk) (by unfold maxLen; omega)) (.int .i64 (max (visMax v n (L.take k) kk.data.toList) n : Nat))
      have HM2 := hM2
      rw [← visMax_snoc v n hn0 (L.take k) (kk, vv), ← HT.out] at HM2
      generalize visMax v n (L.take k) kk.data.toList = u at *
      clear hM2 hSu hVW
      have hFW2 : Fr (fun k => k = vb) w1 W2 := hFW.drew.trans (Fr.of_but (M := fun k => k = vb) (But.of_turned hT2) rfl)
      by_cases hun : n ≤ u
      · have hgt : ¬ (u : Int) < n := by omega
        rw [show (max u n : Nat) = u from by omega] at hup
        have c1 := But.of_turned hT2
        have q1 : W2.cell? ⟨wr.heap.size, 0, none⟩ = some (.string kk) := (World.cell?_of_block (w := W.drew) (c1.block _ hwv)).trans cI
        have q2 : W2.cell? ⟨pb, 3, none⟩ = some (.map (some vb)) := (World.cell?_of_block (w := W.drew) (c1.block _ hnv)).trans d3W
        go_region_held3 (fun W' => W'.cell? ⟨wr.heap.size, 0, none⟩ = some (.string kk) ∧ W'.cell? ⟨pb, 3, none⟩ = some (.map (some vb))) (simp [*]) (fail)
        go_wp2_with fail
        go_roundw
        case rel => exact ⟨k + 1, by omega, by go_num, hFW2, HM2⟩
        case measure => simp [intOf]; omega
      · have hgt : (u : Int) < n := by omega
        rw [show (max u n : Nat) = n from by omega] at hup
        have c1 := But.of_turned hT2
        have q1 : W2.cell? ⟨wr.heap.size, 0, none⟩ = some (.string kk) := (World.cell?_of_block (w := W.drew) (c1.block _ hwv)).trans cI
        have q2 : W2.cell? ⟨pb, 3, none⟩ = some (.map (some vb)) := (World.cell?_of_block (w := W.drew) (c1.block _ hnv)).trans d3W
        go_region_held3 (fun W' => W'.cell? ⟨wr.heap.size, 0, none⟩ = some (.string kk) ∧ W'.cell? ⟨pb, 3, none⟩ = some (.map (some vb))) (simp [*]) (fail)
        go_wp2_with fail
        go_roundw
        case rel => exact ⟨k + 1, by omega, by go_num, hFW2, HM2⟩
        case measure => simp [intOf]; omega
    · have hkL : k = L.length := by omega
      rw [hkL, List.take_length] at hVk
      have hbr := hF.blk hb1 hnv
      clear hcell1 hcell hkL
      go_wp2_with fail
      refine leaves_cons (f := 38) (args := #[.pointer (some ⟨pb, 0, none⟩)]) (by simp) (by simp [go_sem]) ?_
      refine (unlock_deferred Tryz.muLib ⟨pb, 0, none⟩ .returning _ (hbr.cell (o := 0) rfl) (hbr.frozen 0)).mono ?_
      rintro e u' w'' ⟨rfl, rfl, rfl⟩
      refine ⟨_, results_none rfl _ _ _, rfl, hVk.of_eq (Below.heap_setCell _ _ _ _ (fun e => hnv e.symm)), ⟨hF.os.trans (by rw [← hw1]; rfl), hF.tape.trans (by rw [← hw1]; rfl), hF.output.trans (by rw [← hw1]; rfl), ?_, fun k hk hm => ?_⟩⟩
      · have := hF.size
        simp [World.setCell]; omega
      · exact unlock_block hb rfl (v := .int .i32 1) (p := fun k => k < w.heap.size ∧ ¬ k = vb) (fun k hk => by rw [hw1]; exact hF.block k (by omega) hk.2) k ⟨hk, hm⟩

end
end Go.Proofs.YteoahlieielcdaaGreat
