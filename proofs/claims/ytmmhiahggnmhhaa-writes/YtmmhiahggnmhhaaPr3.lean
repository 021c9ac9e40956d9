/-
  The program: what a part does: Prepare, Drop.
-/
import Derived.Test.YtmmhiahggnmhhaaPr2
namespace Go.Proofs.Ytmmhiahggnmhhaa
open Go Go.RowKit Go.MuLone
open Go.Maps (Keyed)

/-- all blocks but b are as they were; none is new -/
structure But (w w' : World) (b : Nat) : Prop where
  os : w'.os = w.os
  tape : w'.tape = w.tape
  output : w'.output = w.output
  size : w'.heap.size = w.heap.size
  block : ∀ k, k ≠ b → w'.heap[k]? = w.heap[k]?
theorem But.of_turned {w w' : World} {b : Nat} (h : w.mapTurned w' b) : But w w' b := ⟨h.grown.os, h.grown.tape, h.grown.output, turned_size h, fun _ hk => turned_other h hk⟩
theorem But.trans {a b c : World} {k : Nat} (h : But a b k) (g : But b c k) : But a c k := ⟨g.os.trans h.os, g.tape.trans h.tape, g.output.trans h.output, g.size.trans h.size, fun i hi => (g.block i hi).trans (h.block i hi)⟩
/-- a lock taken, another block turned, the lock given back -/
theorem But.locked {w w1 : World} {b o kb : Nat} {c : Array Value} {t : TypeId} (hb : Blk w b c t) (hc : c[o]? = some mu0) (v : Value) (h : But (w.setCell ⟨b, o, none⟩ v) w1 kb) (hne : b ≠ kb) : But w (w1.setCell ⟨b, o, none⟩ mu0) kb := by
  refine ⟨h.os, h.tape, h.output, by simpa [World.setCell] using h.size, fun k hk => ?_⟩
  by_cases e : k = b
  · subst e
    have h1 : Blk (w1.setCell ⟨k, o, none⟩ mu0) k ((c.setIfInBounds o v).setIfInBounds o mu0) t := ((hb.set o v).of_eq (h.block k hne)).set o mu0
    have h2 : Blk ((w.setCell ⟨k, o, none⟩ v).setCell ⟨k, o, none⟩ mu0) k ((c.setIfInBounds o v).setIfInBounds o mu0) t := (hb.set o v).set o mu0
    have h3 := (lock_round hb hc v).heap
    rw [show (w1.setCell ⟨k, o, none⟩ mu0).heap[k]? = _ from h1, ← show ((w.setCell ⟨k, o, none⟩ v).setCell ⟨k, o, none⟩ mu0).heap[k]? = _ from h2, h3]
  · rw [Below.heap_setCell _ _ _ _ e, h.block k hk, Below.heap_setCell _ _ _ _ e]
/-- behind a lock taken, whatever was done and the lock given back: what was not touched is as it was -/
theorem unlock_block {w w3 : World} {b o : Nat} {c : Array Value} {t : TypeId} {v : Value} (hb : Blk w b c t) (hc : c[o]? = some mu0) {p : Nat → Prop} (h3 : ∀ k, p k → w3.heap[k]? = (w.setCell ⟨b, o, none⟩ v).heap[k]?) (k : Nat) (hk : p k) :
    (w3.setCell ⟨b, o, none⟩ mu0).heap[k]? = w.heap[k]? := by
  by_cases e : k = b
  · subst e
    have h1 : Blk (w3.setCell ⟨k, o, none⟩ mu0) k ((c.setIfInBounds o v).setIfInBounds o mu0) t := ((hb.set o v).of_eq (h3 k hk)).set o mu0
    have h2 : Blk ((w.setCell ⟨k, o, none⟩ v).setCell ⟨k, o, none⟩ mu0) k ((c.setIfInBounds o v).setIfInBounds o mu0) t := (hb.set o v).set o mu0
    have h4 := (lock_round hb hc v).heap
    rw [show (w3.setCell ⟨k, o, none⟩ mu0).heap[k]? = _ from h1, ← show ((w.setCell ⟨k, o, none⟩ v).setCell ⟨k, o, none⟩ mu0).heap[k]? = _ from h2, h4]
  · rw [Below.heap_setCell _ _ _ _ e, h3 k hk, Below.heap_setCell _ _ _ _ e]
theorem blk_ne_map {w : World} {P : Program} {t t' : TypeId} {b k : Nat} {c : Array Value} {f : Lit → Option Value} (h : Blk w b c t) (hm : MapF w P t' k f) : b ≠ k := by
  rintro rfl
  obtain ⟨n, D, ⟨es, clock, hb, _⟩, _⟩ := hm
  have : w.heap[b]? = some (.cells c t (0, 0)) := h
  rw [this] at hb
  cases hb

section
variable {w : World}

set_option maxRecDepth 100000 in
set_option maxHeartbeats 800000 in
theorem kPrepare (pb kb vb : Nat) (f : Lit → Option Value) (hb : Blk w pb #[mu0, sem0, .map (some kb), .map (some vb)] 129) (hM : MapF w Try.prog 3 kb f) (L : List Lit) (hL : ∀ kl, f kl ≠ none → kl ∈ L) (hn : L.length < maxLen)
    (n : Int) (h1 : -9223372036854775808 ≤ n) (h2 : n ≤ 9223372036854775807) (iv : Value) :
    Calls Try.prog 54 #[ptr pb, .int .i64 n, iv] w fun e w' => e = .returned (.tuple #[]) ∧ MapF w' Try.prog 3 kb (upd f (.int .i64 n) iv) ∧ But w w' kb := by
  have c0 : w.cell? ⟨pb, 0, none⟩ = some (.int .i32 0) := hb.cell (o := 0) rfl
  have c2 : w.cell? ⟨pb, 2, none⟩ = some (.map (some kb)) := hb.cell (o := 2) rfl
  have f0 := hb.frozen 0
  have hne := blk_ne_map hb hM
  have hM1 : ∀ v, MapF (w.setCell ⟨pb, 0, none⟩ v) Try.prog 3 kb f := fun v => hM.of_eq (Below.heap_setCell _ _ _ _ (fun e => hne e.symm))
  unfold ptr
  go_enter_defers Try.func54, Try.ntmps54
  go_wp2_with (first | (go_at_call 49; refine (lock_free Try.muLib ⟨pb, 0, none⟩ _ c0 f0).mono ?_; rintro e w' ⟨rfl, rfl⟩) | (at_mapUpdate; refine wpList_updF _ rfl _ _ _ 126 rfl 3 36 keyInt Try.underlying126 kb f rfl (hM1 _) L hL hn _ _ (.int .i64 n) rfl rfl (keyOf_int h1 h2) ?_; intro w1 hM2 hT))
  have hB := But.of_turned hT
  have hb1 : Blk w1 pb _ 129 := (hb.set 0 (.int .i32 1)).of_eq (hB.block pb hne)
  refine leaves_cons (f := 50) (args := #[.pointer (some ⟨pb, 0, none⟩)]) (by simp) (by simp [go_sem]) ?_
  refine (unlock_deferred Try.muLib ⟨pb, 0, none⟩ .returning _ (hb1.cell (o := 0) rfl) (hb1.frozen 0)).mono ?_
  rintro e u' w'' ⟨rfl, rfl, rfl⟩
  exact ⟨_, results_none rfl _ _ _, rfl, hM2.of_eq (Below.heap_setCell _ _ _ _ (fun e => hne e.symm)), But.locked hb rfl _ hB hne⟩

set_option maxRecDepth 100000 in
set_option maxHeartbeats 800000 in
theorem kDrop (pb kb vb : Nat) (f : Lit → Option Value) (hb : Blk w pb #[mu0, sem0, .map (some kb), .map (some vb)] 129) (hM : MapF w Try.prog 3 kb f)
    (n : Int) (h1 : -9223372036854775808 ≤ n) (h2 : n ≤ 9223372036854775807) :
    Calls Try.prog 57 #[ptr pb, .int .i64 n] w fun e w' => e = .returned (.tuple #[]) ∧ MapF w' Try.prog 3 kb (del f (.int .i64 n)) ∧ But w w' kb := by
  have c0 : w.cell? ⟨pb, 0, none⟩ = some (.int .i32 0) := hb.cell (o := 0) rfl
  have c2 : w.cell? ⟨pb, 2, none⟩ = some (.map (some kb)) := hb.cell (o := 2) rfl
  have f0 := hb.frozen 0
  have hne := blk_ne_map hb hM
  have hM1 : ∀ v, MapF (w.setCell ⟨pb, 0, none⟩ v) Try.prog 3 kb f := fun v => hM.of_eq (Below.heap_setCell _ _ _ _ (fun e => hne e.symm))
  unfold ptr
  go_enter_defers Try.func57, Try.ntmps57
  go_wp2_with (first | (go_at_call 49; refine (lock_free Try.muLib ⟨pb, 0, none⟩ _ c0 f0).mono ?_; rintro e w' ⟨rfl, rfl⟩) | (at_delete; refine wpList_delF _ rfl _ _ 126 3 rfl 36 keyInt Try.underlying126 kb f rfl (hM1 _) _ (.int .i64 n) rfl (keyOf_int h1 h2) ?_; intro w1 hM2 hT))
  have hB := But.of_turned hT
  have hb1 : Blk w1 pb _ 129 := (hb.set 0 (.int .i32 1)).of_eq (hB.block pb hne)
  refine leaves_cons (f := 50) (args := #[.pointer (some ⟨pb, 0, none⟩)]) (by simp) (by simp [go_sem]) ?_
  refine (unlock_deferred Try.muLib ⟨pb, 0, none⟩ .returning _ (hb1.cell (o := 0) rfl) (hb1.frozen 0)).mono ?_
  rintro e u' w'' ⟨rfl, rfl, rfl⟩
  exact ⟨_, results_none rfl _ _ _, rfl, hM2.of_eq (Below.heap_setCell _ _ _ _ (fun e => hne e.symm)), But.locked hb rfl _ hB hne⟩

end
end Go.Proofs.Ytmmhiahggnmhhaa
