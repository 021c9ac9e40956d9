/-
  The program: Part, find, shareOn.
-/
import Derived.Test.YtmmhiahggnmhhaaRep
namespace Go.Proofs.Ytmmhiahggnmhhaa
open Go Go.RowKit Go.MuLone
open Go.Maps (Keyed)

theorem keyInt : Keyed Try.prog 3 := Maps.int_keyed Try.underlying3
theorem keyStr : Keyed Try.prog 9 := Maps.string_keyed Try.underlying9
theorem wf_int {n : Int} (h : -9223372036854775808 ≤ n) (h' : n ≤ 9223372036854775807) : (Lit.int .i64 n).wf = true := WalkArith.wf_i64 ⟨h, h'⟩
theorem keyOf_int {n : Int} (h : -9223372036854775808 ≤ n) (h' : n ≤ 9223372036854775807) : keyOf Try.prog 3 (.int .i64 n) = some (.int .i64 n) := Maps.keyOf_int_mk Try.underlying3 (wf_int h h')
theorem keyOf_str {s : ByteArray} (h : s.size ≤ maxLen) : keyOf Try.prog 9 (.string s) = some (.string s.data.toList) := WideMaps.keyOf_string_mk Try.underlying9 h
theorem zeroWPtr (w : World) : (zeroValue 66).run Try.prog w = .ok (.pointer none) w := by kernel_rfl
theorem zeroShPtr (w : World) : (zeroValue 115).run Try.prog w = .ok (.pointer none) w := by kernel_rfl
theorem zeroItems (w : World) : (zeroValue 36).run Try.prog w = .ok (.slice none 0 0) w := by kernel_rfl
theorem zeroInt (w : World) : (zeroValue 3).run Try.prog w = .ok (.int .i64 0) w := by kernel_rfl

section
variable {w : World} {τ : Nat → Tag} {sid b : Nat} {s : MS} {A : SA}

theorem RepS.cParr (h : RepS w τ sid b s A) : ∃ a cap, A.parr = .slice a s.parts cap ∧ w.cell? ⟨b, 1, none⟩ = some (.slice a s.parts cap) := by
  obtain ⟨a, cap, hv⟩ := row_len h.parr
  exact ⟨a, cap, hv, by rw [← hv]; exact h.blk.cell (o := 1) rfl⟩

set_option maxHeartbeats 400000 in
theorem pPart (h : RepS w τ sid b s A) (k : ByteArray) (hk : k.size ≤ maxLen) :
    Calls Try.prog 9 #[ptr b, .string k] w fun e w' => e = .returned (.tuple #[.int .i64 (if goodKey k then partOf s.parts k else 0), .int .i64 (if goodKey k then 0 else 4)]) ∧ Below w.heap.size w w' := by
  have c := isKey_any k w hk
  have hp4 := h.ok.p4
  have hp1 := h.ok.p1
  unfold ptr
  cases hg : goodKey k with
  | true =>
    have hsz : 1 ≤ k.size ∧ k.size ≤ 8 := by simpa [goodKey] using hg
    obtain ⟨a, cap, _, cP⟩ := h.cParr
    have cp := partOf_any b s.parts a cap k w (by omega) (by omega) (by omega) cP
    unfold ptr at cp
    rw [hg] at c
    clear hg
    go_enter Try.func9, Try.ntmps9
    go_wp2_with fail
    refine c.mono ?_
    rintro e w' ⟨rfl, rfl⟩
    go_wp2_with fail
    refine cp.mono ?_
    rintro e w' ⟨rfl, hB⟩
    go_wp2_with fail
    go_ret2
    exact ⟨rfl, hB⟩
  | false =>
    rw [hg] at c
    clear hg
    go_enter Try.func9, Try.ntmps9
    go_wp2_with fail
    refine c.mono ?_
    rintro e w' ⟨rfl, rfl⟩
    go_wp2_with fail
    go_ret2
    exact ⟨rfl, Below.refl _ _⟩

/-- what find answers -/
def findVal (s : MS) (A : SA) (n : Int) : Value × Bool := match mFind s n with
  | some _ => (ptr (A.pw (n - 1).toNat), true)
  | none => (.pointer none, false)

set_option maxRecDepth 100000 in
set_option maxHeartbeats 800000 in
theorem find_any (h : RepS w τ sid b s A) (n : Int) (hn : -9223372036854775808 ≤ n) (hn' : n ≤ 9223372036854775807) :
    Calls Try.prog 31 #[ptr b, .int .i64 n] w fun e w' => e = .returned (.tuple #[(findVal s A n).1, .bool (findVal s A n).2]) ∧ Same w w' := by
  have c2 : w.cell? ⟨b, 2, none⟩ = some (.int .i32 0) := h.blk.cell (o := 2) rfl
  have c5 : w.cell? ⟨b, 5, none⟩ = some (.map (some A.wm)) := h.blk.cell (o := 5) rfl
  have f2 := h.blk.frozen 2
  have hM : ∀ v, MapF (w.setCell ⟨b, 2, none⟩ v) Try.prog 3 A.wm (writesF s A) := fun v => h.wmap.of_eq (Below.heap_setCell _ _ _ _ (fun e => by have := h.wmTag; rw [e, h.tag] at this; simp at this))
  have hSame := lock_round h.blk (o := 2) rfl (.int .i32 1)
  unfold mu0 at hSame
  obtain ⟨fv, hfv, hval⟩ : ∃ fv, writesF s A (.int .i64 n) = fv ∧ (findVal s A n).1 = fv.getD (.pointer none) ∧ (findVal s A n).2 = fv.isSome := by
    refine ⟨_, rfl, ?_⟩
    unfold writesF findVal
    cases hf : mFind s n <;> simp only [hf] <;> exact ⟨rfl, rfl⟩
  rw [hval.1, hval.2]
  unfold ptr
  go_enter_defers Try.func31, Try.ntmps31
  go_wp2_with (first | (go_at_call 49; refine (lock_free Try.muLib ⟨b, 2, none⟩ _ c2 f2).mono ?_; rintro e w' ⟨rfl, rfl⟩) | (at_lookup; refine wpList_lookF_ok _ rfl _ _ 95 rfl 3 66 keyInt Try.underlying95 (zeroWPtr _) A.wm (writesF s A) rfl (hM _) _ (.int .i64 n) rfl (keyOf_int hn hn') fv hfv ?_))
  refine leaves_cons (f := 50) (args := #[.pointer (some ⟨b, 2, none⟩)]) (by simp) (by simp [go_sem]) ?_
  refine (unlock_deferred Try.muLib ⟨b, 2, none⟩ .returning _ ?_ ?_).mono ?_
  · exact World.cell?_setCell_same w ⟨b, 2, none⟩ (.int .i32 1) c2
  · simp [f2]
  rintro e u' w'' ⟨rfl, rfl, rfl⟩
  exact ⟨_, results_tmp2 rfl _ _ _, rfl, hSame⟩

/-- what shareOn answers -/
def shareVal (s : MS) (A : SA) (i : Nat) (m : MW) (p : Int) : Value × Int := if onPart s.parts m.items p = true then (ptr (A.sh i p.toNat), 0) else (.pointer none, 8)
theorem ret_share {v v' : Value} {a b : Int} (h : (v, a) = (v', b)) : Ending.returned (.tuple #[v, .int .i64 a]) = .returned (.tuple #[v', .int .i64 b]) := by cases h; rfl

set_option maxRecDepth 100000 in
set_option maxHeartbeats 800000 in
theorem shareOn_any (pw sm : Nat) (i : Nat) (m : MW) (p : Int) (w : World) (hp : -9223372036854775808 ≤ p) (hp' : p ≤ 9223372036854775807) (c3 : w.cell? ⟨pw, 3, none⟩ = some (.bool false)) (c4 : w.cell? ⟨pw, 4, none⟩ = some (.map (some sm))) (hM : MapF w Try.prog 3 sm (sharesF s A i m)) :
    Calls Try.prog 53 #[ptr pw, .int .i64 p] w fun e w' => e = .returned (.tuple #[(shareVal s A i m p).1, .int .i64 (shareVal s A i m p).2]) ∧ w' = w := by
  unfold ptr
  cases ho : onPart s.parts m.items p with
  | true =>
    have hfv : sharesF s A i m (.int .i64 p) = some (.pointer (some ⟨A.sh i p.toNat, 0, none⟩)) := by simp only [sharesF, ho, if_true]; rfl
    have Hr : Hid (shareVal s A i m p = (.pointer (some ⟨A.sh i p.toNat, 0, none⟩), 0)) := by unfold Hid shareVal; rw [ho]; rfl
    clear ho
    go_enter Try.func53, Try.ntmps53
    go_wp2_with (at_lookup; refine wpList_lookF_ok _ rfl _ _ 112 rfl 3 115 keyInt Try.underlying112 (zeroShPtr _) sm (sharesF s A i m) rfl hM _ (.int .i64 p) rfl (keyOf_int hp hp') _ hfv ?_)
    go_ret2
    exact ⟨ret_share Hr.out.symm, rfl⟩
  | false =>
    have hfv : sharesF s A i m (.int .i64 p) = none := by simp [sharesF, ho]
    have Hr : Hid (shareVal s A i m p = (.pointer none, 8)) := by unfold Hid shareVal; rw [ho]; rfl
    clear ho
    go_enter Try.func53, Try.ntmps53
    go_wp2_with (at_lookup; refine wpList_lookF_ok _ rfl _ _ 112 rfl 3 115 keyInt Try.underlying112 (zeroShPtr _) sm (sharesF s A i m) rfl hM _ (.int .i64 p) rfl (keyOf_int hp hp') _ hfv ?_)
    go_ret2
    exact ⟨ret_share Hr.out.symm, rfl⟩

end
end Go.Proofs.Ytmmhiahggnmhhaa
