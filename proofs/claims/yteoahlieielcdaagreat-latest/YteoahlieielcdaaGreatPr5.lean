/-
  The program: anyAt: a range over a write's parts.
-/
import Derived.Test.YteoahlieielcdaaGreatPr4
namespace Go.Proofs.YteoahlieielcdaaGreat
open Go Go.RowKit Go.MuLone
open Go.Maps (Keyed)

/-- THE STEP OF A RANGE over a map by numbers whose elements lead to blocks. -/
theorem wpList_nextF {P : Program} (w : World) {ops : Array Oper} {rest : List Oper} {o : Oper} {a : Act} {Q : Exit → Act → World → Prop} (hg : o.guard = none) (it : Operand) (hop : o.op = Op.next it false) (k : TypeId) (K : Keyed P k) (hk : P.underlying k = some (.int .i64))
    (b r n : Nat) (D : DataW Value) (f : Lit → Option Value) (hs : Says D f) (g : Int → Nat) (p : Int → Prop) (hf : ∀ x u, f (.int .i64 x) = some u → u = .pointer (some ⟨g x, 0, none⟩) ∧ p x) (left : Lit → Bool) (cnt : Nat)
    (hit : a.eval it = .pointer (some ⟨r, 0, none⟩)) (h : w.ranges P k rawElem b r n D left cnt)
    (hDone : (∀ kl, left kl = false) → wpList P ops Q rest (a.put o.dst (.tuple #[.bool false])) w)
    (hMore : ∀ (x : Int) (w' : World) (cnt' : Nat), p x → left (.int .i64 x) = true → w'.ranges P k rawElem b r n D (fun z => left z && !z.sameKey (.int .i64 x)) cnt' → cnt' < cnt → w.grownBy w' (some r) → w'.heap.size = w.heap.size →
      (Instr.entry (.pointer (some ⟨r, 0, none⟩))).run P w' = .ok (.tuple #[.int .i64 x, .pointer (some ⟨g x, 0, none⟩)]) w' → wpList P ops Q rest (a.put o.dst (.tuple #[.bool true, .int .i64 x, .pointer (some ⟨g x, 0, none⟩)])) w') :
    wpList P ops Q (o :: rest) a w := by
  refine wpList_plain hg fun K' hK' => ?_
  unfold Oper.wp
  rcases h.next K o.type with ⟨h0, hl, hrun⟩ | ⟨key, v, kl, y, w', cnt', hkey, hlk, hv, hat, hrun, hrg, hlt, hgr, hsz, hen⟩
  · simp [execOp, hop, hit, hrun, Result.andThen]
    exact hK' _ _ (hDone hl)
  · obtain ⟨x, rfl, rfl, _⟩ := Maps.keyOf_int_inv hk hkey
    simp only [rawElem, Option.some.injEq] at hv
    subst hv
    have hh := Maps.has_true_of_atKey hat
    rw [hs.2] at hh
    obtain ⟨u, hu⟩ := Option.isSome_iff_exists.1 hh
    have e1 := (hs.1 _ u hu .nil).symm.trans (hat .nil)
    injection e1 with e1
    subst e1
    obtain ⟨rfl, hp⟩ := hf x _ hu
    simp [execOp, hop, hit, hrun, Result.andThen]
    exact hK' _ _ (hMore x w' cnt' hp hlk hrg hlt hgr hsz hen)

/-- is a write, on some of its parts, at this stage? -/
def anyStage (s : MS) (m : MW) (at_ : Int) : Bool := (List.range s.parts).any (fun q => onPart s.parts m.items q && (stageOf m q == at_))
theorem anyStage_true {s : MS} {m : MW} {c : Int} {q : Nat} (hq : q < s.parts) (ho : onPart s.parts m.items q = true) (h : stageOf m q = c) : anyStage s m c = true := by
  simp only [anyStage, List.any_eq_true, List.mem_range]
  exact ⟨q, hq, by simp [ho, h]⟩
theorem anyStage_false {s : MS} {m : MW} {c : Int} (h : ∀ q, q < s.parts → onPart s.parts m.items q = true → stageOf m q ≠ c) : anyStage s m c = false := by
  simp only [anyStage, List.any_eq_false, List.mem_range]
  intro q hq
  cases ho : onPart s.parts m.items q
  · simp
  · simpa using h q hq ho

section
variable {w : World} {τ : Nat → Tag} {sid b : Nat} {s : MS} {A : SA}

set_option maxRecDepth 100000 in
set_option maxHeartbeats 1000000 in
theorem anyAt_any (i : Nat) (m : MW) (c : Int) (hp1 : 1 ≤ s.parts) (c4 : w.cell? ⟨A.pw i, 5, none⟩ = some (.map (some (A.sm i)))) (hM : MapF w Tryz.prog 3 (A.sm i) (sharesF s A i m))
    (hS : ∀ q : Nat, q < s.parts → onPart s.parts m.items q = true → w.cell? ⟨A.sh i q, 1, none⟩ = some (.int .i64 (stageOf m q))) :
    Calls Tryz.prog 89 #[ptr (A.pw i), .int .i64 c] w fun e w' => e = .returned (.bool (anyStage s m c)) ∧ Below w.heap.size w w' := by
  obtain ⟨n, D, hown, hs⟩ := hM
  have hf : ∀ x u, sharesF s A i m (.int .i64 x) = some u → u = .pointer (some ⟨A.sh i x.toNat, 0, none⟩) ∧ (0 ≤ x ∧ x < s.parts ∧ onPart s.parts m.items x = true) := by
    intro x u hu
    simp only [sharesF] at hu
    split at hu
    · rename_i ho
      cases hu
      exact ⟨rfl, (onPart_bd (by omega) ho).1, (onPart_bd (by omega) ho).2, ho⟩
    · cases hu
  have h0 : ∀ q : Nat, q < s.parts → onPart s.parts m.items q = true → Maps.has D (.int .i64 q) = true := by
    intro q hq ho
    rw [hs.2]
    simp [sharesF, ho]
  unfold ptr
  go_enter Tryz.func89, Tryz.ntmps89
  go_wp2_with (at_range; refine wpList_range_own _ rfl _ 162 rfl 3 168 keyInt Tryz.underlying162 rawElem (A.sm i) n D rfl hown ?_; intro w0 hrg0 hg0 hs0)
  go_frame
  go_loopw [6] (fun _ wr => ∃ left cnt, wr.ranges Tryz.prog 3 rawElem (A.sm i) w.heap.size n D left cnt ∧ Below w.heap.size w wr ∧ w.heap.size < wr.heap.size ∧ Hid (∀ q : Nat, q < s.parts → onPart s.parts m.items q = true → left (.int .i64 q) = true ∨ stageOf m q ≠ c)) (fun _ wr => wr.rangeLeft (A.sm i) w.heap.size)
  case atStart =>
    exact ⟨_, _, hrg0, (Below.refl _ _).grown hg0 (Nat.le_refl _) (fun k e => by cases e), by omega, fun q hq ho => Or.inl (h0 q hq ho)⟩
  case round =>
    obtain ⟨left, cnt, hrg, hB, hsz, HL⟩ := hrel
    go_wp2_with (at_next; refine wpList_nextF _ rfl _ rfl 3 keyInt Tryz.underlying3 (A.sm i) w.heap.size n D (sharesF s A i m) hs (fun x => A.sh i x.toNat) _ hf left cnt rfl hrg ?_ ?_)
    · intro hl0
      have Hr : Hid (anyStage s m c = false) := anyStage_false (fun q hq ho => by
        rcases HL.out q hq ho with e | e
        · rw [hl0] at e; cases e
        · exact e)
      clear hl0
      go_wp2_with fail
      go_ret
      exact ⟨ret_bool Hr.out.symm, hB⟩
    · intro x w1 cnt1 hx0 hx1 hxo hlx hrg1 hlt hg1 hs1 hen
      obtain ⟨q, rfl⟩ := Int.eq_ofNat_of_zero_le hx0
      simp only [Int.toNat_natCast] at hen ⊢
      have hq : q < s.parts := by omega
      have hB1 : Below w.heap.size w w1 := hB.grown hg1 (by omega) (fun k e => by cases e; exact Nat.le_refl _)
      have cq := hS q hq hxo
      have cq1 : w1.cell? ⟨A.sh i q, 1, none⟩ = some (.int .i64 (stageOf m q)) := (hB1.cell (p := ⟨A.sh i q, 1, none⟩) (World.block_lt_of_cell? w _ cq)).trans cq
      have hsz1 : w.heap.size < w1.heap.size := by omega
      clear cq hlx
      by_cases he : stageOf m q = c
      · have Hr : Hid (anyStage s m c = true) := anyStage_true hq hxo he
        have heb : (stageOf m q == c) = true := beq_iff_eq.2 he
        clear he hxo
        go_wp2_with fail
        go_ret
        exact ⟨ret_bool Hr.out.symm, hB1⟩
      · have HL' : Hid (∀ q' : Nat, q' < s.parts → onPart s.parts m.items q' = true → (left (.int .i64 q') && !(Lit.int .i64 q').sameKey (.int .i64 q)) = true ∨ stageOf m q' ≠ c) := by
          intro q' hq' ho'
          by_cases e : q' = q
          · subst e; exact Or.inr he
          · rcases HL.out q' hq' ho' with e1 | e1
            · refine Or.inl ?_
              rw [e1, Maps.sameKey_ne (by intro e2; injection e2 with _ e2; omega)]
              rfl
            · exact Or.inr e1
        have heb : (stageOf m q == c) = false := beq_eq_false_iff_ne.2 he
        clear he hxo
        go_wp2_with fail
        go_roundw
        case rel => exact ⟨_, _, hrg1, hB1, hsz1, HL'⟩
        case measure => rw [hrg1.left_eq, hrg.left_eq]; omega

end
end Go.Proofs.YteoahlieielcdaaGreat
