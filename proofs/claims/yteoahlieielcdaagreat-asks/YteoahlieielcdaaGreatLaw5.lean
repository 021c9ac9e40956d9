/-
  The builtin copy over elements of several cells; a list that is made with room behind.
-/
import Derived.Test.YteoahlieielcdaaGreatLaw3
import Derived.Laws.CopyOwn
namespace Go.Proofs.YteoahlieielcdaaGreat
open Go Go.RowKit

/-- copy, from one slice to the head of a row that is known whole: elements of 'size' cells -/
theorem run_copy_sized {P : Program} (w : World) (dT sT ty elem : TypeId) (size g dLen dCap : Nat) (sp : Option Addr) (sLen sCap : Nat) (cur : Array Value) (t : TypeId) (cs : List Value)
    (hu : P.underlying dT = some (.slice elem)) (hs : (P.info? elem).map (·.size) = some size)
    (hg : w.heap[g]? = some (.cells cur t (0, 0))) (hn : cs.length = Nat.min sLen dLen * size)
    (hpos : 0 < cs.length → ∃ ad, sp = some ad ∧ ∀ j v, cs[j]? = some v → w.cell? (ad.add j) = some v) (hfit : cs.length ≤ cur.size) (h1 : ∀ v ∈ cs, v.oneCell' = true) :
    (Builtin.copy_ #[dT, sT] ty #[.slice (some ⟨g, 0, none⟩) dLen dCap, .slice sp sLen sCap]).run P w =
      .ok (goInt (Nat.min sLen dLen)) (w.setRow g (cs ++ cur.toList.drop cs.length).toArray) := by
  have hst := run_storeCells_at P g 0 t cs 0 cur w hg (by simpa using hfit) h1
  simp only [Nat.add_zero, Nat.zero_add, List.take_zero, List.nil_append] at hst
  cases hq : P.info? elem with
  | none => simp [hq] at hs
  | some i =>
    have hi : i.size = size := by simpa [hq] using hs
    cases sp with
    | some ad =>
      have hsrc : ∀ j v, cs[j]? = some v → w.cell? (ad.add j) = some v := by
        intro j v hj
        obtain ⟨ad', e, r⟩ := hpos (by have := (List.getElem?_eq_some_iff.1 hj).1; omega)
        cases e
        exact r j v hj
      have hl := run_loadCells_list (P := P) w ad cs hsrc
      simp [Builtin.copy_, run_underlying hu, Builtin.lenOf, Builtin.firstCells, sizeOf, typeInfo, hq, hi, ← hn, hl, hst]
    | none =>
      have h0 : cs = [] := by
        apply List.eq_nil_of_length_eq_zero
        by_cases e : cs.length = 0
        · exact e
        · obtain ⟨ad', e, r⟩ := hpos (by omega)
          cases e
      subst h0
      simp only [List.length_nil, List.drop_zero, List.nil_append] at hst ⊢
      simp [Builtin.copy_, run_underlying hu, Builtin.lenOf, Builtin.firstCells, sizeOf, typeInfo, hq, hst]

theorem wpList_copy_sized {P : Program} {w : World} {ops : Array Oper} {rest : List Oper} {o : Oper} {a : Act} {Q : Exit → Act → World → Prop} (hgd : o.guard = none) (d s : Operand) (dT sT : TypeId)
    (ho : o.op = .call { callee := .builtin .copy, args := #[d, s], argTypes := #[dT, sT] }) (elem : TypeId) (size : Nat) (hu : P.underlying dT = some (.slice elem)) (hsz : (P.info? elem).map (·.size) = some size)
    (g dLen dCap : Nat) (sp : Option Addr) (sLen sCap : Nat) (hd : a.eval d = .slice (some ⟨g, 0, none⟩) dLen dCap) (hs : a.eval s = .slice sp sLen sCap)
    (cur : Array Value) (t : TypeId) (hg : w.heap[g]? = some (.cells cur t (0, 0))) (cs : List Value) (hn : cs.length = Nat.min sLen dLen * size)
    (hpos : 0 < cs.length → ∃ ad, sp = some ad ∧ ∀ j v, cs[j]? = some v → w.cell? (ad.add j) = some v) (hfit : cs.length ≤ cur.size) (h1 : ∀ v ∈ cs, v.oneCell' = true)
    (h : ∀ w', Blk w' g (cs ++ cur.toList.drop cs.length).toArray t → Below g w w' → wpList P ops Q rest (a.put o.dst (goInt (Nat.min sLen dLen))) w') : wpList P ops Q (o :: rest) a w := by
  refine wpList_plain hgd fun K hK => ?_
  have hrun := run_copy_sized (P := P) w dT sT o.type elem size g dLen dCap sp sLen sCap cur t cs hu hsz hg hn hpos hfit h1
  unfold Oper.wp
  simp only [execOp, ho, resolve, invoke, builtin, Sem.run_bind, Sem.run_pure, Result.andThen_ok, List.map_toArray, List.map_cons, List.map_nil, hd, hs, hrun]
  exact hK _ _ (h _ (setRow_heap w g _ _ t _ hg) ⟨rfl, rfl, rfl, by simp [World.setRow], fun k hk => setRow_other w g k _ (by omega)⟩)

theorem infoItemX : (Tryz.prog.info? 70).map (fun i => (i.zero, i.size, i.bytes)) = some (some (.agg #[.string ByteArray.empty, .string ByteArray.empty]), 2, 32) := by kernel_rfl
theorem sizeItem : (Tryz.prog.info? 70).map (·.size) = some 2 := by
  obtain ⟨i, hi, _, h2, _⟩ := info_parts infoItemX
  rw [hi]; simp [h2]

theorem items_room (n : Nat) (hn : n ≤ 4398046511104) (W : World) : ∃ M : Array Value, M.size = (n + 5) * 2 ∧ (Instr.makeSlice 68 (.int .i64 ((n : Int) + 5)) (.int .i64 ((n : Int) + 5))).run Tryz.prog W = .ok (.slice (some ⟨W.heap.size, 0, none⟩) (n + 5) (n + 5)) (W.alloc (.cells M 70)) := by
  obtain ⟨i, hi, hz0, hz1, hz2⟩ := info_parts infoItemX
  have h := run_make (P := Tryz.prog) W 68 70 i _ Tryz.underlying68 hi hz0 .i64 .i64 ((n : Int) + 5) ((n : Int) + 5) (by omega) (by omega) (by rw [hz2]; omega) (by omega)
  have e : ((n : Int) + 5).toNat = n + 5 := by omega
  rw [e, hz1] at h
  exact ⟨_, size_madeCells _ _, h⟩

/-- a list of items in cells, with five behind it -/
structure AllAt (arr : Array Value) (L : List KV) (k5 : Nat) : Prop where
  size : arr.size = (L.length + 5) * 2
  head : ∀ (k : Nat) (x : KV), L[k]? = some x → arr[k * 2]? = some (.string x.1) ∧ arr[k * 2 + 1]? = some (.string x.2)
  tail : ∀ j, j < k5 → arr[(L.length + j) * 2]? = some (.string ⟨#[98, 101, 104, 105, 110, 100]⟩) ∧ arr[(L.length + j) * 2 + 1]? = some (.string ⟨#[105, 116]⟩)

theorem kvCells_len (L : List KV) : (kvCells L).length = L.length * 2 := by
  induction L with
  | nil => rfl
  | cons x r ih => simp [kvCells] at ih ⊢; omega
theorem kvCells_two {L : List KV} {k : Nat} {x : KV} (h : L[k]? = some x) : (kvCells L)[k * 2]? = some (.string x.1) ∧ (kvCells L)[k * 2 + 1]? = some (.string x.2) := by
  induction L generalizing k with
  | nil => simp at h
  | cons y r ih =>
    cases k with
    | zero => simp at h; subst h; simp [kvCells]
    | succ k =>
      have := ih (k := k) (by simpa using h)
      rw [show (k + 1) * 2 = k * 2 + 2 by omega]
      simpa [kvCells] using this
theorem kvCells_which {L : List KV} {j : Nat} {v : Value} (h : (kvCells L)[j]? = some v) : ∃ k x, L[k]? = some x ∧ ((j = k * 2 ∧ v = .string x.1) ∨ (j = k * 2 + 1 ∧ v = .string x.2)) := by
  have hl := (List.getElem?_eq_some_iff.1 h).1
  rw [kvCells_len] at hl
  have hx : L[j / 2]? = some L[j / 2] := List.getElem?_eq_getElem (by omega)
  obtain ⟨c1, c2⟩ := kvCells_two hx
  refine ⟨j / 2, _, hx, ?_⟩
  by_cases e : j % 2 = 0
  · left
    have ej : j = j / 2 * 2 := by omega
    rw [← ej, h] at c1
    exact ⟨ej, by simpa using c1⟩
  · right
    have ej : j = j / 2 * 2 + 1 := by omega
    rw [← ej, h] at c2
    exact ⟨ej, by simpa using c2⟩

theorem AllAt.start (L : List KV) (cur : Array Value) (hc : cur.size = (L.length + 5) * 2) : AllAt (kvCells L ++ cur.toList.drop (kvCells L).length).toArray L 0 := by
  refine ⟨?_, fun k x hx => ?_, fun j hj => by omega⟩
  · simp [kvCells_len, hc]; omega
  · have hl := (List.getElem?_eq_some_iff.1 hx).1
    obtain ⟨c1, c2⟩ := kvCells_two hx
    constructor
    · rw [List.getElem?_toArray, List.getElem?_append_left (by rw [kvCells_len]; omega)]; exact c1
    · rw [List.getElem?_toArray, List.getElem?_append_left (by rw [kvCells_len]; omega)]; exact c2
theorem AllAt.next {arr : Array Value} {L : List KV} {k : Nat} (h : AllAt arr L k) (hk : k < 5) : AllAt ((arr.setIfInBounds ((L.length + k) * 2) (.string ⟨#[98, 101, 104, 105, 110, 100]⟩)).setIfInBounds ((L.length + k) * 2 + 1) (.string ⟨#[105, 116]⟩)) L (k + 1) := by
  have hs := h.size
  refine ⟨by simp [hs], fun j x hx => ?_, fun j hj => ?_⟩
  · have hl := (List.getElem?_eq_some_iff.1 hx).1
    obtain ⟨c1, c2⟩ := h.head j x hx
    constructor
    · rw [Array.getElem?_setIfInBounds_ne (by omega), Array.getElem?_setIfInBounds_ne (by omega)]; exact c1
    · rw [Array.getElem?_setIfInBounds_ne (by omega), Array.getElem?_setIfInBounds_ne (by omega)]; exact c2
  · by_cases e : j = k
    · subst e
      constructor
      · rw [Array.getElem?_setIfInBounds_ne (by omega), Array.getElem?_setIfInBounds_self_of_lt (by omega)]
      · rw [Array.getElem?_setIfInBounds_self_of_lt (by simp; omega)]
    · obtain ⟨c1, c2⟩ := h.tail j (by omega)
      constructor
      · rw [Array.getElem?_setIfInBounds_ne (by omega), Array.getElem?_setIfInBounds_ne (by omega)]; exact c1
      · rw [Array.getElem?_setIfInBounds_ne (by omega), Array.getElem?_setIfInBounds_ne (by omega)]; exact c2
theorem AllAt.items {arr : Array Value} {L : List KV} {k : Nat} (h : AllAt arr L k) {w : World} {b : Nat} (hb : Blk w b arr 70) : ItemsAt w (some ⟨b, 0, none⟩) L := fun j x hx =>
  ⟨b, 0, rfl, by rw [Nat.zero_add]; exact hb.cell (h.head j x hx).1, by rw [Nat.zero_add]; exact hb.cell (h.head j x hx).2⟩
theorem ItemsAt.keep {w w' : World} {a : Option Addr} {L : List KV} (h : ItemsAt w a L) (hk : ∀ ib io, a = some ⟨ib, io, none⟩ ∧ L ≠ [] → w'.heap[ib]? = w.heap[ib]?) : ItemsAt w' a L := by
  intro k x hx
  obtain ⟨ib, io, e, c1, c2⟩ := h k x hx
  have e' := And.intro e (show L ≠ [] from fun h0 => by subst h0; simp at hx)
  exact ⟨ib, io, e, (World.cell?_of_block (hk ib io e')).trans c1, (World.cell?_of_block (hk ib io e')).trans c2⟩
theorem LS.congr {w : World} {τ : Nat → Tag} {a a' : LA} {S R : List MS} (h : LS w τ a S R) (h1 : a'.sB = a.sB) (h2 : a'.rB = a.rB) : LS w τ a' S R :=
  ⟨fun i m hm => by rw [h1]; exact h.s i m hm, fun i m hm => by rw [h2]; exact h.r i m hm⟩

end Go.Proofs.YteoahlieielcdaaGreat
