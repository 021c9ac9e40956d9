/-
  A map in memory as a function from keys to values, whatever the values are. No program is named here.
-/
import Derived.Test.YteoahlieielcdaaGreatBase
import Derived.Maps.OwnSet
import Derived.Maps.RangeWalk
namespace Go.Proofs.YteoahlieielcdaaGreat
open Go Go.RowKit
open Go.Maps (Keyed)

/-- an element is read as it stands -/
def rawElem (v : Value) : Option (DataW Value × List MemPlace) := some (.held v, [])
/-- the datum D holds just what f says -/
def Says (D : DataW Value) (f : Lit → Option Value) : Prop := (∀ kl v, f kl = some v → ∀ z, D.atKey kl z = .held v) ∧ ∀ kl, Maps.has D kl = (f kl).isSome
/-- BLOCK b IS A MAP THAT HOLDS JUST WHAT f SAYS. -/
def MapF (w : World) (P : Program) (k : TypeId) (b : Nat) (f : Lit → Option Value) : Prop := ∃ n D, w.ownsMap P k rawElem b n D ∧ Says D f

def upd (f : Lit → Option Value) (kl : Lit) (v : Value) : Lit → Option Value := fun k => if k.sameKey kl = true then some v else f k
def del (f : Lit → Option Value) (kl : Lit) : Lit → Option Value := fun k => if k.sameKey kl = true then none else f k

section
variable {P : Program} {k : TypeId} {w : World} {b : Nat} {f : Lit → Option Value}

theorem MapF.made (w : World) (P : Program) (k : TypeId) : MapF (w.alloc (.map #[] 0)) P k w.heap.size (fun _ => none) :=
  ⟨0, _, World.ownsMap_made w P k rawElem, ⟨fun _ _ h => (nomatch h), fun _ => rfl⟩⟩
theorem MapF.lt (h : MapF w P k b f) : b < w.heap.size := by obtain ⟨n, D, h, _⟩ := h; exact h.lt
theorem MapF.of_eq (h : MapF w P k b f) {w' : World} (e : w'.heap[b]? = w.heap[b]?) : MapF w' P k b f := by
  obtain ⟨n, D, ⟨es, clock, hb, r⟩, hs⟩ := h
  exact ⟨n, D, ⟨es, clock, e.trans hb, r⟩, hs⟩
theorem MapF.congr (h : MapF w P k b f) {g : Lit → Option Value} (e : ∀ kl, f kl = g kl) : MapF w P k b g := by
  have : f = g := funext e
  rw [← this]; exact h
theorem same_self {kl : Lit} (hk : WideAt.IsKeyLit kl) : kl.sameKey kl = true := by
  cases kl <;> simp_all [Lit.sameKey, WideAt.IsKeyLit]
theorem upd_same {kl : Lit} (hk : WideAt.IsKeyLit kl) (f : Lit → Option Value) (v : Value) : upd f kl v kl = some v := by simp [upd, same_self hk]
theorem upd_other {kl k' : Lit} (hk : k' ≠ kl) (f : Lit → Option Value) (v : Value) : upd f kl v k' = f k' := by simp [upd, Maps.sameKey_ne hk]
theorem del_same {kl : Lit} (hk : WideAt.IsKeyLit kl) (f : Lit → Option Value) : del f kl kl = none := by simp [del, same_self hk]
theorem del_other {kl k' : Lit} (hk : k' ≠ kl) (f : Lit → Option Value) : del f kl k' = f k' := by simp [del, Maps.sameKey_ne hk]
theorem Says.put {D : DataW Value} (h : Says D f) (hm : Maps.IsMap D) {kl : Lit} (hk : WideAt.IsKeyLit kl) (v : Value) : Says (D.put kl (.held v)) (upd f kl v) := by
  refine ⟨fun k' v' hv z => ?_, fun k' => ?_⟩
  · by_cases e : k' = kl
    · subst e; rw [upd_same hk] at hv; cases hv; exact Maps.atKey_put_same hm hk _ _
    · rw [upd_other e] at hv; rw [Maps.atKey_put_other e]; exact h.1 k' v' hv z
  · by_cases e : k' = kl
    · subst e; rw [Maps.has_put_same hm hk, upd_same hk]; rfl
    · rw [Maps.has_put_other e, upd_other e]; exact h.2 k'
theorem Says.del {D : DataW Value} (h : Says D f) {kl : Lit} (hk : WideAt.IsKeyLit kl) : Says (D.del kl) (del f kl) := by
  refine ⟨fun k' v' hv z => ?_, fun k' => ?_⟩
  · by_cases e : k' = kl
    · subst e; rw [del_same hk] at hv; cases hv
    · rw [del_other e] at hv; rw [Maps.atKey_del_other e]; exact h.1 k' v' hv z
  · by_cases e : k' = kl
    · subst e; rw [Maps.has_del_same, del_same hk]; rfl
    · rw [Maps.has_del_other e, del_other e]; exact h.2 k'

/-- 'v, ok := m[k]' -/
theorem MapF.look_ok (h : MapF w P k b f) {t e : TypeId} (K : Keyed P k) (ht : P.underlying t = some (.map k e)) {z : Value} (hz : (zeroValue e).run P w = .ok z w) {key : Value} {kl : Lit} (hkey : keyOf P k key = some kl) :
    (Instr.lookup t (.map (some b)) key true).run P w = .ok (.tuple #[(f kl).getD z, .bool (f kl).isSome]) w := by
  obtain ⟨n, D, h, hs⟩ := h
  obtain ⟨v, ps, hrun, hv⟩ := h.look_ok K ht hz (zd := .held z) (zp := []) rfl hkey
  rw [hrun, hs.2 kl]
  have : v = (f kl).getD z := by
    simp only [rawElem, Option.some.injEq, Prod.mk.injEq] at hv
    cases hf : f kl with
    | none =>
      have h0 := hs.2 kl
      rw [hf] at h0
      rw [Maps.atKey_of_not_has h0] at hv
      have := hv.1
      injection this
    | some u =>
      rw [hs.1 kl u hf] at hv
      have := hv.1
      injection this
  rw [this]
/-- 'm[k]' -/
theorem MapF.look (h : MapF w P k b f) {t e : TypeId} (K : Keyed P k) (ht : P.underlying t = some (.map k e)) {z : Value} (hz : (zeroValue e).run P w = .ok z w) {key : Value} {kl : Lit} (hkey : keyOf P k key = some kl) :
    (Instr.lookup t (.map (some b)) key false).run P w = .ok ((f kl).getD z) w := by
  obtain ⟨n, D, h, hs⟩ := h
  obtain ⟨v, ps, hrun, hv⟩ := h.lookup K ht hz (zd := .held z) (zp := []) rfl hkey
  rw [hrun]
  have : v = (f kl).getD z := by
    simp only [rawElem, Option.some.injEq, Prod.mk.injEq] at hv
    cases hf : f kl with
    | none =>
      have h0 := hs.2 kl
      rw [hf] at h0
      rw [Maps.atKey_of_not_has h0] at hv
      have := hv.1
      injection this
    | some u =>
      rw [hs.1 kl u hf] at hv
      have := hv.1
      injection this
  rw [this]
/-- a list without repeats within another is no longer -/
theorem length_within {α : Type} : ∀ (l L : List α), l.Pairwise (fun a b => a ≠ b) → (∀ x ∈ l, x ∈ L) → l.length ≤ L.length
  | [], _, _, _ => Nat.zero_le _
  | x :: r, L, hp, hs => by
    obtain ⟨hx, hr⟩ := List.pairwise_cons.1 hp
    obtain ⟨A, B, rfl⟩ := List.append_of_mem (hs x (List.mem_cons_self ..))
    have := length_within r (A ++ B) hr (fun y hy => by
      have h1 := hs y (List.mem_cons_of_mem _ hy)
      simp only [List.mem_append, List.mem_cons] at h1 ⊢
      rcases h1 with h1 | h1 | h1
      · exact Or.inl h1
      · exact absurd h1.symm (hx y hy)
      · exact Or.inr h1)
    simp at this ⊢
    omega
/-- A MAP HAS NO MORE ENTRIES THAN THERE ARE KEYS THAT IT MAY HOLD. -/
theorem tight {D : DataW Value} {n : Nat} (h : w.ownsMap P k rawElem b n D) (K : Keyed P k) (hs : Says D f) {L : List Lit} (hL : ∀ kl, f kl ≠ none → kl ∈ L) : w.ownsMap P k rawElem b L.length D := by
  have ht := h.entries K
  obtain ⟨es, clock, hb, F, hn, hD⟩ := h
  refine ⟨es, clock, hb, F, ?_, hD⟩
  obtain ⟨es', hD', hp, hks⟩ := ht
  have e1 : es.size = es'.length := by
    rw [hD'] at hD
    injection hD with hD
    rw [hD, length_sorted]; simp
  rw [e1, ← List.length_map (f := Prod.fst)]
  refine length_within _ _ (List.pairwise_map.2 hp) (fun kl hkl => hL kl (fun e => ?_))
  have h2 := hs.2 kl
  rw [e] at h2
  obtain ⟨p, hp', rfl⟩ := List.mem_map.1 hkl
  have hk := hks p hp'
  have : Maps.has D p.1 = true := by
    rw [hD', Maps.has_eq, List.any_eq_true]
    exact ⟨p, hp', same_self hk⟩
  rw [this] at h2
  cases h2

/-- 'm[k] = v' -/
theorem MapF.store (h : MapF w P k b f) {t e : TypeId} (K : Keyed P k) (ht : P.underlying t = some (.map k e)) (L : List Lit) (hL : ∀ kl, f kl ≠ none → kl ∈ L) (hn : L.length < maxLen) {key : Value} {kl : Lit} (hkey : keyOf P k key = some kl) (v : Value) :
    ∃ w', (Instr.mapUpdate t (.map (some b)) key v).run P w = .ok () w' ∧ MapF w' P k b (upd f kl v) ∧ w.mapTurned w' b := by
  obtain ⟨n, D, h, hs⟩ := h
  obtain ⟨w', hrun, h', ht'⟩ := (tight h K hs hL).store K ht hn (d := .held v) (ps := []) hkey rfl
  exact ⟨w', hrun, ⟨_, _, h', hs.put h.isMap (K.key hkey) v⟩, ht'⟩
/-- 'delete(m, k)' -/
theorem MapF.drop (h : MapF w P k b f) {t e : TypeId} (K : Keyed P k) (ht : P.underlying t = some (.map k e)) {key : Value} {kl : Lit} (hkey : keyOf P k key = some kl) (ty : TypeId) :
    ∃ w', (Builtin.delete_ #[t, k] ty #[.map (some b), key]).run P w = .ok (.tuple #[]) w' ∧ MapF w' P k b (del f kl) ∧ w.mapTurned w' b := by
  obtain ⟨n, D, h, hs⟩ := h
  obtain ⟨w', hrun, h', ht'⟩ := h.drop K ht hkey ty
  exact ⟨w', hrun, ⟨_, _, h', hs.del (K.key hkey)⟩, ht'⟩

theorem turned_size {w w' : World} {b : Nat} (h : w.mapTurned w' b) : w'.heap.size = w.heap.size := by
  obtain ⟨es, clock, es', clock', hb, rfl⟩ := h
  simp [ChangeMaps.setBlock]
theorem turned_other {w w' : World} {b : Nat} (h : w.mapTurned w' b) {k : Nat} (hk : k ≠ b) : w'.heap[k]? = w.heap[k]? := by
  obtain ⟨es, clock, es', clock', hb, rfl⟩ := h
  exact ChangeMaps.heap_setBlock_other hb _ hk

end

section
variable {P : Program} (w : World) {ops : Array Oper} {rest : List Oper} {o : Oper} {a : Act} {Q : Exit → Act → World → Prop}

theorem wpList_lookF_ok (hg : o.guard = none) (m x : Operand) (t : TypeId) (hop : o.op = Op.lookup t m x true)
    (k e : TypeId) (K : Keyed P k) (ht : P.underlying t = some (.map k e)) {z : Value} (hz : (zeroValue e).run P w = .ok z w) (b : Nat) (f : Lit → Option Value)
    (hm : a.eval m = .map (some b)) (hown : MapF w P k b f) (key : Value) (kl : Lit) (hx : a.eval x = key) (hkey : keyOf P k key = some kl) (fv : Option Value) (hf : f kl = fv)
    (hK : wpList P ops Q rest (a.put o.dst (.tuple #[fv.getD z, .bool fv.isSome])) w) :
    wpList P ops Q (o :: rest) a w := by
  refine wpList_plain hg fun K' hK' => ?_
  have hrun := hown.look_ok K ht hz hkey
  rw [hf] at hrun
  unfold Oper.wp
  simp [execOp, hop, hm, hx, hrun, Result.andThen]
  exact hK' _ _ hK
theorem wpList_lookF (hg : o.guard = none) (m x : Operand) (t : TypeId) (hop : o.op = Op.lookup t m x false)
    (k e : TypeId) (K : Keyed P k) (ht : P.underlying t = some (.map k e)) {z : Value} (hz : (zeroValue e).run P w = .ok z w) (b : Nat) (f : Lit → Option Value)
    (hm : a.eval m = .map (some b)) (hown : MapF w P k b f) (key : Value) (kl : Lit) (hx : a.eval x = key) (hkey : keyOf P k key = some kl) (fv : Option Value) (hf : f kl = fv)
    (hK : wpList P ops Q rest (a.put o.dst (fv.getD z)) w) :
    wpList P ops Q (o :: rest) a w := by
  refine wpList_plain hg fun K' hK' => ?_
  have hrun := hown.look K ht hz hkey
  rw [hf] at hrun
  unfold Oper.wp
  simp [execOp, hop, hm, hx, hrun, Result.andThen]
  exact hK' _ _ hK
theorem wpList_updF (hg : o.guard = none) (m x v : Operand) (t : TypeId) (hop : o.op = Op.mapUpdate t m x v)
    (k e : TypeId) (K : Keyed P k) (ht : P.underlying t = some (.map k e)) (b : Nat) (f : Lit → Option Value)
    (hm : a.eval m = .map (some b)) (hown : MapF w P k b f) (L : List Lit) (hL : ∀ kl, f kl ≠ none → kl ∈ L) (hn : L.length < maxLen) (key val : Value) (kl : Lit) (hx : a.eval x = key) (hv : a.eval v = val) (hkey : keyOf P k key = some kl)
    (hK : ∀ w', MapF w' P k b (upd f kl val) → w.mapTurned w' b → wpList P ops Q rest (a.put o.dst undef) w') :
    wpList P ops Q (o :: rest) a w := by
  refine wpList_plain hg fun K' hK' => ?_
  obtain ⟨w', hrun, r1, r2⟩ := hown.store K ht L hL hn hkey val
  unfold Oper.wp
  simp [execOp, hop, hm, hx, hv, hrun, Result.andThen]
  exact hK' _ _ (hK w' r1 r2)
theorem wpList_delF (hg : o.guard = none) (m x : Operand) (t k : TypeId) (hop : o.op = Op.call { callee := Callee.builtin Builtin.delete, args := #[m, x], argTypes := #[t, k] })
    (e : TypeId) (K : Keyed P k) (ht : P.underlying t = some (.map k e)) (b : Nat) (f : Lit → Option Value)
    (hm : a.eval m = .map (some b)) (hown : MapF w P k b f) (key : Value) (kl : Lit) (hx : a.eval x = key) (hkey : keyOf P k key = some kl)
    (hK : ∀ w', MapF w' P k b (del f kl) → w.mapTurned w' b → wpList P ops Q rest (a.put o.dst (.tuple #[])) w') :
    wpList P ops Q (o :: rest) a w := by
  refine wpList_plain hg fun K' hK' => ?_
  obtain ⟨w', hrun, r1, r2⟩ := hown.drop K ht hkey o.type
  unfold Oper.wp
  simp [execOp, hop, resolve, invoke, builtin, hm, hx, hrun, Result.andThen]
  exact hK' _ _ (hK w' r1 r2)

end
#print axioms wpList_delF
end Go.Proofs.YteoahlieielcdaaGreat
