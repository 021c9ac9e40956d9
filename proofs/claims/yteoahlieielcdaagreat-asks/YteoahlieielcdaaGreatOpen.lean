/-
  The script, opened: the steps as they lie in memory, out of the reading of the argument.
-/
import Derived.Test.YteoahlieielcdaaGreatRows
import Derived.Test.YteoahlieielcdaaGreatLaw9
import Derived.ProofKit
import Derived.OpenShut
import Derived.JoinedCond
import Derived.Deep.SlicePairs
import Derived.Deep.Strs
namespace Go.Proofs.YteoahlieielcdaaGreat
open Go Go.ChangeShapes Go.WideShapes Go.ChangeAt Go.RowKit Go.Deep

theorem cellsOp : Tryz.prog.cellsOf 86 = 7 := by kernel_rfl
theorem cellsItm : Tryz.prog.cellsOf 70 = 2 := by kernel_rfl
theorem cellsInt : Tryz.prog.cellsOf 3 = 1 := by kernel_rfl
theorem cellsStr : Tryz.prog.cellsOf 9 = 1 := by kernel_rfl
theorem cellsIts : Tryz.prog.cellsOf 68 = 1 := by kernel_rfl
theorem cellsKys : Tryz.prog.cellsOf 38 = 1 := by kernel_rfl

section
variable {H : Type} {enc : TypeId × Value → H} {W : World}

/-- each slice is weighed, at whatever depth -/
def Light (t : TypeId) (d : DataW H) : Prop := ∀ n ∈ d.weights Tryz.prog t, n ≤ reachBytes
theorem light_all {e : TypeId} {l : List (DataW H)} : ∀ {d : DataW H} {n : Nat}, d ∈ l → n ∈ d.weights Tryz.prog e → n ∈ DataW.weightsAll Tryz.prog e l := by
  induction l with
  | nil => intro d n h; cases h
  | cons x r ih =>
    intro d n h hn
    simp only [DataW.weightsAll, List.mem_append]
    rcases List.mem_cons.1 h with rfl | h'
    · exact Or.inl hn
    · exact Or.inr (ih h' hn)
theorem bytesOp : Tryz.prog.bytesOf 86 = 96 := by kernel_rfl
theorem bytesStr : Tryz.prog.bytesOf 9 = 16 := by kernel_rfl
theorem bytesItm : Tryz.prog.bytesOf 70 = 32 := by kernel_rfl

/-- a list of items, opened -/
theorem open_items {n : Nat} {v : Value} {y : DataW H × List MemPlace} (h : DataW.trod enc Tryz.prog W 0 (fun _ => true) true n 68 [v] = some y) (hw : Light 68 y.1) :
    ∃ ia L cap, v = .slice ia L.length cap ∧ ItemsAt W ia L ∧ sizesOk L ∧ L.length * 32 ≤ reachBytes := by
  rcases open_slice_pairs Tryz.underlying68 Tryz.underlying70 cellsItm rfl rfl cellsStr cellsStr h with ⟨hc, rfl⟩ | ⟨a, len, cap, m, k, V0, V1, D0, D1, P0, P1, hc, _, hl, hm, hmm, rfl, hall⟩
  · simp only [List.cons.injEq, and_true] at hc
    exact ⟨none, [], 0, hc, fun k x hx => (by simp at hx), fun x hx => (by simp at hx), by simp⟩
  · simp only [List.cons.injEq, and_true] at hc
    simp only [if_true] at hmm
    have hlm : len ≤ m := by omega
    have hstr : ∀ i, i < len → ∃ q : KV, V0 i = .string q.1 ∧ V1 i = .string q.2 ∧ q.1.size ≤ maxLen ∧ q.2.size ≤ maxLen := fun i hi => by
      obtain ⟨_, _, t0, t1⟩ := hall i (by omega)
      obtain ⟨s0, h1, _, h3⟩ := DataW.trod_string Tryz.underlying9 t0
      obtain ⟨s1, g1, _, g3⟩ := DataW.trod_string Tryz.underlying9 t1
      simp only [List.cons.injEq, and_true] at h1 g1
      exact ⟨(s0, s1), h1, g1, h3, g3⟩
    have hst2 : ∃ f : Nat → KV, ∀ i, i < len → V0 i = .string (f i).1 ∧ V1 i = .string (f i).2 ∧ (f i).1.size ≤ maxLen ∧ (f i).2.size ≤ maxLen := choose_lt (α := KV) hstr
    obtain ⟨f, hf⟩ := hst2
    refine ⟨some a, (List.range len).map f, cap, by simpa using hc, fun j x hx => ?_, fun x hx => ?_, ?_⟩
    · have hj : j < len := by have := (List.getElem?_eq_some_iff.1 hx).1; simpa using this
      have hx' : x = f j := by simpa [hj] using hx.symm
      subst hx'
      obtain ⟨c0, c1, _, _⟩ := hall j (by omega)
      obtain ⟨e0, e1, _, _⟩ := hf j hj
      obtain ⟨b, o, spot⟩ := a
      have hspot : spot = none := by simpa [Addr.add] using World.cell?_spot (hall 0 (by omega)).1
      subst hspot
      rw [e0, Go.Proofs.YteoahlieielcdaaGreat.add_plain] at c0
      rw [e1, Go.Proofs.YteoahlieielcdaaGreat.add_plain] at c1
      exact ⟨b, o, rfl, c0, by rw [Nat.add_assoc]; exact c1⟩
    · obtain ⟨i, hi, rfl⟩ := List.mem_map.1 hx
      obtain ⟨_, _, g1, g2⟩ := hf i (List.mem_range.1 hi)
      exact ⟨g1, g2⟩
    · have h1 := hw ((len + (m - len)) * 32) (by simp only [DataW.weights, Tryz.underlying68, List.length_map, List.length_range, bytesItm]; exact List.mem_cons_self)
      simp only [List.length_map, List.length_range]
      exact Nat.le_trans (Nat.mul_le_mul_right 32 (by omega)) h1

/-- a list of texts, opened -/
theorem open_texts {n : Nat} {v : Value} {y : DataW H × List MemPlace} (h : DataW.trod enc Tryz.prog W 0 (fun _ => true) true n 38 [v] = some y) (hw : Light 38 y.1) :
    ∃ ia L cap, v = .slice ia L.length cap ∧ TextsAt W ia L ∧ sizesK L ∧ L.length * 16 ≤ reachBytes := by
  rcases open_strs Tryz.underlying38 Tryz.underlying9 cellsStr h with ⟨hc, rfl⟩ | ⟨a, len, cap, m, Sx, hc, _, hl, hm, hmm, rfl, hall⟩
  · simp only [List.cons.injEq, and_true] at hc
    exact ⟨none, [], 0, hc, fun k x hx => (by simp at hx), fun x hx => (by simp at hx), by simp⟩
  · simp only [List.cons.injEq, and_true] at hc
    simp only [if_true] at hmm
    refine ⟨some a, (List.range len).map Sx, cap, by simpa using hc, fun j x hx => ?_, fun x hx => ?_, ?_⟩
    · have hj : j < len := by have := (List.getElem?_eq_some_iff.1 hx).1; simpa using this
      have hx' : x = Sx j := by simpa [hj] using hx.symm
      subst hx'
      obtain ⟨c0, _⟩ := hall j (by omega)
      obtain ⟨b, o, spot⟩ := a
      have hspot : spot = none := by simpa [Addr.add] using World.cell?_spot (hall 0 (by omega)).1
      subst hspot
      rw [Go.Proofs.YteoahlieielcdaaGreat.add_plain] at c0
      exact ⟨b, o, rfl, c0⟩
    · obtain ⟨i, hi, rfl⟩ := List.mem_map.1 hx
      exact (hall i (by have := List.mem_range.1 hi; omega)).2
    · have h1 := hw ((len + (m - len)) * 16) (by simp only [DataW.weights, Tryz.underlying38, List.length_map, List.length_range, bytesStr]; exact List.mem_cons_self)
      simp only [List.length_map, List.length_range]
      exact Nat.le_trans (Nat.mul_le_mul_right 16 (by omega)) h1

set_option maxRecDepth 100000 in
/-- one step, opened out of its seven cells -/
theorem open_op {n : Nat} {cs : List Value} {y : DataW H × List MemPlace} (h : DataW.trod enc Tryz.prog W 0 (fun _ => true) true n 86 cs = some y) (hw : Light 86 y.1) :
    ∃ x : Op1, cs = [.int .i64 x.kd, .int .i64 x.on, .int .i64 x.A, .int .i64 x.B, .string x.s, .slice x.ia x.L.length x.cap, .slice x.ka x.Kn.length x.kcap] ∧ OpOk W x := by
  obtain ⟨xs, k, _, rfl, hl, hxl, hf⟩ := DataW.trod_struct Tryz.underlying86 h
  rw [cellsOp] at hl
  match cs, hl, xs, hxl with
  | [v0, v1, v2, v3, v4, v5, v6], _, [y0, y1, y2, y3, y4, y5, y6], _ =>
    have g0 := hf 0 _ rfl
    have g1 := hf 1 _ rfl
    have g2 := hf 2 _ rfl
    have g3 := hf 3 _ rfl
    have g4 := hf 4 _ rfl
    have g5 := hf 5 _ rfl
    have g6 := hf 6 _ rfl
    simp [cellsInt, cellsStr, cellsIts, cellsKys] at g0 g1 g2 g3 g4 g5 g6
    obtain ⟨kd, h0, _, _⟩ := DataW.trod_int Tryz.underlying3 g0
    obtain ⟨on, h1, _, w1⟩ := DataW.trod_int Tryz.underlying3 g1
    obtain ⟨A, h2, _, w2⟩ := DataW.trod_int Tryz.underlying3 g2
    obtain ⟨B, h3, _, w3⟩ := DataW.trod_int Tryz.underlying3 g3
    obtain ⟨s, h4, _, w4⟩ := DataW.trod_string Tryz.underlying9 g4
    have hw5 : Light 68 y5.1 := fun n hn => hw n (by
      simp only [DataW.weights, Tryz.underlying86]
      exact DataW.weights_mem_each (j := 5) (t := 68) (d := y5.1) rfl rfl n hn)
    obtain ⟨ia, L, cap, h5, hI, hz, hlen⟩ := open_items g5 hw5
    have hw6 : Light 38 y6.1 := fun n hn => hw n (by
      simp only [DataW.weights, Tryz.underlying86]
      exact DataW.weights_mem_each (j := 6) (t := 38) (d := y6.1) rfl rfl n hn)
    obtain ⟨ka, Kn, kcap, h6, hKI, hKz, hKlen⟩ := open_texts g6 hw6
    simp only [List.cons.injEq, and_true] at h0 h1 h2 h3 h4
    subst h0 h1 h2 h3 h4 h5 h6
    have hl5 : L.length ≤ 4398046511099 := by unfold reachBytes at hlen; omega
    have hl6 : Kn.length ≤ 8796093021952 := by unfold reachBytes at hKlen; omega
    simp [Lit.wf, IntKind.min, IntKind.max, IntKind.signed, IntKind.bits] at w1 w2 w3
    refine ⟨{ kd := kd, on := on, A := A, B := B, s := s, ia := ia, L := L, cap := cap, ka := ka, Kn := Kn, kcap := kcap }, rfl, ⟨w1.1, w1.2, w2.1, w2.2, w3.1, w3.2, w4, hl5, hz, hI, fun ib io e => ?_, hl6, hKz, hKI, fun ib io e => ?_⟩⟩
    rotate_left
    · obtain ⟨e1, e2⟩ := e
      simp only at e1 e2
      subst e1
      have hpos : 0 < Kn.length := List.length_pos_iff.2 e2
      have hx : Kn[0]? = some Kn[0] := List.getElem?_eq_getElem hpos
      obtain ⟨ib', io', e3, c0⟩ := hKI 0 _ hx
      cases e3
      exact World.block_lt_of_cell? W _ c0
    obtain ⟨e1, e2⟩ := e
    simp only at e1 e2
    subst e1
    have hpos : 0 < L.length := List.length_pos_iff.2 e2
    have hx : L[0]? = some L[0] := List.getElem?_eq_getElem hpos
    obtain ⟨ib', io', e3, c0, _⟩ := hI 0 _ hx
    cases e3
    exact World.block_lt_of_cell? W _ c0

/-- THE SCRIPT, OPENED -/
theorem open_ops {a0 : Option Addr} {len cap : Nat} {d : DataW H} {p : List MemPlace} (h : DataW.Trod enc Tryz.prog W 0 (fun _ => true) true 22 (.slice a0 len cap) d p) (hw : Light 22 d) :
    ∃ ops : List Op1, ops.length = len ∧ ops.length ≤ 1500000000000 ∧ OpsAt W a0 ops ∧ ∀ x ∈ ops, OpOk W x := by
  obtain ⟨n, h⟩ := h
  rcases open_slice Tryz.underlying22 (cs := [.slice a0 len cap]) h with ⟨hc, _⟩ | ⟨a, len', cap', m, n', D, Pl, hc, _, hl, hm, hmm, hx, hall⟩
  · simp only [List.cons.injEq, and_true, Value.slice.injEq] at hc
    obtain ⟨rfl, rfl, rfl⟩ := hc
    exact ⟨[], rfl, Nat.zero_le _, fun i x hx => (by simp at hx), fun x hx => (by simp at hx)⟩
  · simp only [List.cons.injEq, and_true, Value.slice.injEq] at hc
    obtain ⟨rfl, rfl, rfl⟩ := hc
    simp only [if_true] at hmm
    simp only [Prod.mk.injEq] at hx
    obtain ⟨rfl, _⟩ := hx
    rw [cellsOp] at hall
    have hlen : len ≤ 1500000000000 := by
      have h1 := hw ((len + (m - len)) * 96) (by simp only [DataW.weights, Tryz.underlying22, List.length_map, List.length_range, bytesOp]; exact List.mem_cons_self)
      unfold reachBytes at h1
      omega
    have each : ∀ i, i < len → ∃ x : Op1, (W.cells? 0 (a.add (i * 7)) 7 = some [.int .i64 x.kd, .int .i64 x.on, .int .i64 x.A, .int .i64 x.B, .string x.s, .slice x.ia x.L.length x.cap, .slice x.ka x.Kn.length x.kcap]) ∧ OpOk W x := fun i hi => by
      obtain ⟨cs', h1, h2⟩ := hall i (by omega)
      have hb : Light 86 (D i) := fun n hn => hw n (by
        simp only [DataW.weights, Tryz.underlying22, List.mem_cons, List.mem_append]
        exact Or.inr (Or.inl (light_all (List.mem_map.2 ⟨i, List.mem_range.2 hi, rfl⟩) hn)))
      obtain ⟨x, rfl, hok⟩ := open_op h2 hb
      exact ⟨x, h1, hok⟩
    have : Inhabited Op1 := ⟨{ kd := 0, on := 0, A := 0, B := 0, s := ByteArray.empty, ia := none, L := [], cap := 0, ka := none, Kn := [], kcap := 0 }⟩
    obtain ⟨f, hf⟩ := choose_lt each
    refine ⟨(List.range len).map f, by simp, by simpa using hlen, fun i x hx => ?_, fun x hx => ?_⟩
    · have hi : i < len := by have := (List.getElem?_eq_some_iff.1 hx).1; simpa using this
      have hx' : x = f i := by simpa [hi] using hx.symm
      subst hx'
      obtain ⟨_, _, hcell⟩ := World.cells?_some (hf i hi).1
      obtain ⟨b, o, spot⟩ := a
      have hspot : spot = none := by
        obtain ⟨_, _, hc0⟩ := World.cells?_some (hf 0 (by omega)).1
        simpa [Addr.add] using World.cell?_spot (hc0 0 (by omega))
      subst hspot
      have k0 := hcell 0 (by omega)
      have k1 := hcell 1 (by omega)
      have k2 := hcell 2 (by omega)
      have k3 := hcell 3 (by omega)
      have k4 := hcell 4 (by omega)
      have k5 := hcell 5 (by omega)
      have k6 := hcell 6 (by omega)
      rw [Go.Proofs.YteoahlieielcdaaGreat.add_plain, Go.Proofs.YteoahlieielcdaaGreat.add_plain] at k0 k1 k2 k3 k4 k5 k6
      exact ⟨b, o, rfl, World.block_lt_of_cell? W _ k0, k0, k1, k2, k3, k4, k5, k6⟩
    · obtain ⟨i, hi, rfl⟩ := List.mem_map.1 hx
      exact (hf i (List.mem_range.1 hi)).2

end
end Go.Proofs.YteoahlieielcdaaGreat
