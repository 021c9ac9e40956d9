/-
  The statements without the document's answer: commits.
-/
import Derived.Test.YteoahlieielcdaaGreatL3
namespace Go.Proofs.YteoahlieielcdaaGreat
open Go Go.RowKit Go.MuLone

/-- a write of the statement's: its number, its keys, where it is committed -/
def knCells (n : Int) (kv : Value) (f : Nat → Bool) : Array Value := #[.int .i64 n, kv, .bool (f 0), .bool (f 1), .bool (f 2), .bool (f 3)]
theorem knCells_at {n : Int} {kv : Value} {f : Nat → Bool} {p : Nat} (hp : p < 4) : (knCells n kv f)[2 + p]? = some (.bool (f p)) := by
  match p, hp with
  | 0, _ => rfl
  | 1, _ => rfl
  | 2, _ => rfl
  | 3, _ => rfl
theorem knCells_put {n : Int} {kv : Value} {f : Nat → Bool} {p : Nat} (hp : p < 4) : (knCells n kv f).setIfInBounds (2 + p) (.bool true) = knCells n kv (put f p) := by
  match p, hp with
  | 0, _ => simp [knCells, put]
  | 1, _ => simp [knCells, put]
  | 2, _ => simp [knCells, put]
  | 3, _ => simp [knCells, put]

/-- the store, a write being committed on a part -/
def cmS (s : MS) (n : Int) (m : MW) (p : Nat) : MS := setW s n { m with comm := put m.comm p }

theorem mFind_get {s : MS} {n : Int} {m : MW} (h : mFind s n = some m) : s.ws[(n - 1).toNat]? = some m ∧ m.canc = false ∧ 1 ≤ n ∧ n ≤ s.ws.length := by
  unfold mFind at h
  split at h
  · cases h
  · rename_i hb
    split at h
    · rename_i m' hm
      split at h
      · cases h
      · rename_i hc
        cases h
        exact ⟨hm, by simpa using hc, by omega, by omega⟩
    · cases h
theorem cm_commit {s : MS} {n : Int} {m : MW} {p : Nat} (hf : mFind s n = some m) (ho : onPart s.parts m.items p = true) (ha : allPrep s.parts m = true) : mCommit s n p = (if m.comm p then 10 else 0, cmS s n m p) := by
  unfold mCommit
  rw [hf]
  simp only [ho, ha, Bool.true_eq_false, if_false, Int.toNat_natCast]
  cases hc : m.comm p with
  | true =>
    have e1 : put m.comm p = m.comm := by funext q; unfold put; split <;> simp_all
    have : cmS s n m p = s := by
      unfold cmS setW
      rw [e1]
      have := (mFind_get hf).1
      obtain ⟨hk, hm⟩ := List.getElem?_eq_some_iff.1 this
      have e2 : s.ws.set (n - 1).toNat m = s.ws := by rw [← hm]; simp
      show { s with ws := s.ws.set (n - 1).toNat m } = s
      rw [e2]
    simp [this]
  | false => simp [cmS]

section
variable {w : World} {τ : Nat → Tag} {sb : Nat} {s : MS} {A : SA}

set_option maxRecDepth 100000 in
set_option maxHeartbeats 8000000 in
theorem commits_any (hR : RepS w τ 2 sb s A) (xb kb : Nat) (X : Array Value) (hX : Blk w xb X 32) (hX0 : X[0]? = some (ptr sb)) (hxt : (τ xb).1 ≠ 2) (n : Nat) (hn : n ≤ 1000) (kv : Value) (f : Nat → Bool) (hK : Blk w kb (knCells n kv f) 48) (hkt : (τ kb).1 ≠ 2)
    (key : ByteArray) (hg : goodKey key = true) (p : Nat) (hp : partOf s.parts key = p) {m : MW} (hf : mFind s n = some m) (ho : onPart s.parts m.items p = true) (ha : allPrep s.parts m = true) (hmf : m.comm p = f p) :
    Calls Tryz.prog 20 #[ptr xb, ptr kb, .string key] w fun e w' => ∃ A' w1, e = .returned (.bool true) ∧ RepS w1 τ 2 sb (cmS s n m p) A' ∧ Stp 2 τ w τ w1 ∧ w' = w1.setCell ⟨kb, 2 + p, none⟩ (.bool true) := by
  have hp1 := hR.ok.p1
  have hp4 := hR.ok.p4
  obtain ⟨q1, q2⟩ := partOf_bd (s.parts : Int) key (by omega)
  have hpP : p < 4 := by omega
  have hkz := goodKey_size hg
  have cp := pPart hR key (by unfold maxLen; omega)
  rw [hg, hp] at cp
  simp only [if_true] at cp
  have hCM := cm_commit hf ho ha
  rw [hmf] at hCM
  have HCM : Hid (mCommit s n p = (if f p then 10 else 0, cmS s n m p)) := hCM
  have HR : Hid (RepS w τ 2 sb s A) := hR
  have HX : Hid (Blk w xb X 32) := hX
  have HK : Hid (Blk w kb (knCells n kv f) 48) := hK
  have x0 : w.cell? ⟨xb, 0, none⟩ = some (.pointer (some ⟨sb, 0, none⟩)) := hX.cell hX0
  have HX0 : Hid (X[0]? = some (.pointer (some ⟨sb, 0, none⟩))) := hX0
  unfold ptr at cp ⊢
  clear hR hf ho ha hmf hCM hp q1 q2 hg hX hK hX0
  go_enter Tryz.func20, Tryz.ntmps20
  go_wp2_with fail
  refine cp.mono ?_
  rintro e w1 ⟨rfl, hB1⟩
  clear cp x0
  have hR1 := HR.out.below hB1
  have hS1 : Stp 2 τ w τ w1 := stp_below hB1
  have hx1 : Blk w1 xb X 32 := HX.out.of_eq (hB1.block xb HX.out.lt)
  have hk1 : Blk w1 kb (knCells n kv f) 48 := HK.out.of_eq (hB1.block kb HK.out.lt)
  have x1 : w1.cell? ⟨xb, 0, none⟩ = some (.pointer (some ⟨sb, 0, none⟩)) := hx1.cell HX0.out
  have k1 : w1.cell? ⟨kb, 0, none⟩ = some (.int .i64 (n : Int)) := hk1.cell (o := 0) rfl
  have hR1d : RepS w1.drew τ 2 sb s A := hR1.below ((Below.refl w1.heap.size w1).drew)
  have c2 := pCommit hR1d (n : Int) (p : Int) (by omega) (by omega) (by omega) (by omega)
  rw [HCM.out] at c2
  unfold ptr at c2
  have HS1 : Hid (Stp 2 τ w τ w1) := hS1
  have HX1 : Hid (Blk w1 xb X 32) := hx1
  have HK1 : Hid (Blk w1 kb (knCells n kv f) 48) := hk1
  have hxl := hx1.lt
  have hkl := hk1.lt
  clear hR1 hR1d hS1 hx1 hk1 hB1
  cases hfp : f p with
  | true =>
    rw [hfp] at c2
    simp only [if_true] at c2
    have HFP : Hid (f p = true) := hfp
    clear hfp
    go_wp2_with fail
    go_region_held3 (fun W => W.cell? ⟨xb, 0, none⟩ = some (.pointer (some ⟨sb, 0, none⟩)) ∧ W.cell? ⟨kb, 0, none⟩ = some (.int .i64 (n : Int))) (simp [*]) ((go_at_call 28; refine c2.mono ?_; rintro e w3 ⟨A3, rfl, hR3, hP3⟩; have hx3 := HX1.out.of_eq (hP3.block xb hxl hxt); have hk3 := HK1.out.of_eq (hP3.block kb hkl hkt); have y1 := hx3.cell HX0.out; have y2 := hk3.cell (o := 0) (v := .int .i64 (n : Int)) rfl))
    have on3 := hk3.cell (knCells_at hpP)
    have fz3 := hk3.frozen (2 + p)
    rw [HFP.out] at on3
    have HR3 : Hid (RepS w3 τ 2 sb (cmS s n m p) A3) := hR3
    have HS3 : Hid (Stp 2 τ w τ w3) := HS1.out.trans ⟨hP3.os, hP3.tape, hP3.output, hP3.size, hP3.tag, hP3.block⟩
    have g2 : (p : Int) < 4 := by omega
    clear hR3 hP3 hx3 hk3 y1 y2 c2
    go_wp2_with fail
    go_ret
    exact ⟨A3, w3, rfl, HR3.out, HS3.out, rfl⟩
  | false =>
    rw [hfp] at c2
    simp only [Bool.false_eq_true, if_false] at c2
    have HFP : Hid (f p = false) := hfp
    clear hfp
    go_wp2_with fail
    go_region_held3 (fun W => W.cell? ⟨xb, 0, none⟩ = some (.pointer (some ⟨sb, 0, none⟩)) ∧ W.cell? ⟨kb, 0, none⟩ = some (.int .i64 (n : Int))) (simp [*]) ((go_at_call 28; refine c2.mono ?_; rintro e w3 ⟨A3, rfl, hR3, hP3⟩; have hx3 := HX1.out.of_eq (hP3.block xb hxl hxt); have hk3 := HK1.out.of_eq (hP3.block kb hkl hkt); have y1 := hx3.cell HX0.out; have y2 := hk3.cell (o := 0) (v := .int .i64 (n : Int)) rfl))
    have on3 := hk3.cell (knCells_at hpP)
    have fz3 := hk3.frozen (2 + p)
    rw [HFP.out] at on3
    have HR3 : Hid (RepS w3 τ 2 sb (cmS s n m p) A3) := hR3
    have HS3 : Hid (Stp 2 τ w τ w3) := HS1.out.trans ⟨hP3.os, hP3.tape, hP3.output, hP3.size, hP3.tag, hP3.block⟩
    have g2 : (p : Int) < 4 := by omega
    clear hR3 hP3 hx3 hk3 y1 y2 c2
    go_wp2_with fail
    go_ret
    exact ⟨A3, w3, rfl, HR3.out, HS3.out, rfl⟩

end
end Go.Proofs.YteoahlieielcdaaGreat
