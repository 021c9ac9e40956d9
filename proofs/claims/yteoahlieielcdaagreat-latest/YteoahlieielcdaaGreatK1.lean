/-
  The statements without the document's answer: pick, empty.
-/
import Derived.Test.YteoahlieielcdaaGreatPrF4
import Derived.Test.YteoahlieielcdaaGreatPr24
import Derived.Test.YteoahlieielcdaaGreatPr18
import Derived.Test.YteoahlieielcdaaGreatRef1
namespace Go.Proofs.YteoahlieielcdaaGreat
open Go Go.RowKit Go.MuLone

/-- what was there ahead of all is as it was, and is nobody's -/
structure Env (w0 w : World) (τ : Nat → Tag) : Prop where
  below : Below w0.heap.size w0 w
  tag0 : ∀ k, k < w0.heap.size → τ k = (0, 0, 0)
theorem Env.stp {w0 w w' : World} {τ τ' : Nat → Tag} {sid : Nat} (h : Env w0 w τ) (hs : Stp sid τ w τ' w') (hsid : sid ≠ 0) : Env w0 w' τ' := by
  have hsz := h.below.size
  refine ⟨⟨hs.os.trans h.below.os, hs.tape.trans h.below.tape, hs.output.trans h.below.output, Nat.le_trans hsz hs.size, fun k hk => ?_⟩, fun k hk => ?_⟩
  · exact (hs.block k (by omega) (by rw [h.tag0 k hk]; exact fun e => hsid e.symm)).trans (h.below.block k hk)
  · rw [hs.tag k (by omega), h.tag0 k hk]
theorem Env.below' {w0 w w' : World} {τ : Nat → Tag} (h : Env w0 w τ) (hb : Below w.heap.size w w') : Env w0 w' τ := ⟨h.below.trans (hb.mono h.below.size), h.tag0⟩
/-- a new block is nobody's -/
def retag (τ : Nat → Tag) (n : Nat) : Nat → Tag := fun k => if k = n then (0, 0, 0) else τ k
theorem Env.alloc {w0 w : World} {τ : Nat → Tag} (h : Env w0 w τ) (o : Obj) : Env w0 (w.alloc o) (retag τ w.heap.size) := by
  have hsz := h.below.size
  refine ⟨h.below.alloc hsz _, fun k hk => ?_⟩
  unfold retag
  rw [if_neg (by omega)]; exact h.tag0 k hk
theorem RepS.box {w : World} {τ : Nat → Tag} {sid b : Nat} {s : MS} {A : SA} (h : RepS w τ sid b s A) (o : Obj) : RepS (w.alloc o) (retag τ w.heap.size) sid b s A :=
  h.frame (fun k hk _ => ⟨Below.heap_alloc _ _ _ hk, by unfold retag; rw [if_neg (by omega)]⟩)
/-- a step of another's -/
theorem RepS.other {w w' : World} {τ τ' : Nat → Tag} {sid sid' b : Nat} {s : MS} {A : SA} (h : RepS w τ sid b s A) (hs : Stp sid' τ w τ' w') (hne : sid ≠ sid') : RepS w' τ' sid b s A :=
  h.frame (fun k hk e => ⟨hs.block k hk (by rw [e]; exact hne), hs.tag k hk⟩)

section
variable {w : World}

theorem pickK_any (c n : Int) (w : World) (h1 : -9223372036854775808 ≤ c) (h2 : c ≤ 9223372036854775807) (hn : 0 < n) (hn' : n ≤ 1000) :
    Calls Tryz.prog 18 #[.int .i64 c, .int .i64 n] w fun e w' => e = .returned (.int .i64 (pickOf c n)) ∧ w' = w := by
  by_cases h : c < 0
  · go_enter Tryz.func18, Tryz.ntmps18
    go_wp2
    go_ret
    exact ⟨ret_int (by rw [← pick_neg c n h]), rfl⟩
  · go_enter Tryz.func18, Tryz.ntmps18
    go_wp2
    go_ret
    exact ⟨ret_int (by rw [← pick_pos c n (by omega)]), rfl⟩

def kK : ByteArray := ⟨#[107]⟩
def kV : ByteArray := ⟨#[118]⟩
def t0 : MS := { parts := 1, mode := 1, ws := [], rs := [] }
def t1 : MS := (mWrite t0 [(kK, kV)]).2.2
def t2 : MS := (mPrepare t1 1 0).2
def t3 : MS := (mCommit t2 1 0).2
def t4 : MS := (mRead t3 [kK]).2.2
def t5 : MS := (mAsk t4 1 kK).2
theorem t1_eq : mWrite t0 [(kK, kV)] = (1, 0, t1) := by rfl
theorem t2_eq : mPrepare t1 1 0 = (0, t2) := by rfl
theorem t3_eq : mCommit t2 1 0 = (0, t3) := by rfl
theorem t4_eq : mRead t3 [kK] = (1, 0, t4) := by rfl
theorem t5_eq : mAsk t4 1 kK = (0, t5) := by rfl
def t5r : MR := (t5.rs[0]?).getD (newMR [])
theorem t5_find : mFindR t5 1 = some t5r := by rfl
theorem t5_asked : allAsked t5r = true := by rfl
theorem t5_keys : t5r.keys = [kK] := by rfl
theorem t5_found : t5r.found 0 = 1 := by rfl
theorem t5_val : ansVal t5 1 kK = kV := by rfl

theorem one_item {w : World} (x : KV) : ItemsAt (w.alloc (.cells #[.string x.1, .string x.2] 70)) (some ⟨w.heap.size, 0, none⟩) [x] := by
  intro k y hy
  match k, hy with
  | 0, hy =>
    simp at hy; subst hy
    exact ⟨w.heap.size, 0, rfl, (Blk.new w _ _).cell (o := 0) rfl, (Blk.new w _ _).cell (o := 1) rfl⟩
theorem one_text {w : World} (x : ByteArray) : TextsAt (w.alloc (.cells #[.string x] 9)) (some ⟨w.heap.size, 0, none⟩) [x] := by
  intro k y hy
  match k, hy with
  | 0, hy =>
    simp at hy; subst hy
    exact ⟨w.heap.size, 0, rfl, (Blk.new w _ _).cell (o := 0) rfl⟩
theorem retag_self (τ : Nat → Tag) (n : Nat) : retag τ n n = (0, 0, 0) := by unfold retag; rw [if_pos rfl]

/-- an empty store, of so many parts, by a mode -/
def newMS (p : Nat) (m : Int) : MS := { parts := p, mode := m, ws := [], rs := [] }

set_option maxRecDepth 100000 in
set_option maxHeartbeats 8000000 in
theorem empty_any {w0 w : World} {τ : Nat → Tag} (hE : Env w0 w τ) (parts mode : Int) (h1 : -9223372036854775808 ≤ parts) (h2 : parts ≤ 9223372036854775807) (h3 : -9223372036854775808 ≤ mode) (h4 : mode ≤ 9223372036854775807) :
    Calls Tryz.prog 14 #[.int .i64 parts, .int .i64 mode] w fun e w' => ∃ τ' sb A, e = .returned (ptr sb) ∧ RepS w' τ' 2 sb (newMS (1 + pickOf parts 4).toNat (1 + pickOf mode 3)) A ∧ Env w0 w' τ' := by
  obtain ⟨b1, b2⟩ := pick_bd parts 4 (by omega)
  obtain ⟨b3, b4⟩ := pick_bd mode 3 (by omega)
  have c1 := pickK_any parts 4 w h1 h2 (by omega) (by omega)
  have c2 := pickK_any mode 3 w h3 h4 (by omega) (by omega)
  have c3 := pNew_good (1 + pickOf parts 4) (1 + pickOf mode 3) w τ 2 (by omega) (by omega) (by simp [goodMode]; omega)
  generalize pickOf parts 4 = pp at *
  generalize pickOf mode 3 = mm at *
  unfold ptr at c3 ⊢
  go_enter Tryz.func14, Tryz.ntmps14
  go_wp2_with fail
  refine c1.mono ?_
  rintro e w1 ⟨rfl, rfl⟩
  clear c1
  go_wp2_with fail
  refine c2.mono ?_
  rintro e w2 ⟨rfl, rfl⟩
  clear c2
  go_wp2_with fail
  refine c3.mono ?_
  rintro e wa ⟨τa, sb, A, rfl, hS, hBa, hta, -⟩
  clear c3
  have hEa : Env w0 wa τa := ⟨hE.below.trans (hBa.mono hE.below.size), fun k hk => (hta k (by have := hE.below.size; omega)).trans (hE.tag0 k hk)⟩
  have c4 := pNew_good 1 1 wa τa 4 (by omega) (by omega) (by rfl)
  unfold ptr at c4
  clear hta hBa hE
  go_wp2_with fail
  refine c4.mono ?_
  rintro e wb ⟨τb, tb, B, rfl, hT, hBb, htb, -⟩
  clear c4
  have hEb : Env w0 wb τb := ⟨hEa.below.trans (hBb.mono hEa.below.size), fun k hk => (htb k (by have := hEa.below.size; omega)).trans (hEa.tag0 k hk)⟩
  have hSb : RepS wb τb 2 sb _ A := hS.frame (fun k hk _ => ⟨hBb.block k hk, htb k hk⟩)
  clear htb hBb hEa hS
  have hTx : RepS wb τb 4 tb t0 B := hT
  clear hT
  have c5 := pWrite (hTx.box (.cells #[.string kK, .string kV] 70)) (some ⟨wb.heap.size, 0, none⟩) 1 (L := [(kK, kV)]) (by decide) (by decide) (by decide) (fun x hx => by simp at hx; subst hx; decide) (one_item (kK, kV)) (fun ib io e => by cases e; rw [retag_self]; decide)
  have hS5 := hSb.box (.cells #[.string kK, .string kV] 70)
  have hE5 := hEb.alloc (.cells #[.string kK, .string kV] 70)
  rw [t1_eq] at c5
  unfold ptr at c5
  have kK_eq : kK = ⟨#[107]⟩ := rfl
  have kV_eq : kV = ⟨#[118]⟩ := rfl
  rw [kK_eq, kV_eq] at c5 hS5 hE5
  clear hTx hSb hEb
  go_wp2_with fail
  refine c5.mono ?_
  rintro e wc ⟨τc, Bc, rfl, hTc, hPc⟩
  clear c5
  have hSc := hS5.other hPc (by decide)
  have hEc := hE5.stp hPc (by decide)
  clear hPc hS5 hE5
  have c6 := pPrepare hTc 1 0 (by decide) (by decide) (by decide) (by decide)
  rw [t2_eq] at c6
  unfold ptr at c6
  clear hTc
  go_wp2_with fail
  refine c6.mono ?_
  rintro e wd ⟨Bd, rfl, hTd, hPd⟩
  clear c6
  have hSd := hSc.other hPd (by decide)
  have hEd := hEc.stp hPd (by decide)
  clear hPd hSc hEc
  have c7 := pCommit hTd 1 0 (by decide) (by decide) (by decide) (by decide)
  rw [t3_eq] at c7
  unfold ptr at c7
  clear hTd
  go_wp2_with fail
  refine c7.mono ?_
  rintro e we ⟨Be, rfl, hTe, hPe⟩
  clear c7
  have hSe := hSd.other hPe (by decide)
  have hEe := hEd.stp hPe (by decide)
  clear hPe hSd hEd
  have c8 := pRead (hTe.box (.cells #[.string kK] 9)) (some ⟨we.heap.size, 0, none⟩) 1 (L := [kK]) (by decide) (by decide) (by decide) (fun x hx => by simp at hx; subst hx; decide) (one_text kK) (fun ib io e => by cases e; rw [retag_self]; decide) (by decide)
  have hS8 := hSe.box (.cells #[.string kK] 9)
  have hE8 := hEe.alloc (.cells #[.string kK] 9)
  rw [t4_eq] at c8
  unfold ptr at c8
  rw [kK_eq] at c8 hS8 hE8
  clear hTe hSe hEe
  go_wp2_with fail
  refine c8.mono ?_
  rintro e wf ⟨τf, Bf, rfl, hTf, hPf⟩
  clear c8
  have hSf := hS8.other hPf (by decide)
  have hEf := hE8.stp hPf (by decide)
  clear hPf hS8 hE8
  have c9 := pAsk hTf 1 kK (by decide) (by decide) (by decide)
  rw [t5_eq] at c9
  unfold ptr at c9
  rw [kK_eq] at c9
  clear hTf
  go_wp2_with fail
  refine c9.mono ?_
  rintro e wg ⟨Bg, rfl, hTg, hPg⟩
  clear c9
  have hSg := hSf.other hPg (by decide)
  have hEg := hEf.stp hPg (by decide)
  clear hPg hSf hEf
  have c10 := pFinish_lone hTg 1 (by decide) (by decide) t5r t5_find t5_asked 1 (fun j x hx => by
    rw [t5_keys] at hx
    match j, hx with
    | 0, _ => exact t5_found) (Or.inr (by rintro ⟨e, _⟩; cases e))
  rw [t5_keys] at c10
  unfold ptr at c10
  clear hTg
  go_wp2_with fail
  refine c10.mono ?_
  rintro e wh ⟨ab, C, rfl, hC, hCs, hA, hab, hTh, hPh⟩
  clear c10
  have hSh := hSg.other hPh (by decide)
  have hEh := hEg.stp hPh (by decide)
  clear hPh hSg hEg hTh
  obtain ⟨a0, a1, a2⟩ := hA 0 kK rfl
  rw [t5_val] at a2
  have l0 : wh.cell? ⟨ab, 0, none⟩ = some (.string ⟨#[107]⟩) := hC.cell a0
  have l1 : wh.cell? ⟨ab, 1, none⟩ = some (.int .i64 1) := hC.cell a1
  have l2 : wh.cell? ⟨ab, 2, none⟩ = some (.string ⟨#[118]⟩) := hC.cell a2
  clear hA a0 a1 a2 kK_eq kV_eq
  go_wp2_with fail
  go_ret
  exact ⟨_, sb, A, rfl, hSh, hEh⟩

end
end Go.Proofs.YteoahlieielcdaaGreat
