/-
  The statement's own functions: played, the first steps.
-/
import Derived.Test.YteoahlieielcdaaGreatLaw8
namespace Go.Proofs.YteoahlieielcdaaGreat
open Go Go.RowKit

/-- a step of the script, as it lies in memory -/
structure Op1 where
  kd : Int
  on : Int
  A : Int
  B : Int
  s : ByteArray
  ia : Option Addr
  L : List KV
  cap : Nat
  ka : Option Addr
  Kn : List ByteArray
  kcap : Nat

structure OpOk (w : World) (x : Op1) : Prop where
  on1 : -9223372036854775808 ≤ x.on
  on2 : x.on ≤ 9223372036854775807
  a1 : -9223372036854775808 ≤ x.A
  a2 : x.A ≤ 9223372036854775807
  b1 : -9223372036854775808 ≤ x.B
  b2 : x.B ≤ 9223372036854775807
  s : x.s.size ≤ maxLen
  len : x.L.length ≤ 4398046511099
  sizes : sizesOk x.L
  items : ItemsAt w x.ia x.L
  old : ∀ ib io, x.ia = some ⟨ib, io, none⟩ ∧ x.L ≠ [] → ib < w.heap.size
  klen : x.Kn.length ≤ 8796093021952
  ksizes : sizesK x.Kn
  texts : TextsAt w x.ka x.Kn
  kold : ∀ ib io, x.ka = some ⟨ib, io, none⟩ ∧ x.Kn ≠ [] → ib < w.heap.size

def OpsAt (w : World) (sa : Option Addr) (ops : List Op1) : Prop :=
  ∀ (i : Nat) (x : Op1), ops[i]? = some x → ∃ b o, sa = some ⟨b, o, none⟩ ∧ b < w.heap.size ∧ w.cell? ⟨b, o + i * 7, none⟩ = some (.int .i64 x.kd) ∧ w.cell? ⟨b, o + i * 7 + 1, none⟩ = some (.int .i64 x.on) ∧ w.cell? ⟨b, o + i * 7 + 2, none⟩ = some (.int .i64 x.A) ∧ w.cell? ⟨b, o + i * 7 + 3, none⟩ = some (.int .i64 x.B) ∧
    w.cell? ⟨b, o + i * 7 + 4, none⟩ = some (.string x.s) ∧ w.cell? ⟨b, o + i * 7 + 5, none⟩ = some (.slice x.ia x.L.length x.cap) ∧ w.cell? ⟨b, o + i * 7 + 6, none⟩ = some (.slice x.ka x.Kn.length x.kcap)

section
variable {w : World} {τ : Nat → Tag} {wb : Nat} {c : Int} {a : LA} {M : List MS} {i : Nat} {m : MS}

/-- STEP. -/
theorem step_any (h : LW w τ wb c a M) (x : Op1) (hx : OpOk w x) (hk6 : x.kd ≤ 8) (hf : ∀ ib io, x.ia = some ⟨ib, io, none⟩ ∧ x.L ≠ [] → (τ ib).1 = 0) (hKf : ∀ ib io, x.ka = some ⟨ib, io, none⟩ ∧ x.Kn ≠ [] → (τ ib).1 = 0) (hJ : a.J < 4398046511104) (hK : a.K < 4398046511104) (h0 : 0 ≤ c) (h1 : c ≤ 4398046511104) :
    Calls Tryz.prog 32 #[ptr wb, opVal x.kd x.on x.A x.B x.s (.slice x.ia x.L.length x.cap) (.slice x.ka x.Kn.length x.kcap)] w fun e w' => e = .returned (.bool true) ∧ Left1 w τ wb c a w' := by
  by_cases e1 : x.kd = 1
  · rw [e1]
    exact step_new h _ _ _ _ _ _
  · by_cases e2 : 0 < M.length
    · exact step_on h e2 _ _ _ _ _ _ _ _ _ _ _ e1 hk6 hx.on1 hx.on2 hx.a1 hx.a2 hx.b1 hx.b2 hx.s hx.len hx.sizes hx.items (fun ib io e => ⟨hx.old ib io e, hf ib io e⟩) hx.klen hx.ksizes hx.texts (fun ib io e => ⟨hx.kold ib io e, hKf ib io e⟩) hJ hK h0 h1
    · have : M = [] := List.eq_nil_of_length_eq_zero (by omega)
      subst this
      exact step_none h _ _ _ _ _ _ _ e1

def la0 : LA := { stv := .slice none 0 0, itv := .slice none 0 0, imv := .slice none 0 0, txv := .slice none 0 0, tmv := .slice none 0 0, sB := fun _ => 0, rB := fun _ => 0, lb := fun _ => 0, ln := fun _ => 0, mrk := fun _ => ByteArray.empty, J := 0, tb := fun _ => 0, tn := fun _ => 0, tmk := fun _ => ByteArray.empty, K := 0 }
def worldCells : Obj := .cells #[.slice none 0 0, .slice none 0 0, .slice none 0 0, .slice none 0 0, .slice none 0 0, .slice none 0 0, .slice none 0 0, .int .i64 0] 84
def tag0 (b : Nat) : Nat → Tag := fun k => if k = b then (1, 0, 0) else (0, 0, 0)

theorem LW.begin (w : World) : LW (w.alloc worldCells) (tag0 w.heap.size) w.heap.size 0 la0 [] := by
  have hn : ∀ (P : Prop) (k : Nat), (Value.slice none 0 0).ownBlock = some k → P := fun P k e => by cases e
  refine ⟨⟨Blk.new w _ _, by simp [tag0], World.ownsRow_nil _ _ _ _, fun k hk => hn _ k hk, World.ownsRow_nil _ _ _ _, fun k hk => hn _ k hk, World.ownsRow_nil _ _ _ _, fun k hk => hn _ k hk, ?_, ?_, ?_, World.ownsRow_nil _ _ _ _, fun k hk => hn _ k hk, World.ownsRow_nil _ _ _ _, fun k hk => hn _ k hk, ?_, ?_, ?_, by simp⟩, ⟨?_, ?_⟩, ?_, by omega⟩
  all_goals first
    | (intro j hj; simp [la0] at hj; done)
    | (intro i m hm; simp at hm)

/-- the first steps -/
def firstOp (k : Int) (b : Nat) : Op1 := { kd := k, on := 0, A := 1, B := if k = 1 then 1 else 0, s := ⟨#[97]⟩, ia := some ⟨b, 0, none⟩, L := [(⟨#[97]⟩, ⟨#[49]⟩)], cap := 1, ka := some ⟨b + 1, 0, none⟩, Kn := [⟨#[97]⟩], kcap := 1 }

theorem firstOp_ok {w : World} {b : Nat} {k : Int} (hb : Blk w b #[.string ⟨#[97]⟩, .string ⟨#[49]⟩] 70) (hb2 : Blk w (b + 1) #[.string ⟨#[97]⟩] 9) : OpOk w (firstOp k b) := by
  refine ⟨by simp [firstOp], by simp [firstOp], by simp [firstOp], by simp [firstOp], ?_, ?_, by simp [firstOp, maxLen]; decide, by simp [firstOp], ?_, ?_, ?_, by simp [firstOp], ?_, ?_, ?_⟩
  · simp only [firstOp]; split <;> omega
  · simp only [firstOp]; split <;> omega
  · intro x hx
    simp [firstOp] at hx
    subst hx
    exact ⟨by unfold maxLen; decide, by unfold maxLen; decide⟩
  · intro j x hx
    match j, hx with
    | 0, hx =>
      simp [firstOp] at hx
      subst hx
      exact ⟨b, 0, rfl, hb.cell (o := 0) rfl, hb.cell (o := 1) rfl⟩
    | j + 1, hx => simp [firstOp] at hx
  · intro ib io e
    simp [firstOp] at e
    rw [← e.1]
    exact hb.lt
  · intro x hx
    simp [firstOp] at hx
    subst hx
    unfold maxLen; decide
  · intro j x hx
    match j, hx with
    | 0, hx =>
      simp [firstOp] at hx
      subst hx
      exact ⟨b + 1, 0, rfl, hb2.cell (o := 0) rfl⟩
    | j + 1, hx => simp [firstOp] at hx
  · intro ib io e
    simp [firstOp] at e
    rw [← e.1]
    exact hb2.lt

theorem first_call (h : LW w τ wb c a M) (kd B : Int) (hB : B = if kd = 1 then 1 else 0) (hk : kd ≤ 8) (hJ : a.J < 4398046511104) (hK : a.K < 4398046511104) (h0 : 0 ≤ c) (h1 : c ≤ 4398046511104) :
    Calls Tryz.prog 32 #[ptr wb, opVal kd 0 1 B ⟨#[97]⟩ (.slice (some ⟨w.heap.size, 0, none⟩) 1 1) (.slice (some ⟨w.heap.size + 1, 0, none⟩) 1 1)] (((w.alloc (.cells #[.string ⟨#[97]⟩, .string ⟨#[49]⟩] 70)).alloc (.cells #[.string ⟨#[97]⟩] 9)).alloc (opCells kd 0 1 B ⟨#[97]⟩ (.slice (some ⟨w.heap.size, 0, none⟩) 1 1) (.slice (some ⟨w.heap.size + 1, 0, none⟩) 1 1))) fun e w' => e = .returned (.bool true) ∧ Left1 w τ wb c a w' := by
  have hBl : Below w.heap.size w (((w.alloc (.cells #[.string ⟨#[97]⟩, .string ⟨#[49]⟩] 70)).alloc (.cells #[.string ⟨#[97]⟩] 9)).alloc (opCells kd 0 1 B ⟨#[97]⟩ (.slice (some ⟨w.heap.size, 0, none⟩) 1 1) (.slice (some ⟨w.heap.size + 1, 0, none⟩) 1 1))) := (((Below.refl _ _).alloc (Nat.le_refl _) _).alloc (by simp) _).alloc (by simp; omega) _
  have ht : ∀ k, k < w.heap.size → boxT (boxT τ w.heap.size) (w.heap.size + 1) k = τ k := fun k hk => (boxT_old (by omega)).trans (boxT_old (by omega))
  have hbi : Blk (((w.alloc (.cells #[.string ⟨#[97]⟩, .string ⟨#[49]⟩] 70)).alloc (.cells #[.string ⟨#[97]⟩] 9)).alloc (opCells kd 0 1 B ⟨#[97]⟩ (.slice (some ⟨w.heap.size, 0, none⟩) 1 1) (.slice (some ⟨w.heap.size + 1, 0, none⟩) 1 1))) w.heap.size #[.string ⟨#[97]⟩, .string ⟨#[49]⟩] 70 :=
    ((Blk.new w _ _).of_eq (Below.heap_alloc _ _ _ (by simp))).of_eq (Below.heap_alloc _ _ _ (by simp; omega))
  have hbk : Blk (((w.alloc (.cells #[.string ⟨#[97]⟩, .string ⟨#[49]⟩] 70)).alloc (.cells #[.string ⟨#[97]⟩] 9)).alloc (opCells kd 0 1 B ⟨#[97]⟩ (.slice (some ⟨w.heap.size, 0, none⟩) 1 1) (.slice (some ⟨w.heap.size + 1, 0, none⟩) 1 1))) (w.heap.size + 1) #[.string ⟨#[97]⟩] 9 := by
    have := Blk.new (w.alloc (.cells #[.string ⟨#[97]⟩, .string ⟨#[49]⟩] 70)) #[.string ⟨#[97]⟩] 9
    rw [show (w.alloc (.cells #[.string ⟨#[97]⟩, .string ⟨#[49]⟩] 70)).heap.size = w.heap.size + 1 by simp] at this
    exact this.of_eq (Below.heap_alloc _ _ _ (by simp))
  have hs := step_any (h.new hBl ht) (firstOp kd w.heap.size) (firstOp_ok hbi hbk) hk (fun ib io e => by simp [firstOp] at e; rw [← e.1, boxT_old (by omega)]; exact boxT_new) (fun ib io e => by simp [firstOp] at e; rw [← e.1]; exact boxT_new) hJ hK h0 h1
  subst hB
  refine hs.mono ?_
  rintro e w' ⟨rfl, hL⟩
  exact ⟨rfl, hL.lift (Kp.of_below hBl ht)⟩

theorem OpOk.keep {w w' : World} {x : Op1} (h : OpOk w x) (hs : w.heap.size ≤ w'.heap.size) (hk : ∀ k, k < w.heap.size → w'.heap[k]? = w.heap[k]?) : OpOk w' x :=
  ⟨h.on1, h.on2, h.a1, h.a2, h.b1, h.b2, h.s, h.len, h.sizes, h.items.keep (fun ib io e => hk ib (h.old ib io e)), fun ib io e => Nat.lt_of_lt_of_le (h.old ib io e) hs, h.klen, h.ksizes, h.texts.keep (fun ib io e => hk ib (h.kold ib io e)), fun ib io e => Nat.lt_of_lt_of_le (h.kold ib io e) hs⟩

set_option maxRecDepth 100000 in
set_option maxHeartbeats 8000000 in
theorem played_any (w : World) (sa : Option Addr) (ops : List Op1) (cap : Nat) (E : Nat) (hE6 : 6 ≤ E) (hE8 : E ≤ 8) (hn : ops.length ≤ 1500000000000) (hO : OpsAt w sa ops) (hok : ∀ x ∈ ops, OpOk w x) :
    Calls Tryz.prog 13 #[.slice sa ops.length cap, .int .i64 E] w fun e w' => e = .returned (.bool true) ∧ Below w.heap.size w w' := by
  have hb0 := LW.begin w
  have hB0 : Below w.heap.size w (w.alloc worldCells) := (Below.refl _ _).alloc (Nat.le_refl _) _
  have hsz0 : (w.alloc worldCells).heap.size = w.heap.size + 1 := by simp
  unfold worldCells at *
  go_enter Tryz.func13, Tryz.ntmps13
  go_wp2_with fail
  generalize w.alloc (.cells #[.slice none 0 0, .slice none 0 0, .slice none 0 0, .slice none 0 0, .slice none 0 0, .slice none 0 0, .slice none 0 0, .int .i64 0] 84) = w1 at *
  go_loopw [6, 7] (fun u6 u7 wr => ∃ (k : Nat) (τ : Nat → Tag) (a : LA) (M : List MS) (c : Int), k ≤ E ∧ u6 = .bool true ∧ u7 = .int .i64 ((k : Int) + 1) ∧ LW wr τ w.heap.size c a M ∧ 0 ≤ c ∧ c ≤ k ∧ a.J ≤ k ∧ a.K ≤ k ∧ Kp (tag0 w.heap.size) w1 τ wr) (fun _ u7 _ => E + 1 - (intOf u7).toNat)
  case atStart => exact ⟨0, tag0 w.heap.size, la0, [], 0, by omega, rfl, rfl, hb0, by omega, by omega, by simp [la0], by simp [la0], Kp.refl _ _⟩
  case round =>
    obtain ⟨k, τ, a, M, c, hk, rfl, rfl, hW, h0, hc, hJ, hK, hKp⟩ := hrel
    by_cases hlt : k < E
    · by_cases h5 : k = 5
      · subst h5
        go_wp2_with fail
        go_roundw
        case rel => exact ⟨6, τ, a, M, c, by omega, rfl, by go_num, hW, h0, by omega, by omega, by omega, hKp⟩
        case measure => simp [intOf]; omega
      · by_cases hk0 : k = 0
        · subst hk0
          have cs := first_call hW 1 1 rfl (by omega) (by omega) (by omega) h0 (by omega)
          unfold ptr opVal opCells at cs
          go_wp2_with (go_at_call 32; refine cs.mono ?_; rintro e w3 ⟨rfl, τ', a', M', c', g1, g2, g3, g4, g5, g6⟩)
          go_roundw
          case rel => exact ⟨1, τ', a', M', c', by omega, rfl, by go_num, g1, by omega, by omega, by omega, by omega, hKp.trans g6⟩
          case measure => simp [intOf]; omega
        · have n1 : ¬ (k : Int) + 1 = 6 := by omega
          have n2 : ¬ (k : Int) + 1 = 1 := by omega
          have cs := first_call hW ((k : Int) + 1) 0 (by rw [if_neg n2]) (by omega) (by omega) (by omega) h0 (by omega)
          unfold ptr opVal opCells at cs
          go_wp2_with (go_at_call 32; refine cs.mono ?_; rintro e w3 ⟨rfl, τ', a', M', c', g1, g2, g3, g4, g5, g6⟩)
          go_roundw
          case rel => exact ⟨k + 1, τ', a', M', c', by omega, rfl, by go_num, g1, by omega, by omega, by omega, by omega, hKp.trans g6⟩
          case measure => simp [intOf]; omega
    · have hkE : k = E := by omega
      subst hkE
      clear hk hlt
      go_wp2_with fail
      go_loopw [6, 9] (fun u6 u9 wr => ∃ (i : Nat) (τ : Nat → Tag) (a : LA) (M : List MS) (c : Int), i ≤ ops.length ∧ u6 = .bool true ∧ u9 = .int .i64 i ∧ LW wr τ w.heap.size c a M ∧ 0 ≤ c ∧ c ≤ 8 + (i : Int) ∧ a.J ≤ 8 + i ∧ a.K ≤ 8 + i ∧ Kp (tag0 w.heap.size) w1 τ wr) (fun _ u9 _ => ops.length - (intOf u9).toNat)
      case atStart => exact ⟨0, τ, a, M, c, Nat.zero_le _, rfl, rfl, hW, h0, by omega, by omega, by omega, hKp⟩
      case round =>
        obtain ⟨i, τ, a, M, c, hi, rfl, rfl, hW, h0, hc, hJ, hK, hKp⟩ := hrel
        have ht0 : ∀ k, k < w.heap.size → (τ k).1 = 0 := fun k hk => by rw [hKp.tag k (by omega)]; unfold tag0; rw [if_neg (by omega)]
        have hfr : ∀ k, k < w.heap.size → wr.heap[k]? = w.heap[k]? := fun k hk => (hKp.block k (by omega) (by unfold tag0; rw [if_neg (by omega)])).trans (hB0.block k hk)
        have hsz : w.heap.size ≤ wr.heap.size := by have := hKp.size; omega
        by_cases hlt : i < ops.length
        · have hx : ops[i]? = some ops[i] := List.getElem?_eq_getElem hlt
          have hxo := (hok ops[i] (List.getElem_mem hlt)).keep hsz hfr
          have hxt : ∀ ib io, ops[i].ia = some ⟨ib, io, none⟩ ∧ ops[i].L ≠ [] → (τ ib).1 = 0 := fun ib io e => ht0 ib ((hok ops[i] (List.getElem_mem hlt)).old ib io e)
          have hxk : ∀ ib io, ops[i].ka = some ⟨ib, io, none⟩ ∧ ops[i].Kn ≠ [] → (τ ib).1 = 0 := fun ib io e => ht0 ib ((hok ops[i] (List.getElem_mem hlt)).kold ib io e)
          obtain ⟨b, o, rfl, hbl, e0, e1, e2, e3, e4, e5, e6⟩ := hO i _ hx
          generalize ops[i] = x at *
          have hbb := hfr b hbl
          have f0 := (World.cell?_of_block (a := ⟨b, o + i * 7, none⟩) hbb).trans e0
          have f1 := (World.cell?_of_block (a := ⟨b, o + i * 7 + 1, none⟩) hbb).trans e1
          have f2 := (World.cell?_of_block (a := ⟨b, o + i * 7 + 2, none⟩) hbb).trans e2
          have f3 := (World.cell?_of_block (a := ⟨b, o + i * 7 + 3, none⟩) hbb).trans e3
          have f4 := (World.cell?_of_block (a := ⟨b, o + i * 7 + 4, none⟩) hbb).trans e4
          have f5 := (World.cell?_of_block (a := ⟨b, o + i * 7 + 5, none⟩) hbb).trans e5
          have f6 := (World.cell?_of_block (a := ⟨b, o + i * 7 + 6, none⟩) hbb).trans e6
          clear e0 e1 e2 e3 e4 e5 e6 hbb hx
          by_cases h6 : x.kd ≤ k
          · have cs := step_any hW x hxo (by omega) hxt hxk (by omega) (by omega) h0 (by omega)
            unfold ptr opVal at cs
            clear hxt hxk hfr ht0
            go_wp2_with fail
            refine cs.mono ?_
            rintro e w3 ⟨rfl, τ', a', M', c', g1, g2, g3, g4, g5, g6⟩
            clear cs
            have ct := still_any g1.base (by omega) (by omega)
            unfold ptr at ct
            go_wp2_with fail
            refine ct.mono ?_
            rintro e w4 ⟨rfl, mm, rfl⟩
            clear ct
            go_wp2_with fail
            go_roundw
            case rel =>
              first
                | exact ⟨i + 1, τ', a', M', c', by omega, rfl, by go_num, g1.drewN mm, by omega, by omega, by omega, by omega, hKp.trans (g6.trans ⟨rfl, rfl, rfl, Nat.le_refl _, fun _ _ => rfl, fun _ _ _ => rfl⟩)⟩
                | ((repeat apply Exists.intro); exact ⟨⟨i + 1, τ', a', M', c', by omega, rfl, by go_num, g1.drewN mm, by omega, by omega, by omega, by omega, hKp.trans (g6.trans ⟨rfl, rfl, rfl, Nat.le_refl _, fun _ _ => rfl, fun _ _ _ => rfl⟩)⟩, rfl⟩)
            case measure => simp [intOf]; omega
          · go_wp2_with fail
            go_roundw
            case rel => exact ⟨i + 1, τ, a, M, c, by omega, rfl, by go_num, hW, h0, by omega, by omega, by omega, hKp⟩
            case measure => simp [intOf]; omega
        · go_wp2_with fail
          go_ret
          exact ⟨rfl, hB0.trans ⟨hKp.os, hKp.tape, hKp.output, hKp.size, fun k hk => hKp.block k (by omega) (by unfold tag0; rw [if_neg (by omega)])⟩⟩

/-- WRITES, whatever script comes in. -/
theorem writes_all (w : World) (sa : Option Addr) (ops : List Op1) (cap : Nat) (hn : ops.length ≤ 1500000000000) (hO : OpsAt w sa ops) (hok : ∀ x ∈ ops, OpOk w x) :
    Calls Tryz.prog 3 #[.slice sa ops.length cap] w fun e w' => e = .returned (.bool true) ∧ Below w.heap.size w w' := by
  have cp := played_any w sa ops cap 6 (by omega) (by omega) hn hO hok
  clear hO hok
  go_enter Tryz.func3, Tryz.ntmps3
  go_wp2_with fail
  refine cp.mono ?_
  rintro e w' ⟨rfl, hB⟩
  clear cp
  go_wp2_with fail
  go_ret
  exact ⟨rfl, hB⟩
/-- ASKS, whatever script comes in. -/
theorem asks_all (w : World) (sa : Option Addr) (ops : List Op1) (cap : Nat) (hn : ops.length ≤ 1500000000000) (hO : OpsAt w sa ops) (hok : ∀ x ∈ ops, OpOk w x) :
    Calls Tryz.prog 4 #[.slice sa ops.length cap] w fun e w' => e = .returned (.bool true) ∧ Below w.heap.size w w' := by
  have cp := played_any w sa ops cap 8 (by omega) (by omega) hn hO hok
  clear hO hok
  go_enter Tryz.func4, Tryz.ntmps4
  go_wp2_with fail
  refine cp.mono ?_
  rintro e w' ⟨rfl, hB⟩
  clear cp
  go_wp2_with fail
  go_ret
  exact ⟨rfl, hB⟩

end
end Go.Proofs.YteoahlieielcdaaGreat
