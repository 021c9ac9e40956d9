/-
  The statement's own functions: reads.
-/
import Derived.Test.YteoahlieielcdaaGreatLaw6
import Derived.Test.YteoahlieielcdaaGreatLaw1s
namespace Go.Proofs.YteoahlieielcdaaGreat
open Go Go.RowKit

theorem sizeStr : (Tryz.prog.info? 9).map (·.size) = some 1 := by
  obtain ⟨i, hi, _, h2, _⟩ := info_parts infoStr
  rw [hi]; simp [h2]

theorem texts_room (n : Nat) (hn : n ≤ 8796093021952) (W : World) : ∃ M : Array Value, M.size = n + 5 ∧ (Instr.makeSlice 38 (.int .i64 ((n : Int) + 5)) (.int .i64 ((n : Int) + 5))).run Tryz.prog W = .ok (.slice (some ⟨W.heap.size, 0, none⟩) (n + 5) (n + 5)) (W.alloc (.cells M 9)) := by
  obtain ⟨i, hi, hz0, hz1, hz2⟩ := info_parts infoStr
  have h := run_make (P := Tryz.prog) W 38 9 i _ Tryz.underlying38 hi hz0 .i64 .i64 ((n : Int) + 5) ((n : Int) + 5) (by omega) (by omega) (by rw [hz2]; omega) (by omega)
  have e : ((n : Int) + 5).toNat = n + 5 := by omega
  rw [e, hz1] at h
  exact ⟨_, (size_madeCells _ _).trans (Nat.mul_one _), h⟩

/-- a list of texts in cells, with five behind it -/
structure TxAt (arr : Array Value) (L : List ByteArray) (k5 : Nat) : Prop where
  size : arr.size = L.length + 5
  head : ∀ (k : Nat) (x : ByteArray), L[k]? = some x → arr[k]? = some (.string x)
  tail : ∀ j, j < k5 → arr[L.length + j]? = some (.string ⟨#[98, 101, 104, 105, 110, 100]⟩)

theorem TxAt.start (L : List ByteArray) (cur : Array Value) (hc : cur.size = L.length + 5) : TxAt (L.map Value.string ++ cur.toList.drop (L.map Value.string).length).toArray L 0 := by
  refine ⟨?_, fun k x hx => ?_, fun j hj => by omega⟩
  · simp [hc]
  · have hl := (List.getElem?_eq_some_iff.1 hx).1
    rw [List.getElem?_toArray, List.getElem?_append_left (by simpa using hl), List.getElem?_map, hx]
    rfl
theorem TxAt.next {arr : Array Value} {L : List ByteArray} {k : Nat} (h : TxAt arr L k) (hk : k < 5) : TxAt (arr.setIfInBounds (L.length + k) (.string ⟨#[98, 101, 104, 105, 110, 100]⟩)) L (k + 1) := by
  have hs := h.size
  refine ⟨by simp [hs], fun j x hx => ?_, fun j hj => ?_⟩
  · have hl := (List.getElem?_eq_some_iff.1 hx).1
    rw [Array.getElem?_setIfInBounds_ne (by omega)]; exact h.head j x hx
  · by_cases e : j = k
    · subst e
      rw [Array.getElem?_setIfInBounds_self_of_lt (by omega)]
    · rw [Array.getElem?_setIfInBounds_ne (by omega)]; exact h.tail j (by omega)
theorem TxAt.texts {arr : Array Value} {L : List ByteArray} {k : Nat} (h : TxAt arr L k) {w : World} {b : Nat} (hb : Blk w b arr 9) : TextsAt w (some ⟨b, 0, none⟩) L := fun j x hx =>
  ⟨b, 0, rfl, by rw [Nat.zero_add]; exact hb.cell (h.head j x hx)⟩
theorem TextsAt.keep {w w' : World} {a : Option Addr} {L : List ByteArray} (h : TextsAt w a L) (hk : ∀ ib io, a = some ⟨ib, io, none⟩ ∧ L ≠ [] → w'.heap[ib]? = w.heap[ib]?) : TextsAt w' a L := by
  intro k x hx
  obtain ⟨ib, io, e, c1⟩ := h k x hx
  have e' := And.intro e (show L ≠ [] from fun h0 => by subst h0; simp at hx)
  exact ⟨ib, io, e, (World.cell?_of_block (hk ib io e')).trans c1⟩

section
variable {w : World} {τ : Nat → Tag} {wb : Nat} {c : Int} {a : LA} {M : List MS} {i : Nat} {m : MS}

/-- the boxes of reads: nobody's; the list that is handed in: the next one -/
def rdT (τ : Nat → Tag) (b K : Nat) : Nat → Tag := fun k => if k = b then (0, 0, 0) else if k = b + 1 then (0, 0, 0) else if k = b + 2 then (1, 7, K) else τ k

theorem tx_one (L : List ByteArray) : ∀ v ∈ L.map Value.string, v.oneCell' = true := by
  intro v hv
  obtain ⟨x, _, rfl⟩ := List.mem_map.1 hv
  rfl

theorem texts_src {ia : Option Addr} {L : List ByteArray} (h : TextsAt w ia L) {w' : World} (hk : ∀ ib io, ia = some ⟨ib, io, none⟩ ∧ L ≠ [] → w'.heap[ib]? = w.heap[ib]?) (hp : 0 < (L.map Value.string).length) : ∃ ad, ia = some ad ∧ ∀ j v, (L.map Value.string)[j]? = some v → w'.cell? (ad.add j) = some v := by
  have h' := h.keep hk
  simp at hp
  have hp' : 0 < L.length := hp
  obtain ⟨ib, io, rfl, _⟩ := h' 0 L[0] (List.getElem?_eq_getElem hp')
  refine ⟨_, rfl, fun j v hj => ?_⟩
  rw [List.getElem?_map] at hj
  obtain ⟨x, hx, rfl⟩ := Option.map_eq_some_iff.1 hj
  obtain ⟨ib', io', e, c1⟩ := h' j x hx
  cases e
  rw [add_plain]; exact c1

set_option maxRecDepth 100000 in
set_option maxHeartbeats 4000000 in
theorem reads_any (h : LW w τ wb c a M) (hm : M[i]? = some m) (kd on A B : Int) (s : ByteArray) (it : Value) (ia : Option Addr) (L : List ByteArray) (cap : Nat) (hL : L.length ≤ 8796093021952) (hz : sizesK L) (hI : TextsAt w ia L) (hf : ∀ ib io, ia = some ⟨ib, io, none⟩ ∧ L ≠ [] → ib < w.heap.size ∧ (τ ib).1 = 0) (hJ : a.K < 4398046511104) (h0 : 0 ≤ c) (h1 : c ≤ 4398046511104) :
    Calls Tryz.prog 63 #[ptr wb, .agg #[ptr (a.sB i), ptr (a.rB i)], opVal kd on A B s it (.slice ia L.length cap)] w fun e w' => e = .returned (.bool true) ∧ Left1 w τ wb c a w' := by
  obtain ⟨Mk, hMs, hMk⟩ := texts_room L.length (by omega) ((w.alloc (.cells #[ptr (a.sB i), ptr (a.rB i)] 127)).alloc (opCells kd on A B s it (.slice ia L.length cap)))
  have hB0 : Below w.heap.size w (((w.alloc (.cells #[ptr (a.sB i), ptr (a.rB i)] 127)).alloc (opCells kd on A B s it (.slice ia L.length cap))).alloc (.cells Mk 9)) := (((Below.refl _ _).alloc (Nat.le_refl _) _).alloc (by simp) _).alloc (by simp; omega) _
  have hBx : Blk (((w.alloc (.cells #[ptr (a.sB i), ptr (a.rB i)] 127)).alloc (opCells kd on A B s it (.slice ia L.length cap))).alloc (.cells Mk 9)) w.heap.size #[ptr (a.sB i), ptr (a.rB i)] 127 :=
    ((Blk.new w _ _).of_eq (Below.heap_alloc _ _ _ (by simp))).of_eq (Below.heap_alloc _ _ _ (by simp; omega))
  have hBo : Blk (((w.alloc (.cells #[ptr (a.sB i), ptr (a.rB i)] 127)).alloc (opCells kd on A B s it (.slice ia L.length cap))).alloc (.cells Mk 9)) (w.heap.size + 1) #[.int .i64 kd, .int .i64 on, .int .i64 A, .int .i64 B, .string s, it, .slice ia L.length cap] 86 := by
    have := Blk.new (w.alloc (.cells #[ptr (a.sB i), ptr (a.rB i)] 127)) #[.int .i64 kd, .int .i64 on, .int .i64 A, .int .i64 B, .string s, it, .slice ia L.length cap] 86
    rw [show (w.alloc (.cells #[ptr (a.sB i), ptr (a.rB i)] 127)).heap.size = w.heap.size + 1 by simp] at this
    exact this.of_eq (Below.heap_alloc _ _ _ (by simp))
  have hBa : Blk (((w.alloc (.cells #[ptr (a.sB i), ptr (a.rB i)] 127)).alloc (opCells kd on A B s it (.slice ia L.length cap))).alloc (.cells Mk 9)) (w.heap.size + 1 + 1) Mk 9 := by
    have := Blk.new ((w.alloc (.cells #[ptr (a.sB i), ptr (a.rB i)] 127)).alloc (opCells kd on A B s it (.slice ia L.length cap))) Mk 9
    rwa [show ((w.alloc (.cells #[ptr (a.sB i), ptr (a.rB i)] 127)).alloc (opCells kd on A B s it (.slice ia L.length cap))).heap.size = w.heap.size + 1 + 1 by simp] at this
  have hsrc := texts_src hI (fun ib io e => hB0.block ib (hf ib io e).1)
  unfold opVal ptr
  unfold opCells ptr at *
  go_enter Tryz.func63, Tryz.ntmps63
  go_upto_region 3 with (fail)
  clear hMk
  have hszm0 : (((w.alloc (.cells #[.pointer (some ⟨a.sB i, 0, none⟩), .pointer (some ⟨a.rB i, 0, none⟩)] 127)).alloc (.cells #[.int .i64 kd, .int .i64 on, .int .i64 A, .int .i64 B, .string s, it, .slice ia L.length cap] 86)).alloc (.cells Mk 9)).heap.size = w.heap.size + 1 + 1 + 1 := by simp
  generalize ((w.alloc (.cells #[.pointer (some ⟨a.sB i, 0, none⟩), .pointer (some ⟨a.rB i, 0, none⟩)] 127)).alloc (.cells #[.int .i64 kd, .int .i64 on, .int .i64 A, .int .i64 B, .string s, it, .slice ia L.length cap] 86)).alloc (.cells Mk 9) = wm at *
  have o5 : wm.cell? ⟨w.heap.size + 1, 6, none⟩ = some (.slice ia L.length cap) := hBo.cell (o := 6) rfl
  obtain ⟨w4, hcp, hb4, hB4⟩ : ∃ w4, (Builtin.copy_ #[38, 38] 3 #[.slice (some ⟨w.heap.size + 1 + 1, 0, none⟩) (L.length + 5) (L.length + 5), .slice ia L.length cap]).run Tryz.prog wm = .ok (goInt L.length) w4 ∧ Blk w4 (w.heap.size + 1 + 1) (L.map Value.string ++ Mk.toList.drop (L.map Value.string).length).toArray 9 ∧ Below (w.heap.size + 1 + 1) wm w4 := by
    have hmin : Nat.min L.length (L.length + 5) = L.length := Nat.min_eq_left (by omega)
    have e := run_copy_sized (P := Tryz.prog) wm 38 38 3 9 1 (w.heap.size + 1 + 1) (L.length + 5) (L.length + 5) ia L.length cap Mk 9 (L.map Value.string) Tryz.underlying38 sizeStr hBa (by rw [List.length_map, hmin, Nat.mul_one]) hsrc (by rw [List.length_map]; omega) (tx_one L)
    rw [hmin] at e
    exact ⟨_, e, setRow_heap wm _ _ _ _ _ hBa, rfl, rfl, rfl, by simp [World.setRow], fun k hk => setRow_other wm _ k _ (by omega)⟩
  have hA4 := TxAt.start L Mk hMs
  generalize (L.map Value.string ++ Mk.toList.drop (L.map Value.string).length).toArray = arr0 at *
  have hszm : wm.heap.size = w.heap.size + 1 + 1 + 1 := hszm0
  clear hsrc hBa hMs
  go_wp2_with fail
  clear hcp
  have hn5 : L.length + 5 ≤ 8796093022208 := by omega
  go_loopw [9] (fun u wr => ∃ (k : Nat) (arr : Array Value), k ≤ 5 ∧ u = .int .i64 ((L.length : Int) + k) ∧ Blk wr (w.heap.size + 1 + 1) arr 9 ∧ TxAt arr L k ∧ Below (w.heap.size + 1 + 1) wm wr) (fun u _ => L.length + 5 - (intOf u).toNat)
  case atStart => exact ⟨0, arr0, by omega, by simp, hb4, hA4, hB4⟩
  case round =>
    obtain ⟨k, arr, hk, rfl, hb, hA, hB⟩ := hrel
    by_cases hlt : k < 5
    · have hs := hA.size
      obtain ⟨v0, hv0⟩ : ∃ v, arr[L.length + k]? = some v := ⟨_, Array.getElem?_eq_getElem (by omega)⟩
      have d0 := hb.cell hv0
      have f0 := hb.frozen (L.length + k)
      have hA' := hA.next hlt
      clear hv0 hA
      go_wp2_with fail
      go_roundw
      case rel => exact ⟨k + 1, _, by omega, by go_num, hb.set (L.length + k) _, hA', hB.setCell (p := ⟨w.heap.size + 1 + 1, L.length + k, none⟩) (Nat.le_refl _) _⟩
      case measure => simp [intOf]; omega
    · have hk5 : k = 5 := by omega
      subst hk5
      have hB5 : Below w.heap.size w wr := hB0.trans (hB.mono (by omega))
      have hwt : ∀ k, k < w.heap.size → rdT τ w.heap.size a.K k = τ k := fun k hk => by unfold rdT; rw [if_neg (by omega), if_neg (by omega), if_neg (by omega)]
      have h5 : LW wr (rdT τ w.heap.size a.K) wb c a M := h.new hB5 hwt
      have k5 : Kp τ w (rdT τ w.heap.size a.K) wr := Kp.of_below hB5 hwt
      have t0 : rdT τ w.heap.size a.K w.heap.size = (0, 0, 0) := by unfold rdT; rw [if_pos rfl]
      have t1 : rdT τ w.heap.size a.K (w.heap.size + 1) = (0, 0, 0) := by unfold rdT; rw [if_neg (by omega), if_pos rfl]
      have t2 : rdT τ w.heap.size a.K (w.heap.size + 1 + 1) = (1, 7, a.K) := by unfold rdT; rw [if_neg (by omega), if_neg (by omega), if_pos rfl]
      have hI5 : TextsAt wr ia L := hI.keep (fun ib io e => hB5.block ib (hf ib io e).1)
      have hf5 : ∀ ib io, ia = some ⟨ib, io, none⟩ ∧ L ≠ [] → ib < wr.heap.size ∧ (rdT τ w.heap.size a.K ib).1 = 0 := fun ib io e => ⟨by have := (hf ib io e).1; have := hB5.size; omega, by rw [hwt ib (hf ib io e).1]; exact (hf ib io e).2⟩
      have hBx5 := hBx.of_eq (hB.block w.heap.size (by omega))
      have hBo5 := hBo.of_eq (hB.block (w.heap.size + 1) (by omega))
      obtain ⟨As, hS⟩ := h5.st.s i m hm
      generalize rdT τ w.heap.size a.K = τ1 at *
      have cw := pRead (w := wr.drew) (L := L) (hS.frame (fun _ _ _ => ⟨rfl, rfl⟩)) (some ⟨w.heap.size + 1 + 1, 0, none⟩) (L.length + 5) (by unfold maxLen; omega) (by omega) (by unfold maxLen; omega) hz (hA.texts hb) (fun ib io e => by cases e; rw [t2]; omega) (by have := h.rl i m hm; omega)
      have x0 : wr.cell? ⟨w.heap.size, 0, none⟩ = some (.pointer (some ⟨a.sB i, 0, none⟩)) := hBx5.cell (o := 0) rfl
      clear hI hf hB0 hB4 hBx hBo hb4 hA4 o5 hB
      unfold ptr at cw
      have cr := fun (τ2 : Nat → Tag) (w6 : World) (A2 : RA) (hR : RepR w6 τ2 (3 + 2 * i) (a.rB i) m A2) (hI6 : TextsAt w6 ia L) => rRead hR ia L cap (by unfold maxLen; omega) hz hI6 (by have := h.rl i m hm; omega)
      unfold ptr RWPost at cr
      unfold PWPost at cw
      have hrs := mRead_rs m L
      generalize mRead m L = r at *
      obtain ⟨r1, r2, m'⟩ := r
      simp only at cw cr hrs
      have hrl := h.rl i m hm
      have hc0 := h.c0
      have hrw := h.rl
      have q1 : (0 : Int) ≤ (L.length : Int) := by omega
      have q2 : (L.length : Int) ≤ ((L.length + 5 : Nat) : Int) := by omega
      have q3 : (L.length : Int) ≤ (L.length : Int) + 5 := by omega
      have q4 : L.length ≤ L.length + 5 := by omega
      have q5 : (0 : Int) ≤ (L.length : Int) + 5 := by omega
      go_wp2_with fail
      go_region_held3 (fun W => W.cell? ⟨w.heap.size, 0, none⟩ = some (.pointer (some ⟨a.sB i, 0, none⟩))) (simp [*]) ((go_at_call 21; refine cw.mono ?_; rintro e w6 ⟨τ2, A2, rfl, hS6, hT6⟩; have x6 := (World.cell?_of_block (a := ⟨w.heap.size, 0, none⟩) (hT6.block w.heap.size hBx5.lt (by rw [t0]; omega))).trans x0))
      have hT6' : Stp (2 + 2 * i) τ1 wr τ2 w6 := ⟨hT6.os, hT6.tape, hT6.output, hT6.size, hT6.tag, hT6.block⟩
      have h6b : LBase w6 τ2 wb M.length c a := h5.base.stp hT6' (by omega)
      have h6s : LS w6 τ2 a (M.set i m') M := h5.st.stepS hT6' hS6
      have k6 := k5.trans (hT6'.kp (by omega))
      have hBx6 := hT6'.blk hBx5 (by rw [t0]; simp; omega)
      have hBo6 := hT6'.blk hBo5 (by rw [t1]; simp; omega)
      have hb6 := hT6'.blk hb (by rw [t2]; simp; omega)
      have hI6 : TextsAt w6 ia L := hI5.keep (fun ib io e => hT6'.block ib (hf5 ib io e).1 (by rw [(hf5 ib io e).2]; omega))
      have hf6 : ∀ ib io, ia = some ⟨ib, io, none⟩ ∧ L ≠ [] → ib < w6.heap.size ∧ (τ2 ib).1 = 0 := fun ib io e => ⟨by have := (hf5 ib io e).1; have := hT6'.size; omega, by rw [hT6'.tag ib (hf5 ib io e).1]; exact (hf5 ib io e).2⟩
      have u0 : τ2 w.heap.size = (0, 0, 0) := (hT6'.tag _ hBx5.lt).trans t0
      have u1 : τ2 (w.heap.size + 1) = (0, 0, 0) := (hT6'.tag _ hBo5.lt).trans t1
      have u2 : τ2 (w.heap.size + 1 + 1) = (1, 7, a.K) := (hT6'.tag _ hb.lt).trans t2
      obtain ⟨Bs, hR⟩ := h6s.r i m hm
      have cr6 := cr τ2 w6 Bs hR hI6
      have y1 : w6.cell? ⟨w.heap.size, 1, none⟩ = some (.pointer (some ⟨a.rB i, 0, none⟩)) := hBx6.cell (o := 1) rfl
      have y5 : w6.cell? ⟨w.heap.size + 1, 6, none⟩ = some (.slice ia L.length cap) := hBo6.cell (o := 6) rfl
      clear cw cr hI5 hf5 hBx5 hBo5 hb h5 k5 t0 t1 t2 hT6 hT6' hS6 hS x0 hB5 hwt
      go_wp2_with fail
      refine cr6.mono ?_
      rintro e w7 ⟨τ3, B3, rfl, hR7, hT7⟩
      clear cr6
      have h7b : LBase w7 τ3 wb M.length c a := h6b.stp hT7 (by omega)
      have h7s : LS w7 τ3 a (M.set i m') (M.set i m') := h6s.stepR hT7 hR7
      have k7 := k6.trans (hT7.kp (by omega))
      have hBo7 := hT7.blk hBo6 (by rw [u1]; simp; omega)
      have hb7 := hT7.blk hb6 (by rw [u2]; simp; omega)
      have hI7 : TextsAt w7 ia L := hI6.keep (fun ib io e => hT7.block ib (hf6 ib io e).1 (by rw [(hf6 ib io e).2]; omega))
      have v2 : τ3 (w.heap.size + 1 + 1) = (1, 7, a.K) := (hT7.tag _ hb6.lt).trans u2
      have z5 : w7.cell? ⟨w.heap.size + 1, 6, none⟩ = some (.slice ia L.length cap) := hBo7.cell (o := 6) rfl
      clear hI6 hf6 hBx6 hBo6 hb6 h6b h6s k6 u0 u1 u2 hT7 hR7 hR y1 y5
      go_wp2_with fail
      go_loopw [14, 15] (fun u14 u15 wr => ∃ (k nq : Nat), k ≤ L.length + 5 ∧ u14 = .bool true ∧ u15 = .int .i64 k ∧ wr = w7.drewN nq) (fun _ u15 _ => L.length + 5 - (intOf u15).toNat)
      case atStart => exact ⟨0, 0, Nat.zero_le _, rfl, rfl, rfl⟩
      case round =>
        obtain ⟨k, nq, hk, rfl, rfl, rfl⟩ := hrel
        by_cases hlt : k < L.length + 5
        · by_cases hkn : k < L.length
          · have hx : L[k]? = some L[k] := List.getElem?_eq_getElem hkn
            obtain ⟨ib, io, rfl, e1⟩ := hI7 k _ hx
            have d1 := hb7.cell (hA.head k _ hx)
            generalize L[k] = xk at *
            have s1 := str_beq (rfl : xk = xk)
            clear hI7 hx
            go_wp2_with fail
            go_quiet (fail)
            go_wp2_with fail
            go_roundw
            case rel => exact ⟨k + 1, _, by omega, rfl, by go_num, rfl⟩
            case measure => simp [intOf]; omega
          · have d1 := hA.tail (k - L.length) (by omega)
            rw [show L.length + (k - L.length) = k by omega] at d1
            have d1 := hb7.cell d1
            clear hI7
            go_wp2_with fail
            go_roundw
            case rel => exact ⟨k + 1, _, by omega, rfl, by go_num, rfl⟩
            case measure => simp [intOf]; omega
        · clear hI7
          have hk5 : k = L.length + 5 := by omega
          subst hk5
          have ct := strings_any (w := w7.drewN nq) (h7b.frame (fun _ _ _ => ⟨rfl, rfl⟩)) (w.heap.size + 1 + 1) (L.length + 5) arr hb7 hA.size v2 (by omega) hJ h0 (by omega)
          unfold ptr at ct
          go_wp2_with fail
          refine ct.mono ?_
          rintro e w8 ⟨rfl, τ4, a', h8b, e1, e2, e3, e4, hT8⟩
          clear ct
          go_wp2_with fail
          go_ret
          have hT8' : Stp 1 τ3 w7 τ4 w8 := ⟨hT8.os, hT8.tape, hT8.output, hT8.size, hT8.tag, hT8.block⟩
          exact ⟨rfl, τ4, a', M.set i m', c + 1, ⟨by rw [List.length_set]; exact h8b, (h7s.stp1 hT8').congr e3 e4, rl_set hrw (by omega) (by omega), by omega⟩, by omega, by omega, by omega, by omega, k7.trans (hT8'.kp (by omega))⟩

end
end Go.Proofs.YteoahlieielcdaaGreat
