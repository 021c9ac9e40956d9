/-
  The document's answer, its smallest functions: pick, good, part.
-/
import Derived.Test.YteoahlieielcdaaGreatChecked
import Derived.Test.YteoahlieielcdaaGreatBase
namespace Go.Proofs.YteoahlieielcdaaGreat
open Go Go.RowKit

set_option maxHeartbeats 400000 in
theorem pick_any (c n : Int) (w : World) (hc : -9223372036854775808 ≤ c) (hc' : c ≤ 9223372036854775807) (hn : 0 < n) (hn' : n ≤ 1000) :
    Calls Tryz.prog 57 #[.int .i64 c, .int .i64 n] w fun e w' => e = .returned (.int .i64 (pickOf c n)) ∧ w' = w := by
  by_cases h : c < 0
  · go_enter Tryz.func57, Tryz.ntmps57
    go_wp2
    go_ret
    exact ⟨ret_int (by rw [← pick_neg c n h]), rfl⟩
  · go_enter Tryz.func57, Tryz.ntmps57
    go_wp2
    go_ret
    exact ⟨ret_int (by rw [← pick_pos c n (by omega)]), rfl⟩

set_option maxHeartbeats 400000 in
theorem good_any (s : ByteArray) (w : World) (hs : s.size ≤ maxLen) :
    Calls Tryz.prog 94 #[.string s] w fun e w' => e = .returned (.bool (goodKey s)) ∧ w' = w := by
  unfold maxLen at hs
  by_cases h1 : 1 ≤ s.size
  · by_cases h2 : s.size ≤ 8
    · go_enter Tryz.func94, Tryz.ntmps94
      go_wp2
      go_ret
      exact ⟨ret_bool (by simp [goodKey, h1, h2]; omega), rfl⟩
    · go_enter Tryz.func94, Tryz.ntmps94
      go_wp2
      go_ret
      exact ⟨ret_bool (by simp [goodKey, h2]; omega), rfl⟩
  · go_enter Tryz.func94, Tryz.ntmps94
    go_wp2
    go_ret
    exact ⟨ret_bool (by simp [goodKey]; omega), rfl⟩

set_option maxHeartbeats 400000 in
theorem part_any (b : Nat) (n : Int) (s : ByteArray) (w : World) (hs : s.size ≤ 1000) (hn : 0 < n) (hn' : n ≤ 4) (hp : w.cell? ⟨b, 0, none⟩ = some (.int .i64 n)) :
    Calls Tryz.prog 95 #[.pointer (some ⟨b, 0, none⟩), .string s] w fun e w' => e = .returned (.int .i64 (partOf n s)) ∧ w' = w := by
  go_enter Tryz.func95, Tryz.ntmps95
  go_wp2
  go_loop [5, 6] (fun m i => ∃ k : Nat, k ≤ s.size ∧ i = .int .i64 k ∧ m = .int .i64 (byteSum (s.data.toList.take k))) (fun _ i => s.size - (intOf i).toNat)
  case atStart => exact ⟨0, Nat.zero_le _, rfl, rfl⟩
  case round =>
    obtain ⟨k, hk, rfl, rfl⟩ := hrel
    have hd := byteSum_bd (s.data.toList.take k)
    have hl : (s.data.toList.take k).length ≤ k := List.length_take_le _ _
    by_cases hlt : k < s.size
    · have HS : Hid (byteSum (s.data.toList.take (k + 1)) = byteSum (s.data.toList.take k) + (s[k].toNat : Int)) := by
        rw [take_snoc s k hlt]; exact byteSum_snoc _ _
      go_wp2
      go_round
      case rel => exact ⟨k + 1, by omega, by go_num, by rw [HS.out, wrap_byte, wrap_id (by omega) (by have := s[k].toNat_lt; omega)]⟩
      case measure => simp [intOf]; omega
    · have hk' : k = s.size := by omega
      go_wp2
      go_ret
      exact ⟨ret_int (by rw [List.take_of_length_le (by simp), Int.tmod_eq_emod_of_nonneg (byteSum_bd _).1]; rfl), rfl⟩

end Go.Proofs.YteoahlieielcdaaGreat

/-
  How a store of the document's answer lies in memory: blocks with tags. The look for a write.
-/
namespace Go.Proofs.YteoahlieielcdaaGreat
open Go Go.RowKit

def mwCells (iv : Value) (m : MW) : Array Value :=
  #[iv, .bool (m.prep 0), .bool (m.prep 1), .bool (m.prep 2), .bool (m.prep 3), .bool (m.comm 0), .bool (m.comm 1), .bool (m.comm 2), .bool (m.comm 3), .bool m.canc]

/-- where the reads of a store lie -/
structure RB where
  rb : Nat → Nat
  kv : Nat → Value
  av : Nat → Value
  fv : Nat → Value

/-- where the parts of a store lie -/
structure RA where
  arr : Value
  rv : Value
  wb : Nat → Nat
  iv : Nat → Value
  B : RB

def mrCells (B : RB) (i : Nat) (r : MR) : Array Value := #[B.kv i, B.av i, B.fv i, .bool r.fin]

/-- the reads of a store -/
structure RdR (w : World) (τ : Nat → Tag) (sid : Nat) (rv : Value) (rs : List MR) (B : RB) : Prop where
  arr : w.ownsRow 0 191 1 rv rs.length ((List.range rs.length).map (fun i => ptr (B.rb i)))
  arrTag : ∀ k, rv.ownBlock = some k → τ k = (sid, 4, 0)
  rd : ∀ (i : Nat) (r : MR), rs[i]? = some r → Blk w (B.rb i) (mrCells B i r) 195
  rdTag : ∀ i, i < rs.length → τ (B.rb i) = (sid, 5, i)
  ks : ∀ (i : Nat) (r : MR), rs[i]? = some r → w.ownsRow 0 9 1 (B.kv i) r.keys.length (r.keys.map .string)
  ksTag : ∀ i k, i < rs.length → (B.kv i).ownBlock = some k → τ k = (sid, 6, i)
  aq : ∀ (i : Nat) (r : MR), rs[i]? = some r → w.ownsRow 0 4 1 (B.av i) r.keys.length ((List.range r.keys.length).map (fun j => .bool (r.asked j)))
  aqTag : ∀ i k, i < rs.length → (B.av i).ownBlock = some k → τ k = (sid, 7, i)
  fs : ∀ (i : Nat) (r : MR), rs[i]? = some r → w.ownsRow 0 3 1 (B.fv i) r.keys.length ((List.range r.keys.length).map (fun j => .int .i64 (r.found j)))
  fsTag : ∀ i k, i < rs.length → (B.fv i).ownBlock = some k → τ k = (sid, 8, i)

theorem RdR.frame {w w' : World} {τ τ' : Nat → Tag} {sid : Nat} {rv : Value} {rs : List MR} {B : RB} (h : RdR w τ sid rv rs B)
    (hf : ∀ k, k < w.heap.size → (τ k).1 = sid → 4 ≤ (τ k).2.1 → w'.heap[k]? = w.heap[k]? ∧ τ' k = τ k) : RdR w' τ' sid rv rs B := by
  have hblk : ∀ {k : Nat} {c : Array Value} {t : TypeId} {g g' : Nat}, 4 ≤ g → Blk w k c t → τ k = (sid, g, g') → Blk w' k c t ∧ τ' k = (sid, g, g') := by
    intro k c t g g' hg hb ht
    obtain ⟨e1, e2⟩ := hf k hb.lt (by rw [ht]) (by rw [ht]; exact hg)
    exact ⟨hb.of_eq e1, e2.trans ht⟩
  have hrow : ∀ {e : TypeId} {sz : Nat} {v : Value} {n : Nat} {xs : List Value} {g g' : Nat}, 4 ≤ g → w.ownsRow 0 e sz v n xs → (∀ k, v.ownBlock = some k → τ k = (sid, g, g')) → w'.ownsRow 0 e sz v n xs ∧ ∀ k, v.ownBlock = some k → τ' k = (sid, g, g') := by
    intro e sz v n xs g g' hg ho hv
    refine ⟨row_of_block ho (fun k hk => (hf k (row_ge ho k hk).2 (by rw [hv k hk]) (by rw [hv k hk]; exact hg)).1), fun k hk => ?_⟩
    rw [(hf k (row_ge ho k hk).2 (by rw [hv k hk]) (by rw [hv k hk]; exact hg)).2, hv k hk]
  have hat : ∀ {i : Nat}, i < rs.length → ∃ r, rs[i]? = some r := fun hi => ⟨_, List.getElem?_eq_getElem hi⟩
  refine ⟨(hrow (by omega) h.arr h.arrTag).1, (hrow (by omega) h.arr h.arrTag).2, fun i r hr => (hblk (by omega) (h.rd i r hr) (h.rdTag i (lt_of_some hr))).1, fun i hi => ?_,
    fun i r hr => (hrow (by omega) (h.ks i r hr) (fun k => h.ksTag i k (lt_of_some hr))).1, fun i k hi => ?_,
    fun i r hr => (hrow (by omega) (h.aq i r hr) (fun k => h.aqTag i k (lt_of_some hr))).1, fun i k hi => ?_,
    fun i r hr => (hrow (by omega) (h.fs i r hr) (fun k => h.fsTag i k (lt_of_some hr))).1, fun i k hi => ?_⟩
  · obtain ⟨r, hr⟩ := hat hi
    exact (hblk (by omega) (h.rd i r hr) (h.rdTag i hi)).2
  · obtain ⟨r, hr⟩ := hat hi
    exact (hrow (by omega) (h.ks i r hr) (fun k => h.ksTag i k hi)).2 k
  · obtain ⟨r, hr⟩ := hat hi
    exact (hrow (by omega) (h.aq i r hr) (fun k => h.aqTag i k hi)).2 k
  · obtain ⟨r, hr⟩ := hat hi
    exact (hrow (by omega) (h.fs i r hr) (fun k => h.fsTag i k hi)).2 k

structure RepR (w : World) (τ : Nat → Tag) (sid b : Nat) (s : MS) (A : RA) : Prop where
  ok : MOk s
  blk : Blk w b #[.int .i64 s.parts, .int .i64 s.mode, A.arr, A.rv] 188
  tag : τ b = (sid, 0, 0)
  arr : w.ownsRow 0 180 1 A.arr s.ws.length ((List.range s.ws.length).map (fun i => ptr (A.wb i)))
  arrTag : ∀ k, A.arr.ownBlock = some k → τ k = (sid, 1, 0)
  wr : ∀ (i : Nat) (m : MW), s.ws[i]? = some m → Blk w (A.wb i) (mwCells (A.iv i) m) 184
  wrTag : ∀ i, i < s.ws.length → τ (A.wb i) = (sid, 2, i)
  it : ∀ (i : Nat) (m : MW), s.ws[i]? = some m → w.ownsRow 0 70 2 (A.iv i) m.items.length (kvCells m.items)
  itTag : ∀ i k, i < s.ws.length → (A.iv i).ownBlock = some k → τ k = (sid, 3, i)
  reads : RdR w τ sid A.rv s.rs A.B

section
variable {w : World} {τ : Nat → Tag} {sid b : Nat} {s : MS} {A : RA}

theorem mFind_none {s : MS} {n : Int} (h : mFind s n = none) : n < 1 ∨ (s.ws.length : Int) < n ∨ (1 ≤ n ∧ n ≤ s.ws.length ∧ ∃ m, s.ws[(n - 1).toNat]? = some m ∧ m.canc = true) := by
  unfold mFind at h
  split at h
  · omega
  · rename_i hb
    have hlt : (n - 1).toNat < s.ws.length := by omega
    rw [List.getElem?_eq_getElem hlt] at h
    simp only at h
    refine Or.inr (Or.inr ⟨by omega, by omega, _, List.getElem?_eq_getElem hlt, ?_⟩)
    cases hc : s.ws[(n - 1).toNat].canc
    · rw [hc] at h; simp at h
    · rfl
theorem mFind_some {s : MS} {n : Int} {m : MW} (h : mFind s n = some m) : 1 ≤ n ∧ n ≤ s.ws.length ∧ s.ws[(n - 1).toNat]? = some m ∧ m.canc = false := by
  unfold mFind at h
  split at h
  · cases h
  · rename_i hb
    have hlt : (n - 1).toNat < s.ws.length := by omega
    rw [List.getElem?_eq_getElem hlt] at h
    simp only at h
    split at h
    · cases h
    · rename_i hc
      cases h
      exact ⟨by omega, by omega, List.getElem?_eq_getElem hlt, by simpa using hc⟩

theorem RepR.cParts (h : RepR w τ sid b s A) : w.cell? ⟨b, 0, none⟩ = some (.int .i64 s.parts) := h.blk.cell (o := 0) rfl
theorem RepR.cArr (h : RepR w τ sid b s A) : ∃ a cap, A.arr = .slice a s.ws.length cap ∧ w.cell? ⟨b, 2, none⟩ = some (.slice a s.ws.length cap) := by
  obtain ⟨a, cap, hv⟩ := row_len h.arr
  exact ⟨a, cap, hv, by rw [← hv]; exact h.blk.cell (o := 2) rfl⟩
/-- the array of the writes, where there is one, and the write at a place -/
theorem RepR.cAt (h : RepR w τ sid b s A) {i : Nat} {m : MW} (hm : s.ws[i]? = some m) :
    ∃ g cap, w.cell? ⟨b, 2, none⟩ = some (.slice (some ⟨g, 0, none⟩) s.ws.length cap) ∧ w.cell? ⟨g, i, none⟩ = some (.pointer (some ⟨A.wb i, 0, none⟩)) := by
  have hi : i < s.ws.length := (List.getElem?_eq_some_iff.1 hm).1
  obtain ⟨g, cap, hv, _, _, hcell, _⟩ := row_form h.arr (by omega)
  refine ⟨g, cap, by rw [← hv]; exact h.blk.cell (o := 2) rfl, ?_⟩
  rw [hcell i (by omega), List.getElem?_map, List.getElem?_range hi]
  rfl
theorem RepR.cCanc (h : RepR w τ sid b s A) {i : Nat} {m : MW} (hm : s.ws[i]? = some m) : w.cell? ⟨A.wb i, 9, none⟩ = some (.bool m.canc) := (h.wr i m hm).cell (o := 9) rfl

set_option maxRecDepth 100000 in
set_option maxHeartbeats 400000 in
theorem rwrite_none (h : RepR w τ sid b s A) (n : Int) (hn : -9223372036854775808 ≤ n) (hn' : n ≤ 9223372036854775807) (hf : mFind s n = none) :
    Calls Tryz.prog 98 #[ptr b, .int .i64 n] w fun e w' => e = .returned (.pointer none) ∧ w' = w := by
  have hlen := h.ok.len
  unfold ptr
  rcases mFind_none hf with h1 | h1 | ⟨h1, h2, m, hm, hc⟩
  · go_enter Tryz.func98, Tryz.ntmps98
    go_wp2
    go_ret
    exact ⟨rfl, rfl⟩
  · have h3 : ¬ n < 1 := by omega
    obtain ⟨a, cap, hv, c2⟩ := h.cArr
    clear hv
    go_enter Tryz.func98, Tryz.ntmps98
    go_wp2
    go_ret
    exact ⟨rfl, rfl⟩
  · have h3 : ¬ n < 1 := by omega
    have h4 : ¬ (s.ws.length : Int) < n := by omega
    obtain ⟨i, hi⟩ : ∃ i : Nat, n = (i : Int) + 1 := ⟨(n - 1).toNat, by omega⟩
    subst hi
    have hx : ((i : Int) + 1 - 1).toNat = i := by omega
    rw [hx] at hm
    obtain ⟨g, cap, c2, ci⟩ := h.cAt hm
    have c9 := h.cCanc hm
    rw [hc] at c9
    clear hf hm hc hx
    go_enter Tryz.func98, Tryz.ntmps98
    go_wp2
    go_ret
    exact ⟨rfl, rfl⟩

set_option maxRecDepth 100000 in
set_option maxHeartbeats 400000 in
theorem rwrite_some (h : RepR w τ sid b s A) (n : Int) (m : MW) (hf : mFind s n = some m) :
    Calls Tryz.prog 98 #[ptr b, .int .i64 n] w fun e w' => e = .returned (ptr (A.wb (n - 1).toNat)) ∧ w' = w := by
  have hlen := h.ok.len
  unfold ptr
  obtain ⟨h1, h2, hm, hc⟩ := mFind_some hf
  have h3 : ¬ n < 1 := by omega
  have h4 : ¬ (s.ws.length : Int) < n := by omega
  obtain ⟨i, hi⟩ : ∃ i : Nat, n = (i : Int) + 1 := ⟨(n - 1).toNat, by omega⟩
  subst hi
  have hx : ((i : Int) + 1 - 1).toNat = i := by omega
  rw [hx] at hm ⊢
  obtain ⟨g, cap, c2, ci⟩ := h.cAt hm
  have c9 := h.cCanc hm
  rw [hc] at c9
  clear hf hm hc hx
  go_enter Tryz.func98, Tryz.ntmps98
  go_wp2
  go_ret
  exact ⟨rfl, rfl⟩

end
end Go.Proofs.YteoahlieielcdaaGreat

/-
  The document's answer: on, Part, Prepare, Commit, Cancel, New.
-/
namespace Go.Proofs.YteoahlieielcdaaGreat
open Go Go.RowKit

theorem onPart_take (n : Int) (l : List KV) (p : Int) (k : Nat) (x : KV) (h : l[k]? = some x) : onPart n (l.take (k + 1)) p = (onPart n (l.take k) p || decide (partOf n x.1 = p)) := by
  have : l.take (k + 1) = l.take k ++ [x] := by
    obtain ⟨hk, rfl⟩ := List.getElem?_eq_some_iff.1 h
    exact List.take_succ_eq_append_getElem hk
  simp [onPart, this]
theorem onPart_mem (n : Int) (l : List KV) (p : Int) (x : KV) (h : x ∈ l) (hx : partOf n x.1 = p) : onPart n l p = true := by
  simp only [onPart, List.any_eq_true, decide_eq_true_eq]
  exact ⟨x, h, hx⟩

section
variable {w : World} {τ : Nat → Tag} {sid b : Nat} {s : MS} {A : RA}

/-- the items of a write, where there are some -/
theorem RepR.cItems (h : RepR w τ sid b s A) {i : Nat} {m : MW} (hm : s.ws[i]? = some m) (hl : 0 < m.items.length) :
    ∃ g cap, w.cell? ⟨A.wb i, 0, none⟩ = some (.slice (some ⟨g, 0, none⟩) m.items.length cap) ∧ ∀ (k : Nat) (x : KV), m.items[k]? = some x → w.cell? ⟨g, k * 2, none⟩ = some (.string x.1) ∧ w.cell? ⟨g, k * 2 + 1, none⟩ = some (.string x.2) := by
  obtain ⟨g, cap, hv, _, _, hcell, _⟩ := row_form (h.it i m hm) hl
  refine ⟨g, cap, by rw [← hv]; exact (h.wr i m hm).cell (o := 0) rfl, fun k x hx => ?_⟩
  have hk : k < m.items.length := (List.getElem?_eq_some_iff.1 hx).1
  obtain ⟨e1, e2⟩ := kvCells_at _ _ _ hx
  exact ⟨by rw [hcell _ (by omega), e1], by rw [hcell _ (by omega), e2]⟩

set_option maxRecDepth 100000 in
set_option maxHeartbeats 400000 in
theorem on_any (h : RepR w τ sid b s A) {i : Nat} {m : MW} (hm : s.ws[i]? = some m) (p : Int) :
    Calls Tryz.prog 99 #[ptr b, ptr (A.wb i), .int .i64 p] w fun e w' => e = .returned (.bool (onPart s.parts m.items p)) ∧ w' = w := by
  have hp1 := h.ok.p1
  have hp4 := h.ok.p4
  obtain ⟨hil, hig⟩ := h.ok.items i m hm
  have cP := h.cParts
  unfold ptr
  by_cases hl : m.items.length = 0
  · have hnil : m.items = [] := List.eq_nil_of_length_eq_zero hl
    obtain ⟨a, cap, hv⟩ := row_len (h.it i m hm)
    have c0 : w.cell? ⟨A.wb i, 0, none⟩ = some (.slice a 0 cap) := by
      have := (h.wr i m hm).cell (o := 0) (v := A.iv i) rfl
      rw [hv, hl] at this; exact this
    have hr : onPart s.parts m.items p = false := by simp [hnil, onPart]
    rw [hr]
    clear hr hnil hv hl hm hil
    go_enter Tryz.func99, Tryz.ntmps99
    go_wp2
    refine wp_loop_rounds 1 ?_
    rw [rounds_succ]
    go_wp2
    go_ret
    exact ⟨rfl, rfl⟩
  · obtain ⟨g, cap, c0, hcell⟩ := h.cItems hm (by omega)
    go_enter Tryz.func99, Tryz.ntmps99
    go_wp2
    go_loop [7] (fun u => ∃ k : Nat, k ≤ m.items.length ∧ u = .int .i64 k ∧ Hid (onPart s.parts (m.items.take k) p = false)) (fun u => m.items.length - (intOf u).toNat)
    case atStart => exact ⟨0, Nat.zero_le _, rfl, by simp [Hid, onPart]⟩
    case round =>
      obtain ⟨k, hk, rfl, HO⟩ := hrel
      by_cases hlt : k < m.items.length
      · have hx : m.items[k]? = some m.items[k] := List.getElem?_eq_getElem hlt
        obtain ⟨ck, _⟩ := hcell k _ hx
        clear hcell
        have hgs := goodKV_size (hig _ (List.getElem_mem hlt))
        have hst := onPart_take s.parts m.items p k _ hx
        have hme := onPart_mem s.parts m.items p m.items[k] (List.getElem_mem hlt)
        rw [HO.out] at hst
        generalize m.items[k] = x at *
        obtain ⟨kk, vv⟩ := x
        simp only at ck hgs hst hme
        by_cases he : partOf s.parts kk = p
        · have Hme : Hid (onPart s.parts m.items p = true) := hme he
          clear hme hst hx hig
          have heb : (partOf s.parts kk == p) = true := beq_iff_eq.2 he
          clear he
          go_wp2_with (go_at_call 95; refine (part_any _ _ _ _ (by omega) (by omega) (by omega) cP).mono ?_; rintro e w' ⟨rfl, rfl⟩)
          go_ret
          exact ⟨ret_bool Hme.out.symm, rfl⟩
        · have Hst : Hid (onPart s.parts (m.items.take (k + 1)) p = false) := by unfold Hid; rw [hst]; simp [he]
          clear hme hst hx hig
          have heb : (partOf s.parts kk == p) = false := beq_eq_false_iff_ne.2 he
          clear he
          go_wp2_with (go_at_call 95; refine (part_any _ _ _ _ (by omega) (by omega) (by omega) cP).mono ?_; rintro e w' ⟨rfl, rfl⟩)
          go_round
          case rel => exact ⟨k + 1, by omega, by go_num, Hst⟩
          case measure => simp [intOf]; omega
      · have Hf : Hid (onPart s.parts m.items p = false) := by unfold Hid; rw [← HO.out, List.take_of_length_le (by omega)]
        go_wp2
        go_ret
        exact ⟨ret_bool Hf.out.symm, rfl⟩

end
end Go.Proofs.YteoahlieielcdaaGreat

/-
  The document's answer: Part, Prepare, Commit, Cancel.
-/
namespace Go.Proofs.YteoahlieielcdaaGreat
open Go Go.RowKit

section
variable {w : World} {τ : Nat → Tag} {sid b : Nat} {s : MS} {A : RA}

/-- ONE WRITE's BLOCK IS WRITTEN ANEW, its items stay. -/
theorem RepR.setW (h : RepR w τ sid b s A) {i : Nat} {m m' : MW} (hm : s.ws[i]? = some m) (hit : m'.items = m.items) {w' : World} (hg : w.grownBy w' (some (A.wb i))) (hb : Blk w' (A.wb i) (mwCells (A.iv i) m') 184) :
    RepR w' τ sid b { s with ws := s.ws.set i m' } A := by
  have hi := lt_of_some hm
  have hti := h.wrTag i hi
  have hne : ∀ k, τ k ≠ (sid, 2, i) → k < w.heap.size → w'.heap[k]? = w.heap[k]? := fun k hk hl => hg.block k hl (fun e => hk (by rw [Option.some.inj e]; exact hti))
  have hrow : ∀ {e : TypeId} {sz : Nat} {v : Value} {n : Nat} {xs : List Value}, w.ownsRow 0 e sz v n xs → (∀ k, v.ownBlock = some k → τ k ≠ (sid, 2, i)) → w'.ownsRow 0 e sz v n xs := by
    intro e sz v n xs ho hv
    refine ho.kept hg ?_
    cases hob : v.ownBlock with
    | none => exact Or.inl rfl
    | some k => exact Or.inr (fun e => hv k hob (by rw [Option.some.inj e]; exact hti))
  refine ⟨⟨h.ok.p1, h.ok.p4, by simpa using h.ok.len, fun j mj hj => ?_, h.ok.keys, h.ok.opn⟩, ?_, h.tag, ?_, h.arrTag, fun j mj hj => ?_, ?_, fun j mj hj => ?_, ?_, h.reads.frame (fun k hk _ h4 => ⟨hne k (fun e => by rw [e] at h4; simp at h4) hk, rfl⟩)⟩
  · rcases set_some hj with ⟨rfl, rfl⟩ | ⟨e, hj⟩
    · rw [hit]; exact h.ok.items i m hm
    · exact h.ok.items j mj hj
  · exact h.blk.of_eq (hne b (by rw [h.tag]; simp) h.blk.lt)
  · simp only [List.length_set]
    exact hrow h.arr (fun k hk => by rw [h.arrTag k hk]; simp)
  · rcases set_some hj with ⟨rfl, rfl⟩ | ⟨e, hj⟩
    · exact hb
    · have hw := h.wr j mj hj
      exact hw.of_eq (hne _ (by rw [h.wrTag j (lt_of_some hj)]; simp; omega) hw.lt)
  · simpa using h.wrTag
  · rcases set_some hj with ⟨rfl, rfl⟩ | ⟨e, hj⟩
    · rw [hit]; exact hrow (h.it i m hm) (fun k hk => by rw [h.itTag i k hi hk]; simp)
    · exact hrow (h.it j mj hj) (fun k hk => by rw [h.itTag j k (lt_of_some hj) hk]; simp)
  · simpa using h.itTag

theorem RepR.cPrep (h : RepR w τ sid b s A) {i : Nat} {m : MW} (hm : s.ws[i]? = some m) {q : Nat} (hq : q < 4) : w.cell? ⟨A.wb i, 1 + q, none⟩ = some (.bool (m.prep q)) := by
  refine (h.wr i m hm).cell ?_
  match q, hq with
  | 0, _ => rfl
  | 1, _ => rfl
  | 2, _ => rfl
  | 3, _ => rfl
theorem RepR.cComm (h : RepR w τ sid b s A) {i : Nat} {m : MW} (hm : s.ws[i]? = some m) {q : Nat} (hq : q < 4) : w.cell? ⟨A.wb i, 5 + q, none⟩ = some (.bool (m.comm q)) := by
  refine (h.wr i m hm).cell ?_
  match q, hq with
  | 0, _ => rfl
  | 1, _ => rfl
  | 2, _ => rfl
  | 3, _ => rfl
theorem mwCells_prep (iv : Value) (m : MW) {q : Nat} (hq : q < 4) : (mwCells iv m).setIfInBounds (1 + q) (.bool true) = mwCells iv { m with prep := put m.prep q } := by
  match q, hq with
  | 0, _ => simp [mwCells, put]
  | 1, _ => simp [mwCells, put]
  | 2, _ => simp [mwCells, put]
  | 3, _ => simp [mwCells, put]
theorem mwCells_comm (iv : Value) (m : MW) {q : Nat} (hq : q < 4) : (mwCells iv m).setIfInBounds (5 + q) (.bool true) = mwCells iv { m with comm := put m.comm q } := by
  match q, hq with
  | 0, _ => simp [mwCells, put]
  | 1, _ => simp [mwCells, put]
  | 2, _ => simp [mwCells, put]
  | 3, _ => simp [mwCells, put]
theorem mwCells_canc (iv : Value) (m : MW) : (mwCells iv m).setIfInBounds 9 (.bool true) = mwCells iv { m with canc := true } := by
  simp [mwCells]

theorem RepR.prep (h : RepR w τ sid b s A) {i : Nat} {m : MW} (hm : s.ws[i]? = some m) {q : Nat} (hq : q < 4) :
    RepR (w.setCell ⟨A.wb i, 1 + q, none⟩ (.bool true)) τ sid b { s with ws := s.ws.set i { m with prep := put m.prep q } } A :=
  h.setW (m' := { m with prep := put m.prep q }) hm rfl (grownBy_setCell _ _ _) (by rw [← mwCells_prep _ _ hq]; exact (h.wr i m hm).set _ _)
theorem RepR.comm (h : RepR w τ sid b s A) {i : Nat} {m : MW} (hm : s.ws[i]? = some m) {q : Nat} (hq : q < 4) :
    RepR (w.setCell ⟨A.wb i, 5 + q, none⟩ (.bool true)) τ sid b { s with ws := s.ws.set i { m with comm := put m.comm q } } A :=
  h.setW (m' := { m with comm := put m.comm q }) hm rfl (grownBy_setCell _ _ _) (by rw [← mwCells_comm _ _ hq]; exact (h.wr i m hm).set _ _)
theorem RepR.canc (h : RepR w τ sid b s A) {i : Nat} {m : MW} (hm : s.ws[i]? = some m) :
    RepR (w.setCell ⟨A.wb i, 9, none⟩ (.bool true)) τ sid b { s with ws := s.ws.set i { m with canc := true } } A :=
  h.setW (m' := { m with canc := true }) hm rfl (grownBy_setCell _ _ _) (by rw [← mwCells_canc]; exact (h.wr i m hm).set _ _)

/-- what a call of the document's answer that gives one error leaves -/
def RPost (w : World) (τ : Nat → Tag) (sid b : Nat) (A : RA) (r : Int × MS) (e : Ending) (w' : World) : Prop :=
  e = .returned (.int .i64 r.1) ∧ RepR w' τ sid b r.2 A ∧ Stp sid τ w τ w'

set_option maxRecDepth 100000 in
set_option maxHeartbeats 400000 in
theorem rPrepare (h : RepR w τ sid b s A) (n p : Int) (hn : -9223372036854775808 ≤ n) (hn' : n ≤ 9223372036854775807) :
    Calls Tryz.prog 60 #[ptr b, .int .i64 n, .int .i64 p] w (RPost w τ sid b A (mPrepare s n p)) := by
  cases hf : mFind s n with
  | none =>
    have Hr : Hid (mPrepare s n p = (7, s)) := by unfold Hid mPrepare; rw [hf]
    have c := rwrite_none h n hn hn' hf
    unfold ptr at c ⊢
    clear hf
    go_enter Tryz.func60, Tryz.ntmps60
    go_wp2_with fail
    refine c.mono ?_
    rintro e w' ⟨rfl, rfl⟩
    go_wp2_with fail
    go_ret
    rw [Hr.out]
    exact ⟨rfl, h, Stp.refl _ _ _⟩
  | some m =>
    obtain ⟨h1, h2, hm, hc⟩ := mFind_some hf
    have c := rwrite_some h n m hf
    generalize hi : (n - 1).toNat = i at *
    have con := on_any h hm p
    have hp4 := h.ok.p4
    have hp1 := h.ok.p1
    cases hon : onPart s.parts m.items p with
    | false =>
      have Hr : Hid (mPrepare s n p = (8, s)) := by unfold Hid mPrepare; rw [hf]; simp [hon]
      rw [hon] at con
      unfold ptr at c con ⊢
      clear hf hon
      go_enter Tryz.func60, Tryz.ntmps60
      go_wp2_with fail
      refine c.mono ?_
      rintro e w' ⟨rfl, rfl⟩
      go_wp2_with fail
      refine con.mono ?_
      rintro e w' ⟨rfl, rfl⟩
      go_wp2_with fail
      go_ret
      rw [Hr.out]
      exact ⟨rfl, h, Stp.refl _ _ _⟩
    | true =>
      obtain ⟨hb0, hb1⟩ := onPart_bd (by omega) hon
      obtain ⟨q, rfl⟩ := Int.eq_ofNat_of_zero_le hb0
      have hq : q < 4 := by omega
      have cp := h.cPrep hm hq
      have fp := (h.wr i m hm).frozen (1 + q)
      rw [hon] at con
      unfold ptr at c con ⊢
      cases hpq : m.prep q with
      | true =>
        have Hr : Hid (mPrepare s n q = (10, s)) := by unfold Hid mPrepare; rw [hf]; simp [hon, hpq]
        rw [hpq] at cp
        clear hf hon hpq
        go_enter Tryz.func60, Tryz.ntmps60
        go_wp2_with fail
        refine c.mono ?_
        rintro e w' ⟨rfl, rfl⟩
        go_wp2_with fail
        refine con.mono ?_
        rintro e w' ⟨rfl, rfl⟩
        go_wp2_with fail
        go_ret
        rw [Hr.out]
        exact ⟨rfl, h, Stp.refl _ _ _⟩
      | false =>
        have Hr : Hid (mPrepare s n q = (0, { s with ws := s.ws.set i { m with prep := put m.prep q } })) := by
          unfold Hid mPrepare; rw [hf]; simp [hon, hpq, setW, hi]
        rw [hpq] at cp
        have hR := h.prep hm hq
        clear hf hon hpq
        go_enter Tryz.func60, Tryz.ntmps60
        go_wp2_with fail
        refine c.mono ?_
        rintro e w' ⟨rfl, rfl⟩
        go_wp2_with fail
        refine con.mono ?_
        rintro e w' ⟨rfl, rfl⟩
        go_wp2_with fail
        go_ret
        rw [Hr.out]
        exact ⟨rfl, hR, (Stp.refl _ _ _).setCell (by rw [h.wrTag i (lt_of_some hm)]) _⟩

end
end Go.Proofs.YteoahlieielcdaaGreat
