/-
  The document's answer: Read.
-/
import Derived.Test.YteoahlieielcdaaGreatRef9
import Derived.Deep.Cut
namespace Go.Proofs.YteoahlieielcdaaGreat
open Go Go.RowKit

/-- a list of texts lies in memory, through a slice -/
def TextsAt (w : World) (a : Option Addr) (L : List ByteArray) : Prop :=
  ∀ (k : Nat) (x : ByteArray), L[k]? = some x → ∃ ib io, a = some ⟨ib, io, none⟩ ∧ w.cell? ⟨ib, io + k, none⟩ = some (.string x)
def sizesK (L : List ByteArray) : Prop := ∀ x ∈ L, x.size ≤ maxLen

section
variable {w : World} {τ : Nat → Tag} {sid b : Nat} {s : MS} {A : RA}

theorem openReads_take {l : List MR} {k : Nat} {r : MR} (h : l[k]? = some r) : openReads (l.take (k + 1)) = openReads (l.take k) + (if r.fin then 0 else 1) := by
  obtain ⟨hk, rfl⟩ := List.getElem?_eq_some_iff.1 h
  rw [List.take_succ_eq_append_getElem hk]
  unfold openReads
  rw [List.countP_append, List.countP_singleton]
  cases l[k].fin <;> simp
theorem openReads_le (l : List MR) : openReads l ≤ l.length := List.countP_le_length

theorem pushR_done (h : RepR w τ sid b s A) {wr w2 : World} {v : Nat → Value} {v2 : Value} {L : List ByteArray} {xs : Nat → List Value} {aa : Option Addr} {ca : Nat} {o : Obj} (hD : RD w wr v xs) (hx0 : xs 0 = L.map .string) (hx1 : xs 1 = (List.range L.length).map (fun _ => .bool false)) (hx2 : xs 2 = (List.range L.length).map (fun _ => .int .i64 0))
    (hl1 : 1 ≤ L.length) (hl8 : L.length ≤ 8) (hlg : ∀ x ∈ L, goodKey x = true) (hnd : L.Nodup) (hop : openReads s.rs < 50) (hav : A.rv = .slice aa s.rs.length ca) (hG : (wr.alloc o).grownBy w2 (Value.slice aa s.rs.length ca).ownBlock)
    (hO2 : w2.ownsRow 0 191 1 v2 (s.rs.length + 1) ((List.range s.rs.length).map (fun i => ptr (A.B.rb i)) ++ [.pointer (some ⟨w.heap.size, 0, none⟩)]))
    (hA : v2.ownBlock = (Value.slice aa s.rs.length ca).ownBlock ∨ v2.ownBlock = some (wr.alloc o).heap.size) :
    ∃ τ' A', RepR (w2.setCell ⟨b, 3, none⟩ v2) τ' sid b { s with rs := s.rs ++ [newMR L] } A' ∧ Stp sid τ w τ' (w2.setCell ⟨b, 3, none⟩ v2) := by
  have hB := hD.below
  have hW := hD.blk
  have hlt := hW.lt
  have hbs := h.blk.lt
  rw [← hav] at hG hA
  have harrlt : ∀ k, A.rv.ownBlock = some k → k < w.heap.size ∧ τ k = (sid, 4, 0) := fun k hk => ⟨(row_ge h.reads.arr k hk).2, h.reads.arrTag k hk⟩
  have hbl : ∀ k, k < wr.heap.size → A.rv.ownBlock ≠ some k → w2.heap[k]? = wr.heap[k]? := fun k hk hne =>
    (hG.block k (by simp; omega) (fun e => hne e.symm)).trans (Below.heap_alloc wr o k hk)
  have hset : ∀ k, k ≠ b → (w2.setCell ⟨b, 3, none⟩ v2).heap[k]? = w2.heap[k]? := fun k hk => Below.heap_setCell _ _ _ _ hk
  have hvge : ∀ j k, j < 3 → (v j).ownBlock = some k → w.heap.size + 1 ≤ k ∧ k < wr.heap.size := fun j k hj hk => row_ge (hD.row j hj) k hk
  have hbarr : A.rv.ownBlock ≠ some b := fun e => by have := h.reads.arrTag b e; rw [h.tag] at this; simp at this
  have hbw2 : Blk w2 b #[.int .i64 s.parts, .int .i64 s.mode, A.arr, A.rv] 188 := h.blk.of_eq ((hbl b (by omega) hbarr).trans (hB.block b hbs))
  have hv2b : ∀ k, v2.ownBlock = some k → A.rv.ownBlock = some k ∨ (wr.heap.size < k ∨ wr.heap.size ≤ k) := fun k hk => by
    rcases hA with e | e
    · exact Or.inl (by rw [← e]; exact hk)
    · rw [hk] at e
      have := Option.some.inj e
      simp at this
      exact Or.inr (Or.inr (by omega))
  have hrow : ∀ {j : Nat} {n : Nat} {ys : List Value} {t : TypeId}, j < 3 → rdTy j = t → xs j = ys → ys.length = n → (w2.setCell ⟨b, 3, none⟩ v2).ownsRow 0 t 1 (v j) n ys := by
    intro j n ys t hj ht hx hn
    have hO := hD.row j hj
    rw [ht, hx, hn] at hO
    exact row_base (row_of_block hO (fun k hk => by
      have := hvge j k hj hk
      exact (hset k (by omega)).trans (hbl k (by omega) (fun e => by have := (harrlt _ e).1; omega)))) (fun _ _ => Nat.zero_le _)
  obtain ⟨r1, r2⟩ := h.pushR (L := L) (w' := w2.setCell ⟨b, 3, none⟩ v2) (rb := w.heap.size) (kv := v 0) (av := v 1) (fv := v 2) (arr := v2) hl1 hl8 hlg hnd hop (Nat.le_refl _)
    (fun k hk => by have := hvge 0 k (by omega) hk; omega)
    (fun k hk => by have := hvge 1 k (by omega) hk; exact ⟨by omega, by omega, hD.dis 1 0 k (by omega) (by omega) (by omega) hk⟩)
    (fun k hk => by have := hvge 2 k (by omega) hk; exact ⟨by omega, by omega, hD.dis 2 0 k (by omega) (by omega) (by omega) hk, hD.dis 2 1 k (by omega) (by omega) (by omega) hk⟩)
    (fun k hk => by
      rcases hv2b k hk with e | e
      · exact Or.inl e
      · exact Or.inr ⟨by omega, by omega, fun e' => by have := hvge 0 k (by omega) e'; omega, fun e' => by have := hvge 1 k (by omega) e'; omega, fun e' => by have := hvge 2 k (by omega) e'; omega⟩)
    (fun k hk hkb hka => (hset k hkb).trans ((hbl k (by omega) hka).trans (hB.block k hk)))
    (by simpa using hbw2.set 3 v2)
    (row_of_block hO2 (fun k hk => hset k (fun e => by
      subst e
      rcases hv2b k hk with e | e
      · exact hbarr e
      · omega)))
    (hW.of_eq ((hset _ (by omega)).trans (hbl _ hlt (fun e => by have := (harrlt _ e).1; omega))))
    (hrow (by omega) rfl hx0 (by simp)) (hrow (by omega) rfl hx1 (by simp)) (hrow (by omega) rfl hx2 (by simp))
  refine ⟨_, _, r1, ⟨hG.os.trans hB.os, hG.tape.trans hB.tape, hG.output.trans hB.output, ?_, r2, fun k hk hs => ?_⟩⟩
  · have h1 := hG.size
    have h2 := hB.size
    simp at h1
    simp [World.setCell]
    omega
  · rw [hset k (fun e => hs (by rw [e, h.tag]))]
    exact (hbl k (by omega) (fun e => hs (by rw [h.reads.arrTag k e]))).trans (hB.block k hk)

theorem pushR_after (h : RepR w τ sid b s A) {w2 : World} {o : Obj} {aa : Option Addr} {ca : Nat} (hav : A.rv = .slice aa s.rs.length ca) (hG : (w.alloc o).grownBy w2 (Value.slice aa s.rs.length ca).ownBlock) :
    Blk w2 b #[.int .i64 s.parts, .int .i64 s.mode, A.arr, A.rv] 188 := by
  have hbl : ∀ k, k < w.heap.size → A.rv.ownBlock ≠ some k → w2.heap[k]? = w.heap[k]? := fun k hk hne =>
    (hG.block k (by simp; omega) (fun e => hne (by rw [hav, e]))).trans (Below.heap_alloc w o k hk)
  exact h.blk.of_eq (hbl b h.blk.lt (fun e => by have := h.reads.arrTag b e; rw [h.tag] at this; simp at this))

set_option maxRecDepth 100000 in
set_option maxHeartbeats 400000 in
theorem rRead_size (h : RepR w τ sid b s A) (a : Option Addr) (L : List ByteArray) (cap : Nat) (hL : L.length ≤ maxLen) (hs : L.length < 1 ∨ 8 < L.length) :
    Calls Tryz.prog 100 #[ptr b, .slice a L.length cap] w (RWPost w τ sid b (mRead s L)) := by
  have Hr : Hid (mRead s L = (0, 3, s)) := by
    unfold Hid mRead
    have : mKeys L = 3 := by unfold mKeys; rw [if_pos hs]
    rw [this]; simp
  unfold maxLen at hL
  unfold ptr
  by_cases h1 : L.length < 1
  · clear hs
    go_enter Tryz.func100, Tryz.ntmps100
    go_wp2
    go_ret2
    rw [Hr.out]
    exact ⟨τ, A, rfl, h, Stp.refl _ _ _⟩
  · have h2 : 8 < L.length := by omega
    clear hs
    go_enter Tryz.func100, Tryz.ntmps100
    go_wp2
    go_ret2
    rw [Hr.out]
    exact ⟨τ, A, rfl, h, Stp.refl _ _ _⟩

/-- the rows of a read that is being made -/
def rdXs (L : List ByteArray) (k0 k1 k2 : Nat) (j : Nat) : List Value := if j = 0 then (L.take k0).map .string else if j = 1 then (List.range k1).map (fun _ => .bool false) else if j = 2 then (List.range k2).map (fun _ => .int .i64 0) else []
theorem rdXs_len {L : List ByteArray} {k0 k1 k2 j : Nat} (hk : k0 ≤ L.length) : (rdXs L k0 k1 k2 j).length = if j = 0 then k0 else if j = 1 then k1 else if j = 2 then k2 else 0 := by
  unfold rdXs
  split
  · simp; omega
  · split
    · simp
    · split <;> simp
theorem rd_push0 {wr w2 : World} {v : Nat → Value} {L : List ByteArray} {k k1 k2 nq : Nat} {x : ByteArray} (h : RD w wr v (rdXs L k k1 k2)) (hx : L[k]? = some x) {o : Obj} {v2 : Value} (hG : ((wr.drewN nq).alloc o).grownBy w2 (v 0).ownBlock)
    (hO : w2.ownsRow (w.heap.size + 1) 9 1 v2 (k + 1) ((L.take k).map .string ++ [.string x])) (hA : v2.ownBlock = (v 0).ownBlock ∨ v2.ownBlock = some ((wr.drewN nq).alloc o).heap.size) :
    RD w (w2.setCell ⟨w.heap.size, 0, none⟩ v2) (fun i => if i = 0 then v2 else v i) (rdXs L (k + 1) k1 k2) := by
  have hk := lt_of_some hx
  have hr := h.push (j := 0) (by omega) (x := .string x) hG (by rw [rdXs_len (by omega)]; exact hO) hA
  have e : (fun i => if i = 0 then rdXs L k k1 k2 0 ++ [.string x] else rdXs L k k1 k2 i) = rdXs L (k + 1) k1 k2 := by
    funext i
    by_cases hi : i = 0
    · subst hi; simp [rdXs, take_atK hx]
    · simp [rdXs, hi]
  rw [e] at hr
  exact hr
theorem rd_push1 {wr w2 : World} {v : Nat → Value} {L : List ByteArray} {k0 k k2 nq : Nat} (h : RD w wr v (rdXs L k0 k k2)) (hk : k0 ≤ L.length) {o : Obj} {v2 : Value} (hG : ((wr.drewN nq).alloc o).grownBy w2 (v 1).ownBlock)
    (hO : w2.ownsRow (w.heap.size + 1) 4 1 v2 (k + 1) ((List.range k).map (fun _ => .bool false) ++ [.bool false])) (hA : v2.ownBlock = (v 1).ownBlock ∨ v2.ownBlock = some ((wr.drewN nq).alloc o).heap.size) :
    RD w (w2.setCell ⟨w.heap.size, 1, none⟩ v2) (fun i => if i = 1 then v2 else v i) (rdXs L k0 (k + 1) k2) := by
  have hr := h.push (j := 1) (by omega) (x := .bool false) hG (by rw [rdXs_len hk]; exact hO) hA
  have e : (fun i => if i = 1 then rdXs L k0 k k2 1 ++ [.bool false] else rdXs L k0 k k2 i) = rdXs L k0 (k + 1) k2 := by
    funext i
    by_cases hi : i = 1
    · subst hi; simp [rdXs, List.range_succ]
    · simp [rdXs, hi]
  rw [e] at hr
  exact hr
theorem rd_push2 {wr w2 : World} {v : Nat → Value} {L : List ByteArray} {k0 k1 k nq : Nat} (h : RD w wr v (rdXs L k0 k1 k)) (hk : k0 ≤ L.length) {o : Obj} {v2 : Value} (hG : ((wr.drewN nq).alloc o).grownBy w2 (v 2).ownBlock)
    (hO : w2.ownsRow (w.heap.size + 1) 3 1 v2 (k + 1) ((List.range k).map (fun _ => .int .i64 0) ++ [.int .i64 0])) (hA : v2.ownBlock = (v 2).ownBlock ∨ v2.ownBlock = some ((wr.drewN nq).alloc o).heap.size) :
    RD w (w2.setCell ⟨w.heap.size, 2, none⟩ v2) (fun i => if i = 2 then v2 else v i) (rdXs L k0 k1 (k + 1)) := by
  have hr := h.push (j := 2) (by omega) (x := .int .i64 0) hG (by rw [rdXs_len hk]; exact hO) hA
  have e : (fun i => if i = 2 then rdXs L k0 k1 k 2 ++ [.int .i64 0] else rdXs L k0 k1 k i) = rdXs L k0 k1 (k + 1) := by
    funext i
    by_cases hi : i = 2
    · subst hi; simp [rdXs, List.range_succ]
    · by_cases h0 : i = 0
      · subst h0; simp [rdXs]
      · by_cases h1 : i = 1
        · subst h1; simp [rdXs]
        · simp [rdXs, hi, h0, h1]
  rw [e] at hr
  exact hr

set_option maxRecDepth 100000 in
set_option maxHeartbeats 2000000 in
theorem rRead_main (h : RepR w τ sid b s A) (ib io : Nat) (L : List ByteArray) (cap : Nat) (h1 : 1 ≤ L.length) (h8 : L.length ≤ 8) (hz : sizesK L) (hrl : s.rs.length < 8796093022208)
    (hcell : ∀ (k : Nat) (x : ByteArray), L[k]? = some x → w.cell? ⟨ib, io + k, none⟩ = some (.string x)) (hib : ib < w.heap.size) :
    Calls Tryz.prog 100 #[ptr b, .slice (some ⟨ib, io, none⟩) L.length cap] w (RWPost w τ sid b (mRead s L)) := by
  have g1 : ¬ L.length < 1 := by omega
  have g2 : ¬ 8 < L.length := by omega
  obtain ⟨si, hsi, sz0, sz1, sz2⟩ := info_parts infoStr
  obtain ⟨bi, hbi, bz0, bz1, bz2⟩ := info_parts infoBool
  obtain ⟨ni, hni, nz0, nz1, nz2⟩ := info_parts infoInt
  have HC : Hid (mKeys L = keyFrom [] L) := by unfold Hid mKeys; rw [if_neg (by omega)]
  unfold ptr
  go_enter Tryz.func100, Tryz.ntmps100
  go_wp2
  go_loopw [7] (fun u wr => ∃ (k : Nat) (v : Nat → Value), k ≤ L.length ∧ u = .int .i64 k ∧ Hid (keyFrom [] L = keyFrom (L.take k) (L.drop k)) ∧ RD w wr v (rdXs L k k k)) (fun u _ => L.length - (intOf u).toNat)
  case atStart =>
    refine ⟨0, fun _ => .slice none 0 0, Nat.zero_le _, rfl, by simp [Hid], ⟨(Below.refl _ _).alloc (Nat.le_refl _) _, Blk.new _ _ _, fun j hj => ?_, fun i j g _ _ _ hg => by simp [Value.ownBlock] at hg⟩⟩
    have : rdXs L 0 0 0 j = [] := by unfold rdXs; split <;> (try simp) <;> split <;> (try simp) <;> split <;> simp
    rw [this]
    exact World.ownsRow_nil _ _ _ _
  case round =>
    obtain ⟨k, v, hk, rfl, HK, hD⟩ := hrel
    have hB := hD.below
    have hsz : w.heap.size < wr.heap.size := hD.blk.lt
    by_cases hlt : k < L.length
    · have hx : L[k]? = some L[k] := List.getElem?_eq_getElem hlt
      have ck' := (hB.cell (p := ⟨ib, io + k, none⟩) hib).trans (hcell k _ hx)
      have hs1 := hz _ (List.getElem_mem hlt)
      generalize L[k] = kk at *
      have cg := good_any kk wr hs1
      unfold maxLen at hs1
      cases hgk : goodKey kk with
      | false =>
        have Hr : Hid (mRead s L = (0, 4, s)) := by
          unfold Hid mRead
          rw [HC.out, HK.out, drop_atK hx, key_bad hgk]
          simp
        rw [hgk] at cg
        clear hgk hx hcell
        go_wp2_with (go_at_call 94; refine cg.mono ?_; rintro e w' ⟨rfl, rfl⟩)
        go_ret2
        rw [Hr.out]
        exact ⟨τ, A, rfl, h.below hB, Stp.of_below hB⟩
      | true =>
        rw [hgk] at cg
        go_wp2_with (go_at_call 94; refine cg.mono ?_; rintro e w' ⟨rfl, rfl⟩)
        go_loopw [9] (fun u w2 => ∃ (j nq : Nat), j ≤ k ∧ u = .int .i64 j ∧ w2 = w'.drewN nq ∧ Hid (∀ j' x, j' < j → L[j']? = some x → x ≠ kk)) (fun u _ => k - (intOf u).toNat)
        case atStart => exact ⟨0, 0, Nat.zero_le _, rfl, rfl, fun j' x hj => by omega⟩
        case round =>
          obtain ⟨j, nq, hj, rfl, rfl, HN⟩ := hrel
          by_cases hjk : j < k
          · have hy : L[j]? = some L[j] := List.getElem?_eq_getElem (by omega)
            have cj := (hB.cell (p := ⟨ib, io + j, none⟩) hib).trans (hcell j _ hy)
            have hyy : L[j]? = some L[j] := hy
            generalize L[j] = kj at *
            have hjL : j < L.length := by omega
            by_cases heq : kj = kk
            · have Hr : Hid (mRead s L = (0, 5, s)) := by
                unfold Hid mRead
                rw [HC.out, HK.out, drop_atK hx, key_twice hgk (keyIn_some hjk hy heq)]
                simp
              have hb := str_beq heq
              clear heq hy hyy hx hcell
              go_wp2_with fail
              go_quiet (fail)
              go_wp2_with fail
              go_ret2
              rw [Hr.out]
              exact ⟨τ, A, rfl, (h.below hB).frame (fun _ _ _ => ⟨rfl, rfl⟩), Stp.of_below (Below.drewN' (Below.drewN' hB _) _)⟩
            · have HN' : Hid (∀ j' x, j' < j + 1 → L[j']? = some x → x ≠ kk) := by
                intro j' x' hj' hx'
                by_cases e : j' = j
                · subst e; rw [hy] at hx'; cases hx'; exact heq
                · exact HN.out j' x' (by omega) hx'
              have hb := str_bne heq
              clear heq hy hyy hx hcell
              go_wp2_with fail
              go_quiet (fail)
              go_wp2_with fail
              go_roundw
              case rel => exact ⟨j + 1, _, by omega, by go_num, rfl, HN'⟩
              case measure => simp [intOf]; omega
          · have hnk : keyIn (L.take k) kk = false := keyIn_none (fun j' x' hj' hx' => HN.out j' x' (by omega) hx')
            have HK' : Hid (keyFrom [] L = keyFrom (L.take (k + 1)) (L.drop (k + 1))) := by
              unfold Hid
              rw [HK.out, drop_atK hx, key_go hgk hnk, take_atK hx]
            clear hcell hnk
            have HX : Hid (L[k]? = some kk) := hx
            clear hx
            have hO := hD.row 0 (by omega)
            rw [rdXs_len hk] at hO
            obtain ⟨av, capv, hiv⟩ := row_len hO
            simp only [if_true] at hiv
            have c0 : w'.cell? ⟨w.heap.size, 0, none⟩ = some (v 0) := hD.blk.cell (o := 0) rfl
            have f0 := hD.blk.frozen 0
            have hO' : w'.ownsRow (w.heap.size + 1) 9 1 (.slice av k capv) k ((L.take k).map .string) := by rw [← hiv]; exact hO
            rw [hiv] at c0
            clear hO
            have c0a : ∀ (o : Obj) (nq : Nat), ((w'.drewN nq).alloc o).cell? ⟨w.heap.size, 0, none⟩ = some (.slice av k capv) := fun o nq => by
              rw [World.cell?_of_block (w := w'.drewN nq) (Below.heap_alloc (w'.drewN nq) o w.heap.size hsz)]; exact c0
            go_wp2_with fail
            go_region_law (refine step_append_own_at rfl (.tmp 53) (.tmp 58) 38 rfl (w.heap.size + 1) 9 si _ 1 16 Tryz.underlying38 hsi sz0 sz1 sz2 rfl (by decide) (.slice av k capv) k ((L.take k).map .string) rfl (hO'.alloc _) ⟨_, 0, none⟩ 1 1 [.string kk] rfl rfl (cell_one_new _ _ _) (by simp [Value.oneCell']) (by unfold maxLen; omega) (by omega) (by simp; omega) ?_; intro v2 w2 hO2 hG2 hN2 hA2; obtain ⟨hb2, hB2⟩ := hD.after (j := 0) (by omega) (by rw [hiv]; exact hG2); have c2 := hb2.cell (o := 0) (v := v 0) rfl; rw [hiv] at c2; have f2 := hb2.frozen 0; obtain ⟨g2, cap2, hv2, -⟩ := row_form hO2 (by omega); rw [hv2])
            all_goals
              have hD1 := rd_push0 (v2 := v2) hD HX.out (by rw [hiv]; exact hG2) hO2 (by rw [hiv]; exact hA2)
              rw [hv2] at hD1
              clear hO2 hG2 hN2 hA2 hb2 hB2 c2 f2 hv2 hO' c0 c0a f0 ck'
              generalize w2.setCell ⟨w.heap.size, 0, none⟩ (.slice (some ⟨g2, 0, none⟩) (k + 1) cap2) = W1 at *
              have hv1 : (fun i => if i = 0 then Value.slice (some ⟨g2, 0, none⟩) (k + 1) cap2 else v i) 1 = v 1 := rfl
              generalize (fun i => if i = 0 then Value.slice (some ⟨g2, 0, none⟩) (k + 1) cap2 else v i) = v1 at *
              have hR1 := hD1.row 1 (by omega)
              rw [rdXs_len (by omega)] at hR1
              obtain ⟨a1, cap1, hiv1⟩ := row_len hR1
              simp only [if_neg (show ¬ (1 : Nat) = 0 from by omega), if_true] at hiv1
              have hO1' : W1.ownsRow (w.heap.size + 1) 4 1 (.slice a1 k cap1) k ((List.range k).map (fun _ => .bool false)) := by rw [← hiv1]; exact hR1
              have d1 : W1.cell? ⟨w.heap.size, 1, none⟩ = some (v1 1) := hD1.blk.cell (o := 1) rfl
              rw [hiv1] at d1
              have hsz1 : w.heap.size < W1.heap.size := hD1.blk.lt
              clear hR1 hv1
              go_upto_region 17 with (at_builtin; refine wpList_append_own_at _ rfl (.tmp 66) (.tmp 67) 193 rfl (w.heap.size + 1) 4 bi _ 1 1 Tryz.underlying193 hbi bz0 bz1 bz2 rfl (by decide) (.slice a1 k cap1) k _ rfl (hO1'.alloc _) ⟨_, 0, none⟩ 1 1 [.bool false] rfl rfl (cell_one_new _ _ _) (by simp [Value.oneCell']) (by unfold maxLen; omega) (by omega) (by simp; omega) ?_; intro v3 w3 hO3 hG3 hN3 hA3; obtain ⟨hb3, hB3⟩ := hD1.after (j := 1) (nq := 0) (by omega) (by rw [hiv1]; exact hG3); have c3 := hb3.cell (o := 1) (v := v1 1) rfl; rw [hiv1] at c3; have f3 := hb3.frozen 1; obtain ⟨g3, cap3, hv3, -⟩ := row_form hO3 (by omega); rw [hv3])
              have hD2 := rd_push1 (nq := 0) (v2 := v3) hD1 (by omega) (by rw [hiv1]; exact hG3) hO3 (by rw [hiv1]; exact hA3)
              rw [hv3] at hD2
              clear hO3 hG3 hN3 hA3 hb3 hB3 c3 f3 hv3 hO1' d1
              generalize w3.setCell ⟨w.heap.size, 1, none⟩ (.slice (some ⟨g3, 0, none⟩) (k + 1) cap3) = W2 at *
              generalize (fun i => if i = 1 then Value.slice (some ⟨g3, 0, none⟩) (k + 1) cap3 else v1 i) = v2 at *
              have hR2 := hD2.row 2 (by omega)
              rw [rdXs_len (by omega)] at hR2
              obtain ⟨a2, cap2, hiv2⟩ := row_len hR2
              simp only [if_neg (show ¬ (2 : Nat) = 0 from by omega), if_neg (show ¬ (2 : Nat) = 1 from by omega), if_true] at hiv2
              have hO2' : W2.ownsRow (w.heap.size + 1) 3 1 (.slice a2 k cap2) k ((List.range k).map (fun _ => .int .i64 0)) := by rw [← hiv2]; exact hR2
              have d2 : W2.cell? ⟨w.heap.size, 2, none⟩ = some (v2 2) := hD2.blk.cell (o := 2) rfl
              rw [hiv2] at d2
              have hsz2 : w.heap.size < W2.heap.size := hD2.blk.lt
              clear hR2
              go_wp2_with (at_builtin; refine wpList_append_own_at _ rfl (.tmp 75) (.tmp 76) 58 rfl (w.heap.size + 1) 3 ni _ 1 8 Tryz.underlying58 hni nz0 nz1 nz2 rfl (by decide) (.slice a2 k cap2) k _ rfl (hO2'.alloc _) ⟨_, 0, none⟩ 1 1 [.int .i64 0] rfl rfl (cell_one_new _ _ _) (by simp [Value.oneCell']) (by unfold maxLen; omega) (by omega) (by simp; omega) ?_; intro v3 w3 hO3 hG3 hN3 hA3; obtain ⟨hb3, hB3⟩ := hD2.after (j := 2) (nq := 0) (by omega) (by rw [hiv2]; exact hG3); have c3 := hb3.cell (o := 2) (v := v2 2) rfl; rw [hiv2] at c3; have f3 := hb3.frozen 2; obtain ⟨g3, cap3, hv3, -⟩ := row_form hO3 (by omega); rw [hv3])
              have hD3 := rd_push2 (nq := 0) (v2 := v3) hD2 (by omega) (by rw [hiv2]; exact hG3) hO3 (by rw [hiv2]; exact hA3)
              rw [hv3] at hD3
              go_roundw
              case rel => exact ⟨k + 1, _, by omega, by go_num, HK', hD3⟩
              case measure => simp [intOf]; omega
    · have hkL : k = L.length := by omega
      have H0 : Hid (mKeys L = 0) := by
        unfold Hid
        rw [HC.out, HK.out, hkL, List.drop_length]; rfl
      obtain ⟨hlg, hnd⟩ := key_good (HC.out.symm.trans H0.out)
      clear hcell HK HC
      have hR := h.below hB
      have hlen := hR.rlen
      unfold maxLen at hlen
      obtain ⟨aa, ca, hav, cA⟩ := hR.cReads
      go_wp2_with fail
      go_loop [10, 11] (fun o u => ∃ q : Nat, q ≤ s.rs.length ∧ u = .int .i64 q ∧ o = .int .i64 (openReads (s.rs.take q))) (fun _ u => s.rs.length - (intOf u).toNat)
      case atStart => exact ⟨0, Nat.zero_le _, rfl, by simp [openReads]⟩
      case round =>
        obtain ⟨q, hq, rfl, rfl⟩ := hrel
        have hol := openReads_le (s.rs.take q)
        have hol2 : (s.rs.take q).length ≤ q := List.length_take_le _ _
        by_cases hlt' : q < s.rs.length
        · have hrq : s.rs[q]? = some s.rs[q] := List.getElem?_eq_getElem hlt'
          obtain ⟨g, cap', c3, ci, -⟩ := hR.cRd hrq
          have cF := hR.cFin hrq
          have HT := openReads_take hrq
          have HT' : Hid (openReads (s.rs.take (q + 1)) = _) := HT
          obtain ⟨rfl, rfl⟩ : aa = some ⟨g, 0, none⟩ ∧ ca = cap' := by have := cA.symm.trans c3; simpa using this
          clear c3 HT
          cases hfin : s.rs[q].fin with
          | true =>
            rw [hfin] at cF HT'
            clear hfin hrq
            go_wp2_with fail
            go_round
            case rel => exact ⟨q + 1, by omega, by go_num, by rw [HT'.out]; simp⟩
            case measure => simp [intOf]; omega
          | false =>
            rw [hfin] at cF HT'
            clear hfin hrq
            go_wp2_with fail
            go_round
            case rel => exact ⟨q + 1, by omega, by go_num, by rw [HT'.out]; go_num⟩
            case measure => simp [intOf]; omega
        · have hqe : q = s.rs.length := by omega
          subst hqe
          have HO : Hid (openReads (s.rs.take s.rs.length) = openReads s.rs) := by unfold Hid; rw [List.take_length]
          rw [HO.out]
          by_cases hfull : 50 ≤ openReads s.rs
          · have Hr : Hid (mRead s L = (0, 6, s)) := by unfold Hid mRead; rw [H0.out]; simp [hfull]
            go_wp2_with fail
            go_ret2
            rw [Hr.out]
            exact ⟨τ, A, rfl, hR, Stp.of_below hB⟩
          · have fA := hR.blk.frozen 3
            have hbs : b < w.heap.size := h.blk.lt
            obtain ⟨pi, hpi, hp0, hp1, hp2⟩ := info_parts infoRPtr
            have hArr := hR.reads.arr
            rw [hav] at hArr
            go_wp2_with (at_builtin; refine wpList_append_own_at _ rfl (.tmp 108) (.tmp 110) 186 rfl 0 191 pi _ 1 8 Tryz.underlying186 hpi hp0 hp1 hp2 rfl (by decide) (.slice aa s.rs.length ca) s.rs.length _ rfl (hArr.alloc _) ⟨_, 0, none⟩ 1 1 [.pointer (some ⟨w.heap.size, 0, none⟩)] rfl rfl (cell_one_new _ _ _) (by simp [Value.oneCell']) (by unfold maxLen; omega) (by omega) (Nat.zero_le _) ?_; intro v2 w2 hO2 hG2 hN2 hA2; have hb2 := pushR_after hR hav hG2; have c2 := hb2.cell (o := 3) (v := A.rv) rfl; rw [hav] at c2; have f2 := hb2.frozen 3; obtain ⟨g2, cap2, hv2, -⟩ := row_form hO2 (by omega); rw [hv2])
            go_ret2
            have Hr : mRead s L = ((s.rs.length : Int) + 1, 0, { s with rs := s.rs ++ [newMR L] }) := by
              unfold mRead; rw [H0.out]; simp only [ne_eq, not_true, if_false, if_neg hfull]
            rw [Hr, ← hv2]
            obtain ⟨τ', A', r1, r2⟩ := pushR_done h hD (by rw [hkL]; simp [rdXs]) (by rw [hkL]; simp [rdXs]) (by rw [hkL]; simp [rdXs]) h1 h8 (fun x hx => (hlg x hx).1) hnd (by omega) hav hG2 hO2 hA2
            exact ⟨τ', A', rfl, r1, r2⟩

/-- READ, whatever list comes in. -/
theorem rRead (h : RepR w τ sid b s A) (a : Option Addr) (L : List ByteArray) (cap : Nat) (hL : L.length ≤ maxLen) (hz : sizesK L) (hI : TextsAt w a L) (hrl : s.rs.length < 8796093022208) :
    Calls Tryz.prog 100 #[ptr b, .slice a L.length cap] w (RWPost w τ sid b (mRead s L)) := by
  by_cases hs : L.length < 1 ∨ 8 < L.length
  · exact rRead_size h a L cap hL hs
  · obtain ⟨ib, io, rfl, c0⟩ := hI 0 L[0] (List.getElem?_eq_getElem (by omega))
    refine rRead_main h ib io L cap (by omega) (by omega) hz hrl (fun k x hx => ?_) (World.block_lt_of_cell? w _ c0)
    obtain ⟨ib', io', e, r⟩ := hI k x hx
    cases e
    exact r

end
end Go.Proofs.YteoahlieielcdaaGreat
