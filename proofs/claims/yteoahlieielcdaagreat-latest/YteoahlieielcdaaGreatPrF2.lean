/-
  The program: Finish: candidates; where no key needs a second question: isToldEnough.
-/
import Derived.Test.YteoahlieielcdaaGreatPrF1
import Derived.Test.YteoahlieielcdaaGreatPrF0
import Derived.Test.YteoahlieielcdaaGreatRef9
namespace Go.Proofs.YteoahlieielcdaaGreat
open Go Go.RowKit Go.MuLone
open Go.Maps (Keyed)

theorem MapF.sizeS {P : Program} {k : TypeId} {w : World} {b : Nat} {f : Lit → Option Value} (h : MapF w P k b f) (K : Keyed P k) {L : List Lit} (hnd : L.Pairwise (fun a b => a ≠ b)) (hL : ∀ kl, f kl ≠ none ↔ kl ∈ L) :
    ∃ n D, w.ownsMap P k rawElem b n D ∧ Says D f ∧ Maps.size D = L.length := by
  obtain ⟨n2, D2, ⟨es2, clock2, hb2, _, _, hD2⟩, hsz⟩ := h.size K hnd hL
  obtain ⟨n, D, ⟨es, clock, hb, F, hn, hD⟩, hs⟩ := h
  obtain ⟨rfl, rfl⟩ : es2 = es ∧ clock2 = clock := by
    rw [hb] at hb2
    injection hb2 with e
    injection e with e1 e2
    exact ⟨e1.symm, e2.symm⟩
  refine ⟨n, D, ⟨_, _, hb, F, hn, hD⟩, hs, ?_⟩
  rw [hD, ← hD2]; exact hsz

theorem ranges_frame {w w' : World} {P : Program} {k : TypeId} {b r n : Nat} {D : DataW Value} {left : Lit → Bool} {cnt : Nat} (h : w.ranges P k rawElem b r n D left cnt) (hb : w'.heap[b]? = w.heap[b]?) (hr : w'.heap[r]? = w.heap[r]?) : w'.ranges P k rawElem b r n D left cnt := by
  obtain ⟨es, clock, since, seen, c0, h1, h2, h3, h4, h5, rest⟩ := h
  exact ⟨es, clock, since, seen, c0, hb.trans h1, h2, h3, h4, hr.trans h5, rest⟩

def questKeys (r : MR) : List Lit := r.keys.map (fun x => Lit.string x.data.toList)
theorem questKeys_pw {r : MR} (hn : r.keys.Nodup) : (questKeys r).Pairwise (fun a b => a ≠ b) := by
  unfold questKeys
  rw [List.pairwise_map]
  refine hn.imp (fun {a b} hab e => hab ?_)
  injection e with e
  exact WideShapes.bytes_inj e
theorem quest_iff {B : SB} {i : Nat} {r : MR} (kl : Lit) : questF B i r kl ≠ none ↔ kl ∈ questKeys r := by
  unfold questKeys
  constructor
  · intro h
    cases kl with
    | string l =>
      simp only [questF] at h
      split at h
      · rename_i e
        obtain ⟨y, hy, he⟩ := qIx_lt.1 e
        exact List.mem_map.2 ⟨y, hy, by rw [he]⟩
      · exact absurd rfl h
    | _ => exact absurd rfl h
  · intro h
    obtain ⟨y, hy, rfl⟩ := List.mem_map.1 h
    simp only [questF]
    rw [if_pos (qIx_lt.2 ⟨y, hy, rfl⟩)]
    simp

section
variable {w : World} {τ : Nat → Tag} {sid b : Nat} {s : MS} {A : SA}

/-- what of a read finish looks at, the read being out of the store already -/
structure Seen (w : World) (A : SA) (i : Nat) (r : MR) : Prop where
  nd : r.keys.Nodup
  l1 : 1 ≤ r.keys.length
  l8 : r.keys.length ≤ 8
  kz : ∀ x ∈ r.keys, x.size ≤ 8
  rd : Blk w (A.R.pr i) #[mu0, sem0, .bool (A.R.no i), A.R.ks i, .map (some (A.R.qm i))] 137
  qm : MapF w Tryz.prog 9 (A.R.qm i) (questF A.R i r)
  q : ∀ (j : Nat) (x : ByteArray), r.keys[j]? = some x → ∃ p, Blk w (A.R.qb i j) #[p, .bool (r.asked j), .int .i64 (r.found j), .bool (A.R.hv i j), .string (A.R.tv i j), A.R.ts i j] 146
  ky : w.ownsRow 0 9 1 (A.R.ks i) r.keys.length (r.keys.map Value.string)
  tsf : ∀ (j : Nat) (x : ByteArray), r.keys[j]? = some x → IsIf (A.R.ts i j)
theorem Seen.below {i : Nat} {r : MR} (h : Seen w A i r) {w' : World} (hB : Below w.heap.size w w') : Seen w' A i r :=
  ⟨h.nd, h.l1, h.l8, h.kz, h.rd.of_eq (hB.block _ h.rd.lt), h.qm.of_eq (hB.block _ h.qm.lt), fun j x hx => by
    obtain ⟨p, hp⟩ := h.q j x hx
    exact ⟨p, hp.of_eq (hB.block _ hp.lt)⟩, row_of_block h.ky (fun k hk => hB.block k (row_ge h.ky k hk).2), h.tsf⟩

set_option maxRecDepth 100000 in
set_option maxHeartbeats 1000000 in
theorem candidates_any {i : Nat} {r : MR} (h : Seen w A i r) :
    Calls Tryz.prog 76 #[ptr (A.R.pr i)] w fun e w' => (∃ a n c, e = .returned (.slice a n c)) ∧ Below w.heap.size w w' := by
  have c4 : w.cell? ⟨A.R.pr i, 4, none⟩ = some (.map (some (A.R.qm i))) := h.rd.cell (o := 4) rfl
  obtain ⟨n, D, hown, hs, hsize⟩ := h.qm.sizeS keyStr (questKeys_pw h.nd) quest_iff
  have hl8 : (questKeys r).length ≤ 8 := by unfold questKeys; simpa using h.l8
  have hf := quest_meets A.R i r
  have hQ : ∀ (j : Nat) (x : ByteArray), r.keys[j]? = some x → w.cell? ⟨A.R.qb i j, 2, none⟩ = some (.int .i64 (r.found j)) := fun j x hx => by
    obtain ⟨p, hp⟩ := h.q j x hx
    exact hp.cell (o := 2) rfl
  have hqml := h.qm.lt
  obtain ⟨ii, hii, iz0, iz1, iz2⟩ := info_parts infoInt
  unfold ptr
  go_enter Tryz.func76, Tryz.ntmps76
  go_wp2_with (at_range; refine wpList_range_own _ rfl _ 135 rfl 9 139 keyStr Tryz.underlying135 rawElem (A.R.qm i) n D rfl hown ?_; intro w0 hrg0 hg0 hs0)
  go_frame
  go_loopw [3, 11] (fun s3 _ wr => ∃ (left : Lit → Bool) (cnt k : Nat) (xs : List Value), wr.ranges Tryz.prog 9 rawElem (A.R.qm i) w.heap.size n D left cnt ∧ wr.ownsRow (w.heap.size + 1) 3 1 s3 k xs ∧ k + cnt ≤ 8 ∧ Below w.heap.size w wr ∧ w.heap.size < wr.heap.size) (fun _ _ wr => wr.rangeLeft (A.R.qm i) w.heap.size)
  case atStart =>
    exact ⟨_, _, 0, [], hrg0, World.ownsRow_nil _ _ _ _, by omega, (Below.refl _ _).grown hg0 (Nat.le_refl _) (fun k e => by cases e), by omega⟩
  case round =>
    obtain ⟨left, cnt, k, xs, hrg, hrow, hkc, hB, hsz⟩ := hrel
    obtain ⟨av, capv, hv3⟩ := row_len hrow
    subst hv3
    go_wp2_with (at_next; refine wpList_nextS _ rfl _ rfl 9 keyStr Tryz.underlying9 (A.R.qm i) w.heap.size n D (questF A.R i r) hs (fun x => A.R.qb i (keyIx r.keys x)) _ hf left cnt rfl hrg ?_ ?_)
    · intro hl0
      clear hl0
      go_wp2_with fail
      go_ret
      exact ⟨⟨_, _, _, rfl⟩, hB⟩
    · intro x w1 cnt1 hxj hxk hlx hrg1 hlt hg1 hs1 hen
      generalize hjx : keyIx r.keys x = j at *
      have hB1 : Below w.heap.size w w1 := hB.grown hg1 (by omega) (fun k e => by cases e; exact Nat.le_refl _)
      have cq := hQ j x hxk
      have cq1 : w1.cell? ⟨A.R.qb i j, 2, none⟩ = some (.int .i64 (r.found j)) := (hB1.cell (p := ⟨A.R.qb i j, 2, none⟩) (World.block_lt_of_cell? w _ cq)).trans cq
      have hrow1 : w1.ownsRow (w.heap.size + 1) 3 1 (.slice av k capv) k xs := row_of_block hrow (fun k' hk' => hg1.block k' (row_ge hrow k' hk').2 (fun e => by cases e; have := (row_ge hrow _ hk').1; omega))
      have HN : Hid (∀ (w2 : World) (v2 : Value) (o : Obj) (xs2 : List Value), w2.ownsRow (w.heap.size + 1) 3 1 v2 (k + 1) xs2 → (w1.alloc o).grownBy w2 (Value.slice av k capv).ownBlock →
          w2.ranges Tryz.prog 9 rawElem (A.R.qm i) w.heap.size n D (fun z => left z && !z.sameKey (.string x.data.toList)) cnt1 ∧ Below w.heap.size w w2 ∧ w.heap.size < w2.heap.size) := fun w2 v2 o xs2 a1 a2 => by
        have hs2 : w1.heap.size < w2.heap.size := by have := a2.size; simp at this; omega
        have hbl : ∀ k', k' < w.heap.size + 1 → w2.heap[k']? = w1.heap[k']? := fun k' hk' => (a2.block k' (by simp; omega) (fun e => by have := (row_ge hrow1 k' e.symm).1; omega)).trans (Below.heap_alloc _ _ _ (by omega))
        refine ⟨ranges_frame hrg1 (hbl _ (by omega)) (hbl _ (by omega)), ⟨a2.os.trans hB1.os, a2.tape.trans hB1.tape, a2.output.trans hB1.output, by omega, fun k' hk' => (hbl k' (by omega)).trans (hB1.block k' hk')⟩, by omega⟩
      have hsb : w.heap.size + 1 ≤ w1.heap.size := by omega
      clear cq hlx hs1
      go_wp2_with (at_builtin; refine wpList_append_own_at _ rfl (.tmp 15) (.tmp 21) 58 rfl (w.heap.size + 1) 3 ii _ 1 8 Tryz.underlying58 hii iz0 iz1 iz2 rfl (by decide) (.slice av k capv) k xs rfl (hrow1.alloc _) ⟨_, 0, none⟩ 1 1 [.int .i64 (r.found j)] rfl rfl (cell_one_new _ _ _) (by simp [Value.oneCell']) (by unfold maxLen; omega) (by omega) (by simp; omega) ?_; intro v2 w2 hO2 hG2 hN2 hA2)
      obtain ⟨r1, r2, r3⟩ := HN.out w2 v2 _ _ hO2 hG2
      go_wp2_with fail
      go_roundw
      case rel => exact ⟨_, _, k + 1, _, r1, hO2, by omega, r2, r3⟩
      case measure => rw [r1.left_eq, hrg.left_eq]; omega

set_option maxRecDepth 100000 in
set_option maxHeartbeats 2000000 in
theorem isToldEnough_lone {i : Nat} {r : MR} (h : Seen w A i r) (c : Nat) (hall : ∀ (j : Nat) (x : ByteArray), r.keys[j]? = some x → r.found j = c) (hok : ∀ (j : Nat) (x : ByteArray), r.keys[j]? = some x → c = 0 ∨ A.R.hv i j = true) {j : Nat} {key : ByteArray} (hx : r.keys[j]? = some key) :
    Calls Tryz.prog 77 #[ptr (A.R.pr i), .string key] w fun e w' => e = .returned (.bool true) ∧ Below w.heap.size w w' := by
  have c4 : w.cell? ⟨A.R.pr i, 4, none⟩ = some (.map (some (A.R.qm i))) := h.rd.cell (o := 4) rfl
  have hks := h.kz key (List.mem_of_getElem? hx)
  have hfv : questF A.R i r (.string key.data.toList) = some (.pointer (some ⟨A.R.qb i j, 0, none⟩)) := by
    have e1 := keyIx_nd h.nd hx
    have hj := lt_of_some hx
    simp only [questF, qIx_eq, e1, if_pos hj]; rfl
  have hM := h.qm
  have hf := quest_meets A.R i r
  have hQ : ∀ (j : Nat) (x : ByteArray), r.keys[j]? = some x → w.cell? ⟨A.R.qb i j, 2, none⟩ = some (.int .i64 c) := fun j x hx => by
    obtain ⟨p, hp⟩ := h.q j x hx
    have := hp.cell (o := 2) (v := .int .i64 (r.found j)) rfl
    rw [hall j x hx] at this
    exact this
  obtain ⟨p, hp⟩ := h.q j key hx
  rw [hall j key hx] at hp
  have q2 : w.cell? ⟨A.R.qb i j, 2, none⟩ = some (.int .i64 c) := hp.cell (o := 2) rfl
  have q3 : w.cell? ⟨A.R.qb i j, 3, none⟩ = some (.bool (A.R.hv i j)) := hp.cell (o := 3) rfl
  have q4 : w.cell? ⟨A.R.qb i j, 4, none⟩ = some (.string (A.R.tv i j)) := hp.cell (o := 4) rfl
  have q5 : w.cell? ⟨A.R.qb i j, 5, none⟩ = some (A.R.ts i j) := hp.cell (o := 5) rfl
  have hqml := hM.lt
  have hprl := h.rd.lt
  have hoks := hok j key hx
  have hts := h.tsf j key hx
  generalize A.R.hv i j = hv at *
  generalize A.R.tv i j = tv at *
  generalize A.R.ts i j = ts at *
  have hsto : Sem.run Tryz.prog (store ⟨w.heap.size, 3, none⟩ ts) (w.alloc (.cells #[.int .i64 c, .bool hv, .string tv, .nilIface] 144)) = .ok () (w.alloc (.cells #[.int .i64 c, .bool hv, .string tv, ts] 144)) := by
    rcases hts with rfl | ⟨st, sx, rfl⟩ <;> go_simp
  clear hp hall hok hts
  unfold ptr
  go_enter Tryz.func77, Tryz.ntmps77
  go_upto_region 2 with (at_lookup; refine wpList_lookF _ rfl _ _ 135 rfl 9 139 keyStr Tryz.underlying135 (zeroQPtr _) (A.R.qm i) (questF A.R i r) rfl hM _ (.string key.data.toList) rfl (keyOf_str (by unfold maxLen; omega)) _ hfv ?_)
  have hBa : Below w.heap.size w (w.alloc (.cells #[.int .i64 c, .bool hv, .string tv, ts] 144)) := (Below.refl _ _).alloc (Nat.le_refl _) _
  have hTb : Blk (w.alloc (.cells #[.int .i64 c, .bool hv, .string tv, ts] 144)) w.heap.size _ _ := Blk.new w _ _
  have hsza : (w.alloc (.cells #[.int .i64 c, .bool hv, .string tv, ts] 144)).heap.size = w.heap.size + 1 := by simp
  clear hsto q2 q3 q4 q5 hfv
  generalize w.alloc (.cells #[.int .i64 c, .bool hv, .string tv, ts] 144) = wa at *
  have o0 : wa.cell? ⟨w.heap.size, 0, none⟩ = some (.int .i64 c) := hTb.cell (o := 0) rfl
  have o1 : wa.cell? ⟨w.heap.size, 1, none⟩ = some (.bool hv) := hTb.cell (o := 1) rfl
  have a4 : wa.cell? ⟨A.R.pr i, 4, none⟩ = some (.map (some (A.R.qm i))) := (hBa.cell (p := ⟨A.R.pr i, 4, none⟩) hprl).trans c4
  obtain ⟨n, D, hown, hs⟩ := hM.of_eq (w' := wa) (hBa.block _ hqml)
  have HE : Hid (Below w.heap.size w wa) := hBa
  clear hM c4
  obtain ⟨hcz, hcase⟩ | ⟨hcz, hcase⟩ : (((c : Int) != 0) = false ∧ c = 0) ∨ (((c : Int) != 0) = true ∧ hv = true) := by
    by_cases e : c = 0
    · exact Or.inl ⟨by simp [e], e⟩
    · rcases hoks with e' | e'
      · exact absurd e' e
      · exact Or.inr ⟨by simp [bne_iff_ne]; omega, e'⟩
  all_goals
    subst hcase
    go_wp2_with (at_range; refine wpList_range_own _ rfl _ 135 rfl 9 139 keyStr Tryz.underlying135 rawElem (A.R.qm i) n D rfl hown ?_; intro w0 hrg0 hg0 hs0)
    (try go_frame)
    (try rw [hsza] at hrg0)
    (try rw [hsza] at hs0)
    (try rw [hsza])
    go_loopw [30] (fun _ wr => ∃ (left : Lit → Bool) (cnt : Nat), wr.ranges Tryz.prog 9 rawElem (A.R.qm i) (w.heap.size + 1) n D left cnt ∧ Below (w.heap.size + 1) wa wr ∧ w.heap.size + 1 < wr.heap.size) (fun _ wr => wr.rangeLeft (A.R.qm i) (w.heap.size + 1))
    case atStart => exact ⟨_, _, hrg0, (Below.refl _ _).grown hg0 (by omega) (fun k e => by cases e), by omega⟩
    case round =>
      obtain ⟨left, cnt, hrg, hB, hsz⟩ := hrel
      go_wp2_with (at_next; refine wpList_nextS _ rfl _ rfl 9 keyStr Tryz.underlying9 (A.R.qm i) (w.heap.size + 1) n D (questF A.R i r) hs (fun x => A.R.qb i (keyIx r.keys x)) _ hf left cnt rfl hrg ?_ ?_)
      · intro hl0
        clear hl0
        go_wp2_with fail
        go_ret
        exact ⟨rfl, HE.out.trans (hB.mono (by omega))⟩
      · intro x w1 cnt1 hxj hxk hlx hrg1 hlt hg1 hs1 hen
        generalize hjx : keyIx r.keys x = j' at *
        have hB1 : Below (w.heap.size + 1) wa w1 := hB.grown hg1 (by omega) (fun k e => by cases e; exact Nat.le_refl _)
        have cq := hQ j' x hxk
        have hql := World.block_lt_of_cell? w _ cq
        simp only at hql
        have cq1 := (hB1.cell (p := ⟨A.R.qb i j', 2, none⟩) (by simp only; omega)).trans ((HE.out.cell (p := ⟨A.R.qb i j', 2, none⟩) hql).trans cq)
        have p0 := (hB1.cell (p := ⟨w.heap.size, 0, none⟩) (by simp only; omega)).trans o0
        have hsz1 : w.heap.size + 1 < w1.heap.size := by omega
        clear cq hlx hs1
        go_wp2_with fail
        go_quiet (fail)
        have hrg2 : (w1.drewN nq).ranges Tryz.prog 9 rawElem (A.R.qm i) (w.heap.size + 1) n D (fun z => left z && !z.sameKey (.string x.data.toList)) cnt1 := ranges_frame hrg1 rfl rfl
        have hB2 := Below.drewN' hB1 nq
        go_wp2_with fail
        go_roundw
        case rel => exact ⟨_, _, hrg2, hB2, hsz1⟩
        case measure => rw [hrg2.left_eq, hrg.left_eq]; omega

end
end Go.Proofs.YteoahlieielcdaaGreat
