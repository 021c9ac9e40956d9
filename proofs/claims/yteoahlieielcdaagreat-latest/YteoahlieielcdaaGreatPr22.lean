/-
  The program: a read that is being made: add, newRead.
-/
import Derived.Test.YteoahlieielcdaaGreatPr19
namespace Go.Proofs.YteoahlieielcdaaGreat
open Go Go.RowKit Go.MuLone
open Go.Maps (Keyed)

def qF (qb : Nat → Nat) (L : List ByteArray) : Lit → Option Value
  | .string l => if qIx L l < L.length then some (ptr (qb (qIx L l))) else none
  | _ => none

/-- A READ THAT IS BEING MADE: it has the keys L. -/
structure PartR (w : World) (τ : Nat → Tag) (sid i P : Nat) (pb : Nat → Nat) (pr qm : Nat) (qb : Nat → Nat) (no : Bool) (ks : Value) (L : List ByteArray) (B0 : Nat) : Prop where
  blk : Blk w pr #[mu0, sem0, .bool no, ks, .map (some qm)] 137
  tag : τ pr = (sid, 11, i)
  map : MapF w Tryz.prog 9 qm (qF qb L)
  mapTag : τ qm = (sid, 12, i)
  q : ∀ (j : Nat) (x : ByteArray), L[j]? = some x → Blk w (qb j) #[ptr (pb (partOf P x).toNat), .bool false, .int .i64 0, .bool false, .string ⟨#[]⟩, .nilIface] 146
  qTag : ∀ (j : Nat) (x : ByteArray), L[j]? = some x → τ (qb j) = (sid, 13, i * 8 + j)
  ky : w.ownsRow 0 9 1 ks L.length (L.map Value.string)
  kyTag : ∀ k, ks.ownBlock = some k → τ k = (sid, 14, i)
  lo : B0 ≤ pr ∧ B0 ≤ qm
  loQ : ∀ (j : Nat) (x : ByteArray), L[j]? = some x → B0 ≤ qb j
  loK : ∀ k, ks.ownBlock = some k → B0 ≤ k

section
variable {w : World} {τ : Nat → Tag} {sid i P : Nat} {pb : Nat → Nat} {pr qm : Nat} {qb : Nat → Nat} {no : Bool} {ks : Value} {L : List ByteArray} {B0 : Nat}

theorem PartR.frame (h : PartR w τ sid i P pb pr qm qb no ks L B0) {w' : World} (hB : ∀ k, B0 ≤ k → k < w.heap.size → w'.heap[k]? = w.heap[k]?) : PartR w' τ sid i P pb pr qm qb no ks L B0 :=
  ⟨h.blk.of_eq (hB _ h.lo.1 h.blk.lt), h.tag, h.map.of_eq (hB _ h.lo.2 h.map.lt), h.mapTag, fun j x hx => (h.q j x hx).of_eq (hB _ (h.loQ j x hx) (h.q j x hx).lt), h.qTag, row_of_block h.ky (fun k hk => hB k (h.loK k hk) (row_ge h.ky k hk).2), h.kyTag, h.lo, h.loQ, h.loK⟩
theorem PartR.below (h : PartR w τ sid i P pb pr qm qb no ks L B0) {w' : World} (hB : Below w.heap.size w w') : PartR w' τ sid i P pb pr qm qb no ks L B0 := h.frame (fun k _ hk => hB.block k hk)

theorem qF_nil (qb : Nat → Nat) : qF qb [] = fun _ => none := by
  funext kl
  cases kl <;> simp [qF]

theorem PartR.made (w : World) (τ : Nat → Tag) (sid i P : Nat) (pb : Nat → Nat) (no : Bool) :
    PartR ((w.alloc (.map #[] 0)).alloc (.cells #[mu0, sem0, .bool no, .slice none 0 0, .map (some w.heap.size)] 137))
      (fun k => if k = w.heap.size + 1 then (sid, 11, i) else if k = w.heap.size then (sid, 12, i) else τ k) sid i P pb (w.heap.size + 1) w.heap.size (fun _ => 0) no (.slice none 0 0) [] w.heap.size := by
  refine ⟨?_, by simp, ?_, by simp, fun j x hx => by simp at hx, fun j x hx => by simp at hx, World.ownsRow_nil _ _ _ _, fun k hk => (by cases hk), ⟨by omega, by omega⟩, fun j x hx => by simp at hx, fun k hk => (by cases hk)⟩
  · have := Blk.new (w.alloc (.map #[] 0)) #[mu0, sem0, .bool no, .slice none 0 0, .map (some w.heap.size)] 137
    simpa using this
  · rw [qF_nil]
    exact (MapF.made w Tryz.prog 9).of_eq (Below.heap_alloc _ _ _ (by simp))

theorem qIx_snoc {L : List ByteArray} {x : ByteArray} {l : List UInt8} : qIx (L ++ [x]) l = if qIx L l < L.length then qIx L l else if x.data.toList = l then L.length else L.length + 1 := by
  unfold qIx
  rw [List.findIdx_append]
  split
  · rfl
  · by_cases e : x.data.toList = l <;> simp [e, List.findIdx_cons] <;> omega
theorem qIx_lt {L : List ByteArray} {l : List UInt8} : qIx L l < L.length ↔ ∃ x ∈ L, x.data.toList = l := by
  unfold qIx
  rw [List.findIdx_lt_length]
  simp

theorem qF_push {new : Nat} {x : ByteArray} (hx : x ∉ L) : qF (fun j => if j = L.length then new else qb j) (L ++ [x]) = upd (qF qb L) (.string x.data.toList) (ptr new) := by
  funext kl
  cases kl with
  | string l =>
    by_cases e : x.data.toList = l
    · subst e
      have hn : ¬ qIx L x.data.toList < L.length := fun h => by
        obtain ⟨y, hy, he⟩ := qIx_lt.1 h
        exact hx (WideShapes.bytes_inj he ▸ hy)
      rw [upd_same (by simp [WideAt.IsKeyLit])]
      simp only [qF, qIx_snoc, if_neg hn, if_true, List.length_append, List.length_singleton]
      simp
    · rw [upd_other (by simpa using fun e' => e e'.symm)]
      simp only [qF, qIx_snoc, List.length_append, List.length_singleton]
      by_cases hn : qIx L l < L.length
      · have : qIx L l ≠ L.length := by omega
        simp only [if_pos hn, if_neg this]
        rw [if_pos (by omega)]
      · simp only [if_neg hn, if_neg e]
        rw [if_neg (by omega)]
  | _ => simp [qF, upd, Lit.sameKey]

theorem PartR.push (h : PartR w τ sid i P pb pr qm qb no ks L B0) {w' : World} {new : Nat} {ks' : Value} {x : ByteArray} (hx : x ∉ L) (hnew : w.heap.size ≤ new) (hB0 : B0 ≤ w.heap.size)
    (hold : ∀ k, k < w.heap.size → k ≠ qm → k ≠ pr → ks.ownBlock ≠ some k → w'.heap[k]? = w.heap[k]?) (hb : Blk w' new #[ptr (pb (partOf P x).toNat), .bool false, .int .i64 0, .bool false, .string ⟨#[]⟩, .nilIface] 146)
    (hpr : Blk w' pr #[mu0, sem0, .bool no, ks', .map (some qm)] 137)
    (hky : w'.ownsRow 0 9 1 ks' (L.length + 1) (L.map Value.string ++ [.string x])) (hkb : ∀ k, ks'.ownBlock = some k → ks.ownBlock = some k ∨ (w.heap.size ≤ k ∧ k ≠ new))
    (hM : MapF w' Tryz.prog 9 qm (upd (qF qb L) (.string x.data.toList) (ptr new))) :
    PartR w' (fun k => if k = new then (sid, 13, i * 8 + L.length) else if ks'.ownBlock = some k then (sid, 14, i) else τ k) sid i P pb pr qm (fun j => if j = L.length then new else qb j) no ks' (L ++ [x]) B0 := by
  have hin : ∀ {j : Nat} {y : ByteArray}, (L ++ [x])[j]? = some y → (j < L.length ∧ L[j]? = some y) ∨ (j = L.length ∧ y = x) := by
    intro j y hj
    by_cases e : j < L.length
    · rw [List.getElem?_append_left e] at hj; exact Or.inl ⟨e, hj⟩
    · rw [List.getElem?_append_right (by omega)] at hj
      have hi' := lt_of_some hj
      simp at hi'
      have : j = L.length := by omega
      subst this
      simp at hj
      exact Or.inr ⟨rfl, hj.symm⟩
  have hpq : pr ≠ qm := blk_ne_map h.blk h.map
  have hlt : ∀ {k : Nat}, k < w.heap.size → k ≠ new := fun hk => by omega
  have htag : ∀ {k : Nat} {g : Nat × Nat}, k < w.heap.size → τ k = (sid, g) → (g.1 ≠ 14) → (if k = new then (sid, 13, i * 8 + L.length) else if ks'.ownBlock = some k then (sid, 14, i) else τ k) = (sid, g) := by
    intro k g hk ht hg
    rw [if_neg (hlt hk)]
    by_cases e : ks'.ownBlock = some k
    · rcases hkb k e with e1 | e1
      · have := h.kyTag k e1
        rw [ht] at this
        simp at this
        exact absurd (by rw [this]) hg
      · omega
    · rw [if_neg e, ht]
  have hkn : ∀ {k : Nat} {g : Nat × Nat}, τ k = (sid, g) → g.1 ≠ 14 → ks.ownBlock ≠ some k := fun ht hg e => by
    have := h.kyTag _ e
    rw [ht] at this
    simp at this
    exact hg (by rw [this])
  refine ⟨hpr, htag h.blk.lt h.tag (by simp), ?_, htag h.map.lt h.mapTag (by simp), fun j y hj => ?_, fun j y hj => ?_, ?_, fun k hk => ?_, h.lo, fun j y hj => ?_, fun k hk => ?_⟩
  · rw [qF_push hx]; exact hM
  · rcases hin hj with ⟨hjl, e⟩ | ⟨rfl, rfl⟩
    · have : j ≠ L.length := by omega
      simp only [this, if_false]
      have ht := h.qTag j y e
      exact (h.q j y e).of_eq (hold _ (h.q j y e).lt (blk_ne_map (h.q j y e) h.map) (fun e' => by rw [e', h.tag] at ht; simp at ht) (hkn ht (by simp)))
    · simpa using hb
  · rcases hin hj with ⟨hjl, e⟩ | ⟨rfl, rfl⟩
    · have : j ≠ L.length := by omega
      simp only [this, if_false]
      exact htag (h.q j y e).lt (h.qTag j y e) (by simp)
    · simp
  · simpa using hky
  · show (if k = new then _ else _) = _
    have : k ≠ new := by
      rcases hkb k hk with e | e
      · exact hlt (row_ge h.ky k e).2
      · exact e.2
    rw [if_neg this, if_pos hk]
  · rcases hin hj with ⟨hjl, e⟩ | ⟨rfl, rfl⟩
    · have : j ≠ L.length := by omega
      simp only [this, if_false]
      exact h.loQ j y e
    · simp; omega
  · rcases hkb k hk with e | e
    · exact h.loK k e
    · omega

theorem qF_keys : ∀ kl, qF qb L kl ≠ none → kl ∈ L.map (fun x => Lit.string x.data.toList) := by
  intro kl hk
  cases kl with
  | string l =>
    simp only [qF] at hk
    split at hk
    · rename_i e
      obtain ⟨y, hy, he⟩ := qIx_lt.1 e
      exact List.mem_map.2 ⟨y, hy, by rw [he]⟩
    · exact absurd rfl hk
  | _ => exact absurd rfl hk

theorem addR_done (h : PartR w τ sid i P pb pr qm qb no ks L B0) {w2 w3 : World} {o : Obj} {v2 : Value} {kk : ByteArray} (hx : kk ∉ L) (hB0 : B0 ≤ w.heap.size)
    (hO : w2.ownsRow 0 9 1 v2 (L.length + 1) (L.map Value.string ++ [.string kk])) (hG : (w.alloc o).grownBy w2 ks.ownBlock) (hA : v2.ownBlock = ks.ownBlock ∨ v2.ownBlock = some (w.alloc o).heap.size)
    (hM : MapF w3 Tryz.prog 9 qm (upd (qF qb L) (.string kk.data.toList) (ptr w2.heap.size)))
    (hT : But ((w2.setCell ⟨pr, 3, none⟩ v2).alloc (.cells #[ptr (pb (partOf P kk).toNat), .bool false, .int .i64 0, .bool false, .string ⟨#[]⟩, .nilIface] 146)) w3 qm) :
    ∃ τ' qb' ks', PartR w3 τ' sid i P pb pr qm qb' no ks' (L ++ [kk]) B0 ∧ Below B0 w w3 ∧ ∀ k, k < w.heap.size → τ' k = τ k := by
  have hprl := h.blk.lt
  have hqml := h.map.lt
  have hlo := h.lo
  have hsz : w.heap.size < w2.heap.size := by have := hG.size; simp at this; omega
  have hsz3 : w3.heap.size = w2.heap.size + 1 := by have := hT.size; simpa [World.setCell] using this
  have hprq : pr ≠ qm := blk_ne_map h.blk h.map
  have hkp : ks.ownBlock ≠ some pr := fun e => by have := h.kyTag _ e; rw [h.tag] at this; simp at this
  have hkq : ks.ownBlock ≠ some qm := fun e => by have := h.kyTag _ e; rw [h.mapTag] at this; simp at this
  have hnb : ∀ k, v2.ownBlock = some k → ks.ownBlock = some k ∨ w.heap.size < k := fun k hk => by
    rcases hA with e | e
    · exact Or.inl (by rw [← e]; exact hk)
    · rw [hk] at e
      have := Option.some.inj e
      simp at this
      exact Or.inr (by omega)
  have hb2 : ∀ k, k < w2.heap.size → k ≠ qm → k ≠ pr → w3.heap[k]? = w2.heap[k]? := fun k hk h1 h2 =>
    (hT.block k h1).trans ((Below.heap_alloc _ _ _ (by simpa [World.setCell] using hk)).trans (Below.heap_setCell _ _ _ _ h2))
  have hpr2 : Blk w2 pr #[mu0, sem0, .bool no, ks, .map (some qm)] 137 := h.blk.of_eq ((hG.block pr (by simp; omega) (fun e => hkp e.symm)).trans (Below.heap_alloc _ _ _ hprl))
  refine ⟨_, _, v2, h.push (ks' := v2) (new := w2.heap.size) hx (by omega) hB0 (fun k hk h1 h2 h3 => ?_) ?_ ?_ ?_ (fun k hk => ?_) hM, ⟨hT.os.trans hG.os, hT.tape.trans hG.tape, hT.output.trans hG.output, by omega, fun k hk => ?_⟩, fun k hk => ?_⟩
  · exact (hb2 k (by omega) h1 h2).trans ((hG.block k (by simp; omega) (fun e => h3 e.symm)).trans (Below.heap_alloc _ _ _ hk))
  · have := (Blk.new (w2.setCell ⟨pr, 3, none⟩ v2) #[ptr (pb (partOf P kk).toNat), .bool false, .int .i64 0, .bool false, .string ⟨#[]⟩, .nilIface] 146).of_eq (w' := w3) (hT.block _ (by simp [World.setCell]; omega))
    simpa [World.setCell] using this
  · have h1 := (hpr2.set 3 v2).of_eq (w' := (w2.setCell ⟨pr, 3, none⟩ v2).alloc (.cells #[ptr (pb (partOf P kk).toNat), .bool false, .int .i64 0, .bool false, .string ⟨#[]⟩, .nilIface] 146)) (Below.heap_alloc _ _ _ (by simp [World.setCell]; omega))
    have := h1.of_eq (hT.block pr hprq)
    simpa using this
  · refine row_of_block hO (fun k hk => hb2 k (row_ge hO k hk).2 (fun e => ?_) (fun e => ?_))
    · rcases hnb k hk with e1 | e1
      · exact hkq (by rw [e1, e])
      · omega
    · rcases hnb k hk with e1 | e1
      · exact hkp (by rw [e1, e])
      · omega
  · rcases hnb k hk with e1 | e1
    · exact Or.inl e1
    · exact Or.inr ⟨by omega, by have := (row_ge hO k hk).2; omega⟩
  · exact (hb2 k (by omega) (by omega) (by omega)).trans ((hG.block k (by simp; omega) (fun e => by have := h.loK k e.symm; omega)).trans (Below.heap_alloc _ _ _ (by omega)))
  · show (if k = w2.heap.size then _ else _) = _
    rw [if_neg (by omega)]
    by_cases e : v2.ownBlock = some k
    · rw [if_pos e]
      rcases hnb k e with e1 | e1
      · rw [h.kyTag k e1]
      · omega
    · rw [if_neg e]

set_option maxRecDepth 100000 in
set_option maxHeartbeats 2000000 in
theorem addR_any (h : PartR w τ sid i P pb pr qm qb no ks L B0) (kk : ByteArray) (hk8 : kk.size ≤ 8) (hx : kk ∉ L) (hl : L.length < 8) (hB0 : B0 ≤ w.heap.size) :
    Calls Tryz.prog 73 #[ptr pr, .string kk, ptr (pb (partOf P kk).toNat)] w fun e w' => e = .returned (.tuple #[]) ∧ ∃ τ' qb' ks', PartR w' τ' sid i P pb pr qm qb' no ks' (L ++ [kk]) B0 ∧ Below B0 w w' ∧ ∀ k, k < w.heap.size → τ' k = τ k := by
  have hL8 : (L.map (fun x => Lit.string x.data.toList)).length < maxLen := by simp; unfold maxLen; omega
  have hks := keyOf_str (s := kk) (by unfold maxLen; omega)
  obtain ⟨si, hsi, sz0, sz1, sz2⟩ := info_parts infoStr2
  have cc := clone_any (w := w) kk (by omega)
  unfold ptr
  go_enter Tryz.func73, Tryz.ntmps73
  go_wp2_with fail
  refine cc.mono ?_
  rintro e w1 ⟨rfl, hB1⟩
  clear cc
  have h1 := h.below hB1
  have hprl := h1.blk.lt
  have hqml := h1.map.lt
  have hlow := hB1.size
  have c3 : w1.cell? ⟨pr, 3, none⟩ = some ks := h1.blk.cell (o := 3) rfl
  have hkp : ks.ownBlock ≠ some pr := fun e => by have := h.kyTag _ e; rw [h.tag] at this; simp at this
  have hkq : ks.ownBlock ≠ some qm := fun e => by have := h.kyTag _ e; rw [h.mapTag] at this; simp at this
  have hprq : pr ≠ qm := blk_ne_map h1.blk h1.map
  have HD : Hid (∀ (w2 w3 : World) (o : Obj) (v2 : Value), w2.ownsRow 0 9 1 v2 (L.length + 1) (L.map Value.string ++ [.string kk]) → (w1.alloc o).grownBy w2 ks.ownBlock → (v2.ownBlock = ks.ownBlock ∨ v2.ownBlock = some (w1.alloc o).heap.size) →
      MapF w3 Tryz.prog 9 qm (upd (qF qb L) (.string kk.data.toList) (ptr w2.heap.size)) → But ((w2.setCell ⟨pr, 3, none⟩ v2).alloc (.cells #[ptr (pb (partOf P kk).toNat), .bool false, .int .i64 0, .bool false, .string ⟨#[]⟩, .nilIface] 146)) w3 qm →
      ∃ τ' qb' ks', PartR w3 τ' sid i P pb pr qm qb' no ks' (L ++ [kk]) B0 ∧ Below B0 w w3 ∧ ∀ k, k < w.heap.size → τ' k = τ k) := fun w2 w3 o v2 a1 a2 a3 a4 a5 => by
    obtain ⟨τ', qb', ks', r1, r2, r3⟩ := addR_done h1 hx (Nat.le_trans hB0 hlow) a1 a2 a3 a4 a5
    exact ⟨τ', qb', ks', r1, (hB1.mono hB0).trans r2, fun k hk => r3 k (by omega)⟩
  have HB2 : Hid (∀ (w2 : World) (o : Obj), (w1.alloc o).grownBy w2 ks.ownBlock → Blk w2 pr #[mu0, sem0, .bool no, ks, .map (some qm)] 137 ∧ ∀ (v2 : Value) (o' : Obj), MapF ((w2.setCell ⟨pr, 3, none⟩ v2).alloc o') Tryz.prog 9 qm (qF qb L)) := fun w2 o hG => by
    have hsz : w1.heap.size < w2.heap.size := by have := hG.size; simp at this; omega
    exact ⟨h1.blk.of_eq ((hG.block pr (by simp; omega) (fun e => hkp e.symm)).trans (Below.heap_alloc _ _ _ hprl)), fun v2 o' => h1.map.of_eq ((Below.heap_alloc _ _ _ (by simp [World.setCell]; omega)).trans ((Below.heap_setCell _ _ _ _ (fun e => hprq e.symm)).trans ((hG.block qm (by simp; omega) (fun e => hkq e.symm)).trans (Below.heap_alloc _ _ _ hqml))))⟩
  obtain ⟨av, capv, hkv⟩ := row_len h1.ky
  have hky := h1.ky
  have hxs : ∃ xs, L.map Value.string = xs := ⟨_, rfl⟩
  obtain ⟨xs, hxs⟩ := hxs
  rw [hxs] at hky HD
  generalize L.length = nL at *
  unfold ptr at HD
  clear h1 h hx
  subst hkv
  go_wp2_with (first
    | (at_builtin; refine wpList_append_own_at _ rfl (.tmp 13) (.tmp 15) 38 rfl 0 9 si _ 1 16 Tryz.underlying38 hsi sz0 sz1 sz2 rfl (by decide) (.slice av nL capv) nL xs rfl (hky.alloc _) ⟨_, 0, none⟩ 1 1 [.string kk] rfl rfl (cell_one_new _ _ _) (by simp [Value.oneCell']) (by unfold maxLen; omega) (by omega) (Nat.zero_le _) ?_; intro v2 w2 hO2 hG2 hN2 hA2; obtain ⟨hp2, hM2⟩ := HB2.out w2 _ hG2; have k3 := hp2.cell (o := 3) (v := .slice av nL capv) rfl; have g3 := hp2.frozen 3; have k4 := hp2.cell (o := 4) (v := .map (some qm)) rfl; obtain ⟨g2, cap2, hv2, -⟩ := row_form hO2 (by omega); rw [hv2])
    | (at_mapUpdate; refine wpList_updF _ rfl _ _ _ 135 rfl 9 139 keyStr Tryz.underlying135 qm (qF qb L) rfl (by exact hM2 _ _) _ qF_keys hL8 _ _ (.string kk.data.toList) rfl rfl hks ?_; intro w3 hM3 hT3))
  have hB3 := But.of_turned hT3
  go_end0
  obtain ⟨τ', qb', ks', r1, r2, r3⟩ := HD.out w2 w3 _ v2 hO2 hG2 hA2 (by simpa [World.setCell, Act.eval] using hM3) (by rw [hv2]; exact hB3)
  exact ⟨rfl, τ', ⟨qb', ks', r1⟩, r2, r3⟩

end
end Go.Proofs.YteoahlieielcdaaGreat
