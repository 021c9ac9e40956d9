/-
  The program: newRead, Read.
-/
import Derived.Test.YteoahlieielcdaaGreatPr22
namespace Go.Proofs.YteoahlieielcdaaGreat
open Go Go.RowKit Go.MuLone
open Go.Maps (Keyed)

/-- HOW MANY A MAP HOLDS -/
theorem MapF.size {P : Program} {k : TypeId} {w : World} {b : Nat} {f : Lit → Option Value} (h : MapF w P k b f) (K : Keyed P k) {L : List Lit} (hnd : L.Pairwise (fun a b => a ≠ b)) (hL : ∀ kl, f kl ≠ none ↔ kl ∈ L) :
    ∃ n D, w.ownsMap P k rawElem b n D ∧ Maps.size D = L.length := by
  obtain ⟨n, D, h, hs⟩ := h
  obtain ⟨es, hD, hp, hks⟩ := h.entries K
  refine ⟨n, D, h, ?_⟩
  have hhas : ∀ kl, kl ∈ es.map Prod.fst → f kl ≠ none := fun kl hkl e => by
    obtain ⟨p, hp', rfl⟩ := List.mem_map.1 hkl
    have h2 := hs.2 p.1
    rw [e] at h2
    have : Maps.has D p.1 = true := by
      rw [hD, Maps.has_eq, List.any_eq_true]
      exact ⟨p, hp', same_self (hks p hp')⟩
    rw [this] at h2
    cases h2
  have h1 : es.length ≤ L.length := by
    rw [← List.length_map (f := Prod.fst)]
    exact length_within _ _ (List.pairwise_map.2 hp) (fun kl hkl => (hL kl).1 (hhas kl hkl))
  have h2 : L.length ≤ es.length := by
    have e0 : es.length = (es.map Prod.fst).length := by simp
    rw [e0]
    refine length_within _ _ hnd (fun kl hkl => ?_)
    have h3 := hs.2 kl
    have h4 := (hL kl).2 hkl
    have : Maps.has D kl = true := by
      rw [h3]
      cases hf : f kl
      · exact absurd hf h4
      · rfl
    rw [hD, Maps.has_eq, List.any_eq_true] at this
    obtain ⟨p, hp', he⟩ := this
    by_cases e : p.1 = kl
    · exact List.mem_map.2 ⟨p, hp', e⟩
    · rw [Maps.sameKey_ne e] at he; cases he
  rw [hD, Maps.size_eq]
  omega

def openIx (rs : List MR) : List Nat := (List.range rs.length).filter (fun i => !(rs.getD i (newMR [])).fin)
def readKeys (rs : List MR) : List Lit := (openIx rs).map (fun i : Nat => Lit.int .i64 ((i : Int) + 1))
theorem range_getD (rs : List MR) : (List.range rs.length).map (fun i => rs.getD i (newMR [])) = rs := by
  apply List.ext_getElem?
  intro i
  rw [List.getElem?_map]
  by_cases h : i < rs.length
  · rw [List.getElem?_range h, List.getElem?_eq_getElem h]
    simp [List.getD_eq_getElem?_getD, h]
  · simp [h]
theorem readKeys_length (rs : List MR) : (readKeys rs).length = openReads rs := by
  unfold readKeys openIx openReads
  rw [List.length_map, ← List.countP_eq_length_filter]
  conv => rhs; rw [← range_getD rs, List.countP_map]
  rfl
theorem readKeys_pairwise (rs : List MR) : (readKeys rs).Pairwise (fun a b => a ≠ b) := by
  unfold readKeys
  rw [List.pairwise_map]
  refine (List.Pairwise.filter _ (List.nodup_range (n := rs.length))).imp (fun {a b} h e => h ?_)
  injection e with _ e
  omega
theorem readsF_iff {rs : List MR} {B : SB} (kl : Lit) : readsF rs B kl ≠ none ↔ kl ∈ readKeys rs := by
  constructor
  · intro h
    cases kl with
    | int k n =>
      cases k <;> try exact absurd rfl h
      simp only [readsF] at h
      cases hf : findR rs n with
      | none => rw [hf] at h; exact absurd rfl h
      | some r =>
        unfold findR at hf
        split at hf
        · cases hf
        · rename_i hb
          have hlt : (n - 1).toNat < rs.length := by omega
          rw [List.getElem?_eq_getElem hlt] at hf
          simp only at hf
          split at hf
          · cases hf
          · rename_i hfin
            refine List.mem_map.2 ⟨(n - 1).toNat, ?_, by congr 1; omega⟩
            unfold openIx
            rw [List.mem_filter]
            refine ⟨List.mem_range.2 hlt, ?_⟩
            rw [List.getD_eq_getElem?_getD, List.getElem?_eq_getElem hlt]
            simpa only [Option.getD_some, Bool.not_eq_true', Bool.not_eq_true] using hfin
    | _ => exact absurd rfl h
  · intro h
    obtain ⟨i, hi, rfl⟩ := List.mem_map.1 h
    unfold openIx at hi
    rw [List.mem_filter] at hi
    obtain ⟨h1, h2⟩ := hi
    have hlt := List.mem_range.1 h1
    simp [List.getD_eq_getElem?_getD, hlt] at h2
    have : findR rs ((i : Int) + 1) = some rs[i] := by
      unfold findR
      rw [if_neg (by omega), show ((i : Int) + 1 - 1).toNat = i from by omega, List.getElem?_eq_getElem hlt]
      simp [h2]
    simp [readsF, this]

section
variable {w : World} {τ : Nat → Tag} {sid i P : Nat} {pb : Nat → Nat} {L : List ByteArray}

set_option maxRecDepth 100000 in
set_option maxHeartbeats 2000000 in
theorem newRead_any (b : Nat) (mode : Int) (cm : w.cell? ⟨b, 0, none⟩ = some (.int .i64 mode)) (parr : Value) (cs : w.cell? ⟨b, 1, none⟩ = some parr) (hpr : w.ownsRow 0 130 1 parr P ((List.range P).map (fun q => ptr (pb q)))) (hP1 : 1 ≤ P) (hP4 : P ≤ 4) (gb go cap : Nat) (h1 : 1 ≤ L.length) (h8 : L.length ≤ 8) (hg : ∀ x ∈ L, goodKey x = true) (hnd : L.Nodup)
    (hcell : ∀ (k : Nat) (x : ByteArray), L[k]? = some x → w.cell? ⟨gb, go + k, none⟩ = some (.string x)) :
    Calls Tryz.prog 39 #[ptr b, .slice (some ⟨gb, go, none⟩) L.length cap] w fun e w' => ∃ τ' pr qm qb ks, e = .returned (ptr pr) ∧ PartR w' τ' sid i P pb pr qm qb (decide (mode = 2) && decide (1 < L.length)) ks L w.heap.size ∧ Below w.heap.size w w' ∧ ∀ k, k < w.heap.size → τ' k = τ k := by
  have hbl := World.block_lt_of_cell? w _ cs
  simp only at hbl
  obtain ⟨pg, pc, hpv, _, hpc, hpcell, _⟩ := row_form hpr (by omega)
  subst hpv
  have hpgl : pg < w.heap.size := (row_ge hpr pg rfl).2
  have hpq : ∀ q, q < P → w.cell? ⟨pg, q, none⟩ = some (.pointer (some ⟨pb q, 0, none⟩)) := fun q hq => by
    rw [hpcell q (by omega), List.getElem?_map, List.getElem?_range hq]; rfl
  have hmm := @run_makeMap Tryz.prog
  clear hpcell
  have cno := isNumbersOnly_any (w := w) mode (some ⟨gb, go, none⟩) L.length cap h8
  generalize (decide (mode = 2) && decide (1 < L.length)) = nO at *
  unfold ptr
  go_enter Tryz.func39, Tryz.ntmps39
  go_wp2_with (go_at_call 72; refine cno.mono ?_; rintro e w' ⟨rfl, hw⟩; obtain rfl := hw.symm)
  go_loopw [19] (fun u wr => ∃ (k : Nat) (τ' : Nat → Tag) (qb : Nat → Nat) (ks : Value), k ≤ L.length ∧ u = .int .i64 k ∧ PartR wr τ' sid i P pb (w.heap.size + 1) w.heap.size qb nO ks (L.take k) w.heap.size ∧ Below w.heap.size w wr ∧ Hid (∀ k, k < w.heap.size → τ' k = τ k)) (fun u _ => L.length - (intOf u).toNat)
  case atStart =>
    refine ⟨0, _, _, _, Nat.zero_le _, rfl, PartR.made w τ sid i P pb nO, ?_, fun k hk => ?_⟩
    · exact ((Below.refl _ _).alloc (Nat.le_refl _) _).alloc (by simp) _
    · have e1 : k ≠ w.heap.size + 1 := by omega
      have e2 : k ≠ w.heap.size := by omega
      simp [e1, e2]
  case round =>
    obtain ⟨k, τ1, qb1, ks1, hk, rfl, hW, hB, HT⟩ := hrel
    by_cases hlt : k < L.length
    · have hx : L[k]? = some L[k] := List.getElem?_eq_getElem hlt
      have c1 := hcell k _ hx
      have hgb : gb < w.heap.size := World.block_lt_of_cell? w _ c1
      have c1' := (hB.cell (p := ⟨gb, go + k, none⟩) hgb).trans c1
      have hgs := goodKey_size (hg _ (List.getElem_mem hlt))
      have HTk : Hid (L.take (k + 1) = L.take k ++ [L[k]]) := List.take_succ_eq_append_getElem hlt
      have hnew : L[k] ∉ L.take k := fun e => by
        have h2 : (L.take k ++ L.drop k).Nodup := by rw [List.take_append_drop]; exact hnd
        rw [List.nodup_append] at h2
        have h3 : L[k] ∈ L.drop k := by rw [List.drop_eq_getElem_cons hlt]; exact List.mem_cons_self ..
        exact h2.2.2 _ e _ h3 rfl
      generalize L[k] = kk at *
      have hbd := partOf_bd P kk (by omega)
      obtain ⟨q, hq⟩ : ∃ q : Nat, (partOf P kk).toNat = q := ⟨_, rfl⟩
      have hqi : partOf P kk = q := by omega
      have cpo := partOf_any (w := wr.drew) b P (some ⟨pg, 0, none⟩) pc kk (by omega) (by omega) hP4 ((hB.cell (p := ⟨b, 1, none⟩) hbl).trans cs)
      have hqP : q < P := by omega
      have hpqq := hpq q hqP
      have CA : ∀ w2 : World, Below wr.drew.heap.size wr.drew w2 → w2.cell? ⟨b, 1, none⟩ = some (.slice (some ⟨pg, 0, none⟩) P pc) ∧ w2.cell? ⟨pg, q, none⟩ = some (.pointer (some ⟨pb q, 0, none⟩)) ∧
          Calls Tryz.prog 73 #[ptr (w.heap.size + 1), .string kk, ptr (pb q)] w2 (fun e w' => e = .returned (.tuple #[]) ∧ ∃ τ' qb' ks', PartR w' τ' sid i P pb (w.heap.size + 1) w.heap.size qb' nO ks' (L.take (k + 1)) w.heap.size ∧ Below w.heap.size w w' ∧ (∀ k, k < w.heap.size → τ' k = τ k) ∧ w'.cell? ⟨b, 1, none⟩ = some (.slice (some ⟨pg, 0, none⟩) P pc) ∧ w'.cell? ⟨pg, q, none⟩ = some (.pointer (some ⟨pb q, 0, none⟩))) := fun w2 hB2 => by
        have hBr : Below wr.heap.size wr w2 := (Below.refl wr.heap.size wr).drew.trans hB2
        have hB02 : Below w.heap.size w w2 := hB.trans (hBr.mono hB.size)
        refine ⟨(hB02.cell (p := ⟨b, 1, none⟩) hbl).trans cs, (hB02.cell (p := ⟨pg, q, none⟩) hpgl).trans hpqq, ?_⟩
        have ca := addR_any (w := w2) (hW.below hBr) kk (by omega) hnew (by simp; omega) hB02.size
        rw [hq, ← HTk.out] at ca
        refine ca.mono ?_
        rintro e w3 ⟨rfl, τ2, qb2, ks2, r1, r2, r3⟩
        have hB03 : Below w.heap.size w w3 := hB02.trans r2
        exact ⟨rfl, τ2, qb2, ks2, r1, hB03, fun k hk => (r3 k (by have := hB02.size; omega)).trans (HT.out k hk), (hB03.cell (p := ⟨b, 1, none⟩) hbl).trans cs, (hB03.cell (p := ⟨pg, q, none⟩) hpgl).trans hpqq⟩
      have CA' := (show Hid _ from CA)
      have s1 : wr.cell? ⟨b, 1, none⟩ = some (.slice (some ⟨pg, 0, none⟩) P pc) := (hB.cell (p := ⟨b, 1, none⟩) hbl).trans cs
      have p1 : wr.cell? ⟨pg, q, none⟩ = some (.pointer (some ⟨pb q, 0, none⟩)) := (hB.cell (p := ⟨pg, q, none⟩) hpgl).trans hpqq
      unfold ptr at cpo
      rw [hqi] at cpo
      clear CA hcell c1 hpq hx hnew hq hqi hbd
      go_wp2_with fail
      go_region_held3 (fun W => W.cell? ⟨b, 1, none⟩ = some (.slice (some ⟨pg, 0, none⟩) P pc) ∧ W.cell? ⟨pg, q, none⟩ = some (.pointer (some ⟨pb q, 0, none⟩))) (simp [*]) ((first | (go_at_call 50; refine cpo.mono ?_; rintro e w2 ⟨rfl, hB2⟩; obtain ⟨s2, p2, ca⟩ := CA'.out w2 hB2; unfold ptr at ca) | (go_at_call 73; refine ca.mono ?_; rintro e w3 ⟨rfl, τ2, qb2, ks2, hW3, hB3, hT3, s3, p3⟩; have HT3 := (show Hid _ from hT3); clear hT3)))
      all_goals
        clear cpo ca
        go_wp2_with fail
        go_roundw
        case rel => exact ⟨k + 1, τ2, qb2, ks2, by omega, by go_num, hW3, hB3, HT3⟩
        case measure => simp [intOf]; omega
    · have hkL : k = L.length := by omega
      rw [hkL, List.take_length] at hW
      clear hcell hpq hkL
      go_wp2_with fail
      go_ret
      exact ⟨τ1, w.heap.size + 1, w.heap.size, qb1, ks1, rfl, hW, hB, HT.out⟩

end
end Go.Proofs.YteoahlieielcdaaGreat
