/-
  The program: what a part keeps of a key: value, Tell.
-/
import Derived.Test.YteoahlieielcdaaGreatPr19
namespace Go.Proofs.YteoahlieielcdaaGreat
open Go Go.RowKit Go.MuLone
open Go.Maps (Keyed)

theorem valueIn_of {l : List KV} {key : ByteArray} (h : hasKey l key = true) : valueIn l key = some (valueOf l key) := by
  unfold valueIn valueOf
  cases hf : l.find? (fun x => decide (x.1 = key)) with
  | some x => rfl
  | none =>
    rw [List.find?_eq_none] at hf
    simp only [hasKey, List.any_eq_true] at h
    obtain ⟨x, hx, hd⟩ := h
    exact absurd hd (hf x hx)

section
variable {w : World}

set_option maxRecDepth 100000 in
set_option maxHeartbeats 800000 in
theorem kValue (pb kb : Nat) (f : Lit → Option Value) (c1 : w.cell? ⟨pb, 2, none⟩ = some (.map (some kb))) (hM : MapF w Tryz.prog 3 kb f) (n : Int) (h1 : -9223372036854775808 ≤ n) (h2 : n ≤ 9223372036854775807) (key : ByteArray) (a : Option Addr) (L : List KV) (cap : Nat) (sv : Value)
    (hf : (f (.int .i64 n)).getD (.agg #[.slice none 0 0, .nilIface]) = .agg #[.slice a L.length cap, sv]) (h8 : L.length ≤ 8) (hcell : ∀ (k : Nat) (x : KV), L[k]? = some x → ∃ g, a = some ⟨g, 0, none⟩ ∧ w.cell? ⟨g, k * 2, none⟩ = some (.string x.1) ∧ w.cell? ⟨g, k * 2 + 1, none⟩ = some (.string x.2)) :
    Calls Tryz.prog 115 #[ptr pb, .int .i64 n, .string key] w fun e w' => e = .returned (.tuple #[.string (valueOf L key), .bool (hasKey L key)]) ∧ Below w.heap.size w w' := by
  have hfi := fldItems (.slice a L.length cap) sv
  obtain ⟨fv, hfv⟩ : ∃ fv, f (.int .i64 n) = fv := ⟨_, rfl⟩
  rw [hfv] at hf
  unfold ptr
  go_enter Tryz.func115, Tryz.ntmps115
  go_wp2_with (at_lookup; refine wpList_lookF _ rfl _ _ 199 rfl 3 214 keyInt Tryz.underlying199 (zeroItems _) kb f rfl hM _ (.int .i64 n) rfl (keyOf_int h1 h2) fv hfv ?_; rw [hf])
  go_loopw [18] (fun u wr => ∃ k : Nat, k ≤ L.length ∧ u = .int .i64 k ∧ Below w.heap.size w wr ∧ Hid (∀ j y, j < k → L[j]? = some y → y.1 ≠ key)) (fun u _ => L.length - (intOf u).toNat)
  case atStart => exact ⟨0, Nat.zero_le _, rfl, Below.refl _ _, fun j y hj => by omega⟩
  case round =>
    obtain ⟨k, hk, rfl, hB, HO⟩ := hrel
    by_cases hlt : k < L.length
    · have hx : L[k]? = some L[k] := List.getElem?_eq_getElem hlt
      obtain ⟨g, rfl, ck, cv⟩ := hcell k _ hx
      have hgb : g < w.heap.size := World.block_lt_of_cell? w _ ck
      have ck' := (hB.cell (p := ⟨g, k * 2, none⟩) hgb).trans ck
      have cv' := (hB.cell (p := ⟨g, k * 2 + 1, none⟩) hgb).trans cv
      have hBa : ∀ o : Obj, Below w.heap.size w (wr.alloc o) := fun o => hB.alloc hB.size _
      clear hcell ck cv
      generalize L[k] = x at *
      obtain ⟨kk, vv⟩ := x
      simp only at ck' cv'
      by_cases he : kk = key
      · have Hr : Hid (valueOf L key = vv ∧ hasKey L key = true) := find_some hx he HO.out
        have hb := str_beq he
        clear he hx
        go_wp2_with fail
        go_ret2
        rw [Hr.out.1, Hr.out.2]
        exact ⟨rfl, hBa _⟩
      · have HO' : Hid (∀ j y, j < k + 1 → L[j]? = some y → y.1 ≠ key) := by
          intro j y hj hy
          by_cases e : j = k
          · subst e; rw [hx] at hy; cases hy; exact he
          · exact HO.out j y (by omega) hy
        have hb := str_bne he
        clear he hx
        go_wp2_with fail
        go_roundw
        case rel => exact ⟨k + 1, by omega, by go_num, hBa _, HO'⟩
        case measure => simp [intOf]; omega
    · have Hr : Hid (valueOf L key = ByteArray.empty ∧ hasKey L key = false) := find_none (fun j x hj => HO.out j x (by omega))
      clear hcell
      go_wp2_with fail
      go_ret2
      rw [Hr.out.1, Hr.out.2]
      exact ⟨rfl, hB⟩

set_option maxRecDepth 100000 in
set_option maxHeartbeats 8000000 in
theorem kTell (pb kb vb : Nat) (f g : Lit → Option Value) (hb : Blk w pb #[mu0, sem0, .map (some kb), .map (some vb)] 202) (hK : MapF w Tryz.prog 3 kb g) (hM : MapF w Tryz.prog 9 vb f) (key : ByteArray) (hk : key.size ≤ maxLen) (v : Nat) (hv200 : v ≤ 200) (hf : (f (.string key.data.toList)).getD (.int .i64 0) = .int .i64 v)
    (a : Option Addr) (L : List KV) (cap : Nat) (sv : Value) (hsv : IsIf sv) (hg : (g (.int .i64 v)).getD (.agg #[.slice none 0 0, .nilIface]) = .agg #[.slice a L.length cap, sv]) (h8 : L.length ≤ 8) (hcell : ∀ (k : Nat) (x : KV), L[k]? = some x → ∃ g, a = some ⟨g, 0, none⟩ ∧ w.cell? ⟨g, k * 2, none⟩ = some (.string x.1) ∧ w.cell? ⟨g, k * 2 + 1, none⟩ = some (.string x.2)) (hga : ∀ g, a = some ⟨g, 0, none⟩ → g ≠ pb) :
    Calls Tryz.prog 75 #[ptr pb, .string key] w fun e w' => e = .returned (.agg #[.int .i64 v, .bool (hasKey L key), .string (valueOf L key), sv]) ∧ Below w.heap.size w w' := by
  have hpl := hb.lt
  have hvl := hM.lt
  have hkl := hK.lt
  have hne := blk_ne_map hb hM
  have hne2 := blk_ne_map hb hK
  have hb1 : Blk (w.alloc (.cells #[.int .i64 0, .bool false, .string ⟨#[]⟩, .nilIface] 144)) pb _ _ := hb.of_eq (Below.heap_alloc _ _ _ hpl)
  have hT := Blk.new w #[.int .i64 0, .bool false, .string ⟨#[]⟩, .nilIface] 144
  have hBo : ∀ k, k < w.heap.size → (w.alloc (.cells #[.int .i64 0, .bool false, .string ⟨#[]⟩, .nilIface] 144)).heap[k]? = w.heap[k]? := fun k hk => Below.heap_alloc _ _ _ hk
  have hsz : (w.alloc (.cells #[.int .i64 0, .bool false, .string ⟨#[]⟩, .nilIface] 144)).heap.size = w.heap.size + 1 := by simp
  have hos : (w.alloc (.cells #[.int .i64 0, .bool false, .string ⟨#[]⟩, .nilIface] 144)).os = w.os ∧ (w.alloc (.cells #[.int .i64 0, .bool false, .string ⟨#[]⟩, .nilIface] 144)).tape = w.tape ∧ (w.alloc (.cells #[.int .i64 0, .bool false, .string ⟨#[]⟩, .nilIface] 144)).output = w.output := ⟨rfl, rfl, rfl⟩
  unfold ptr
  go_enter_defers Tryz.func75, Tryz.ntmps75
  go_wp2_with fail
  generalize w.alloc (.cells #[.int .i64 0, .bool false, .string ⟨#[]⟩, .nilIface] 144) = wa at *
  have c0 : wa.cell? ⟨pb, 0, none⟩ = some (.int .i32 0) := hb1.cell (o := 0) rfl
  have f0 := hb1.frozen 0
  refine (lock_free Tryz.muLib ⟨pb, 0, none⟩ _ c0 f0).mono ?_
  rintro e w' ⟨rfl, rfl⟩
  have hb2 := hb1.set 0 (.int .i32 1)
  have hoth : ∀ k, k < w.heap.size → k ≠ pb → (wa.setCell ⟨pb, 0, none⟩ (.int .i32 1)).heap[k]? = w.heap[k]? := fun k hk hkp => (Below.heap_setCell _ _ _ _ hkp).trans (hBo k hk)
  have hM2 : MapF (wa.setCell ⟨pb, 0, none⟩ (.int .i32 1)) Tryz.prog 9 vb f := hM.of_eq (hoth _ hvl (fun e => hne e.symm))
  have hK2 : MapF (wa.setCell ⟨pb, 0, none⟩ (.int .i32 1)) Tryz.prog 3 kb g := hK.of_eq (hoth _ hkl (fun e => hne2 e.symm))
  have hT2 : Blk (wa.setCell ⟨pb, 0, none⟩ (.int .i32 1)) w.heap.size _ _ := hT.of_eq (Below.heap_setCell _ _ _ _ (by simp only; omega))
  have hcell2 : ∀ (k : Nat) (x : KV), L[k]? = some x → ∃ g, a = some ⟨g, 0, none⟩ ∧ (wa.setCell ⟨pb, 0, none⟩ (.int .i32 1)).cell? ⟨g, k * 2, none⟩ = some (.string x.1) ∧ (wa.setCell ⟨pb, 0, none⟩ (.int .i32 1)).cell? ⟨g, k * 2 + 1, none⟩ = some (.string x.2) := fun k x hx => by
    obtain ⟨g, e, r1, r2⟩ := hcell k x hx
    have hgl : g < w.heap.size := World.block_lt_of_cell? w _ r1
    exact ⟨g, e, (World.cell?_of_block (w := w) (hoth g hgl (hga g e))).trans r1, (World.cell?_of_block (w := w) (hoth g hgl (hga g e))).trans r2⟩
  have hszb : (wa.setCell ⟨pb, 0, none⟩ (.int .i32 1)).heap.size = wa.heap.size := by simp [World.setCell]
  generalize hwb : wa.setCell ⟨pb, 0, none⟩ (.int .i32 1) = wb at *
  have d3 : wb.cell? ⟨pb, 3, none⟩ = some (.map (some vb)) := hb2.cell (o := 3) rfl
  have d2 : wb.cell? ⟨pb, 2, none⟩ = some (.map (some kb)) := hb2.cell (o := 2) rfl
  have cvl := kValue (w := wb) pb kb g d2 hK2 v (by omega) (by omega) key a L cap sv hg h8 hcell2
  unfold ptr at cvl
  obtain ⟨fv, hfv⟩ : ∃ fv, f (.string key.data.toList) = fv := ⟨_, rfl⟩
  rw [hfv] at hf
  clear hcell hcell2 hoth
  go_wp2_with (at_lookup; refine wpList_lookF _ rfl _ _ 200 rfl 9 3 keyStr Tryz.underlying200 (zeroInt _) vb f rfl hM2 _ (.string key.data.toList) rfl (keyOf_str hk) fv hfv ?_; rw [hf])
  refine cvl.mono ?_
  rintro e w2 ⟨rfl, hB2⟩
  clear cvl
  have hTc : Blk w2 w.heap.size _ _ := hT2.of_eq (hB2.block _ hT2.lt)
  have hbc : Blk w2 pb _ _ := hb2.of_eq (hB2.block _ hb2.lt)
  have hKc : MapF w2 Tryz.prog 3 kb g := hK2.of_eq (hB2.block _ hK2.lt)
  have e2 : w2.cell? ⟨pb, 2, none⟩ = some (.map (some kb)) := hbc.cell (o := 2) rfl
  have t0 := hTc.cell (o := 0) (v := .int .i64 0) rfl
  have t1 := hTc.cell (o := 1) (v := .bool false) rfl
  have t2 := hTc.cell (o := 2) (v := .string ⟨#[]⟩) rfl
  have t3 := hTc.cell (o := 3) (v := .nilIface) rfl
  have g0 := hTc.frozen 0
  have g1 := hTc.frozen 1
  have g2 := hTc.frozen 2
  have g3 := hTc.frozen 3
  have hpn : pb ≠ w.heap.size := by omega
  have hTd : Blk w2.drew w.heap.size _ _ := hTc
  have z0 : w2.drew.setCell ⟨w.heap.size, 0, none⟩ (.int .i64 0) = w2.drew := setCell_id hTd rfl
  have z1 : w2.drew.setCell ⟨w.heap.size, 1, none⟩ (.bool false) = w2.drew := setCell_id hTd rfl
  have z2 : w2.drew.setCell ⟨w.heap.size, 2, none⟩ (.string ⟨#[]⟩) = w2.drew := setCell_id hTd rfl
  have z3 : w2.drew.setCell ⟨w.heap.size, 3, none⟩ .nilIface = w2.drew := setCell_id hTd rfl
  have hfar : ∀ x, (w2.setCell ⟨w.heap.size, 0, none⟩ x).drew.cell? ⟨pb, 2, none⟩ = some (.map (some kb)) := fun x => (cell_far (w := w2) hpn).trans e2
  have hfar2 : ∀ x y, ((w2.setCell ⟨w.heap.size, 0, none⟩ x).setCell ⟨w.heap.size, 1, none⟩ y).drew.cell? ⟨pb, 2, none⟩ = some (.map (some kb)) := fun x y => (cell_far (w := w2.setCell ⟨w.heap.size, 0, none⟩ x) hpn).trans (hfar x)
  have hfar3 : ∀ x y z, (((w2.setCell ⟨w.heap.size, 0, none⟩ x).setCell ⟨w.heap.size, 1, none⟩ y).setCell ⟨w.heap.size, 2, none⟩ z).drew.cell? ⟨pb, 2, none⟩ = some (.map (some kb)) := fun x y z => (cell_far (w := (w2.setCell ⟨w.heap.size, 0, none⟩ x).setCell ⟨w.heap.size, 1, none⟩ y) hpn).trans (hfar2 x y)
  have hfar4 : ∀ x y z u, ((((w2.setCell ⟨w.heap.size, 0, none⟩ x).setCell ⟨w.heap.size, 1, none⟩ y).setCell ⟨w.heap.size, 2, none⟩ z).setCell ⟨w.heap.size, 3, none⟩ u).drew.cell? ⟨pb, 2, none⟩ = some (.map (some kb)) := fun x y z u => (cell_far (w := ((w2.setCell ⟨w.heap.size, 0, none⟩ x).setCell ⟨w.heap.size, 1, none⟩ y).setCell ⟨w.heap.size, 2, none⟩ z) hpn).trans (hfar3 x y z)
  have hfs := fldSib (.slice a L.length cap) sv
  have hlk : (Instr.lookup 199 (.map (some kb)) (.int .i64 v) false).run Tryz.prog w2.drew = .ok (.agg #[.slice a L.length cap, sv]) w2.drew := by
    have := MapF.look (w := w2.drew) (e := 214) hKc keyInt Tryz.underlying199 (zeroItems _) (keyOf_int (n := v) (by omega) (by omega))
    rw [hg] at this
    exact this
  have HE : Hid (Blk ((((w2.setCell ⟨w.heap.size, 0, none⟩ (.int .i64 v)).setCell ⟨w.heap.size, 1, none⟩ (.bool (hasKey L key))).setCell ⟨w.heap.size, 2, none⟩ (.string (valueOf L key))).setCell ⟨w.heap.size, 3, none⟩ sv) w.heap.size #[.int .i64 v, .bool (hasKey L key), .string (valueOf L key), sv] 144 ∧
      Blk ((((w2.setCell ⟨w.heap.size, 0, none⟩ (.int .i64 v)).setCell ⟨w.heap.size, 1, none⟩ (.bool (hasKey L key))).setCell ⟨w.heap.size, 2, none⟩ (.string (valueOf L key))).setCell ⟨w.heap.size, 3, none⟩ sv) pb #[.int .i32 1, sem0, .map (some kb), .map (some vb)] 202 ∧
      Below w.heap.size w (((((w2.setCell ⟨w.heap.size, 0, none⟩ (.int .i64 v)).setCell ⟨w.heap.size, 1, none⟩ (.bool (hasKey L key))).setCell ⟨w.heap.size, 2, none⟩ (.string (valueOf L key))).setCell ⟨w.heap.size, 3, none⟩ sv).setCell ⟨pb, 0, none⟩ mu0)) := by
    have hfb : ∀ k, k ≠ w.heap.size → ((((w2.setCell ⟨w.heap.size, 0, none⟩ (.int .i64 v)).setCell ⟨w.heap.size, 1, none⟩ (.bool (hasKey L key))).setCell ⟨w.heap.size, 2, none⟩ (.string (valueOf L key))).setCell ⟨w.heap.size, 3, none⟩ sv).heap[k]? = w2.heap[k]? := fun k hk => by
      rw [Below.heap_setCell _ _ _ _ hk, Below.heap_setCell _ _ _ _ hk, Below.heap_setCell _ _ _ _ hk, Below.heap_setCell _ _ _ _ hk]
    refine ⟨?_, ?_, ?_⟩
    · simpa using (((hTc.set 0 (.int .i64 v)).set 1 (.bool (hasKey L key))).set 2 (.string (valueOf L key))).set 3 sv
    · have := hbc.of_eq (hfb pb hpn)
      simpa using this
    · refine ⟨?_, ?_, ?_, ?_, fun k hk => ?_⟩
      · exact hB2.os.trans (by rw [← hwb]; exact hos.1)
      · exact hB2.tape.trans (by rw [← hwb]; exact hos.2.1)
      · exact hB2.output.trans (by rw [← hwb]; exact hos.2.2)
      · have := hB2.size
        simp [World.setCell]; omega
      · refine (unlock_block hb1 rfl (v := .int .i32 1) (p := fun k => k < w.heap.size) (fun k hk => ?_) k hk).trans (hBo k hk)
        rw [hwb, hfb k (by omega)]
        exact hB2.block k (by omega)
  have hlkW : ∀ W : World, W.heap[kb]? = w2.heap[kb]? → (Instr.lookup 199 (.map (some kb)) (.int .i64 v) false).run Tryz.prog W = .ok (.agg #[.slice a L.length cap, sv]) W := fun W hW => by
    have := MapF.look (w := W) (e := 214) (hKc.of_eq hW) keyInt Tryz.underlying199 (zeroItems _) (keyOf_int (n := v) (by omega) (by omega))
    rw [hg] at this
    exact this
  have hkn : kb ≠ w.heap.size := by omega
  have hlk1 := hlkW (w2.setCell ⟨w.heap.size, 0, none⟩ (.int .i64 v)).drew (Below.heap_setCell _ _ _ _ hkn)
  have hlk2 := hlkW ((w2.setCell ⟨w.heap.size, 0, none⟩ (.int .i64 v)).setCell ⟨w.heap.size, 1, none⟩ (.bool (hasKey L key))).drew ((Below.heap_setCell _ _ _ _ hkn).trans (Below.heap_setCell _ _ _ _ hkn))
  have hlk3 := hlkW (((w2.setCell ⟨w.heap.size, 0, none⟩ (.int .i64 v)).setCell ⟨w.heap.size, 1, none⟩ (.bool (hasKey L key))).setCell ⟨w.heap.size, 2, none⟩ (.string (valueOf L key))).drew ((Below.heap_setCell _ _ _ _ hkn).trans ((Below.heap_setCell _ _ _ _ hkn).trans (Below.heap_setCell _ _ _ _ hkn)))
  have hsc : sv.cells = #[sv] := by rcases hsv with rfl | ⟨_, _, rfl⟩ <;> rfl
  unfold Value.cells at hsc
  have Hsv : Hid (IsIf sv) := hsv
  have Hpn : Hid (w.heap.size ≠ pb) := fun e => hpn e.symm
  generalize hhk : hasKey L key = hk9 at *
  generalize hvk : valueOf L key = vk9 at *
  generalize hnn : w.heap.size = nn at *
  have Hhk : Hid _ := hhk
  have Hvk : Hid _ := hvk
  have Hnn : Hid _ := hnn
  clear hhk hvk hnn
  clear hg hf hfv hB2 hTc hbc hKc hTd hb hK hM hb1 hb2 hT hT2 hBo hos hsz hszb hpl hvl hkl hne hne2 hM2 hK2 hwb d3 d2 c0 f0 hsv h8 hga hk hv200 hpn hkn hlkW
  have hst : Sem.run Tryz.prog (store ⟨nn, 3, none⟩ sv) (((w2.setCell ⟨nn, 0, none⟩ (.int .i64 v)).setCell ⟨nn, 1, none⟩ (.bool hk9)).setCell ⟨nn, 2, none⟩ (.string vk9)).drew = .ok () ((((w2.setCell ⟨nn, 0, none⟩ (.int .i64 v)).setCell ⟨nn, 1, none⟩ (.bool hk9)).setCell ⟨nn, 2, none⟩ (.string vk9)).setCell ⟨nn, 3, none⟩ sv).drew := by
    rcases Hsv.out with rfl | ⟨st, sx, rfl⟩ <;> go_simp
  go_wp2_with fail
  go_region_held3 (fun W => W.cell? ⟨pb, 2, none⟩ = some (.map (some kb))) (first | with_reducible exact hfar _ | with_reducible exact hfar2 _ _ | with_reducible exact hfar3 _ _ _ | with_reducible exact hfar4 _ _ _ _ | (simp [*]; done)) (fail)
  all_goals
    go_wp2_with fail
    obtain ⟨hT3, hb3, hBl⟩ := HE.out
    have hb4 : Blk ((((w2.setCell ⟨nn, 0, none⟩ (.int .i64 v)).setCell ⟨nn, 1, none⟩ (.bool hk9)).setCell ⟨nn, 2, none⟩ (.string vk9)).setCell ⟨nn, 3, none⟩ sv).drew pb _ _ := hb3
    have hT4 : Blk (((((w2.setCell ⟨nn, 0, none⟩ (.int .i64 v)).setCell ⟨nn, 1, none⟩ (.bool hk9)).setCell ⟨nn, 2, none⟩ (.string vk9)).setCell ⟨nn, 3, none⟩ sv).drew.setCell ⟨pb, 0, none⟩ mu0) nn _ _ := hT3.of_eq (Below.heap_setCell _ _ _ _ Hpn.out)
    refine leaves_cons (f := 38) (args := #[.pointer (some ⟨pb, 0, none⟩)]) (by simp) (by simp [go_sem]) ?_
    refine (unlock_deferred Tryz.muLib ⟨pb, 0, none⟩ .returning _ (hb4.cell (o := 0) rfl) (hb4.frozen 0)).mono ?_
    rintro e u' w'' ⟨rfl, rfl, rfl⟩
    refine ⟨_, results_cell_row rfl _ _ nn _ _ (0, 0) _ rfl hT4 Tryz.underlying144 rfl infoTold, ?_, ?_⟩
    · rw [Hhk.out, Hvk.out]
    · rw [Hnn.out]
      exact ⟨hBl.os, hBl.tape, hBl.output, hBl.size, hBl.block⟩

end
end Go.Proofs.YteoahlieielcdaaGreat
