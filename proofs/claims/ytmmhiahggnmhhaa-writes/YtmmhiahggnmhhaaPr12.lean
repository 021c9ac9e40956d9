/-
  The program: checkItems.
-/
import Derived.Test.YtmmhiahggnmhhaaPr11
namespace Go.Proofs.Ytmmhiahggnmhhaa
open Go Go.RowKit Go.MuLone

section
variable {w : World}

set_option maxRecDepth 100000 in
set_option maxHeartbeats 400000 in
theorem checkItems_size (a : Option Addr) (L : List KV) (cap : Nat) (hL : L.length ≤ maxLen) (hs : L.length < 1 ∨ 8 < L.length) :
    Calls Try.prog 48 #[.slice a L.length cap] w fun e w' => e = .returned (.int .i64 (mCheck L)) ∧ Below w.heap.size w w' := by
  have Hr : Hid (mCheck L = 3) := by unfold Hid mCheck; rw [if_pos hs]
  unfold maxLen at hL
  by_cases h1 : L.length < 1
  · clear hs
    go_enter Try.func48, Try.ntmps48
    go_wp2
    go_ret
    exact ⟨ret_int Hr.out.symm, Below.refl _ _⟩
  · have h2 : 8 < L.length := by omega
    clear hs
    go_enter Try.func48, Try.ntmps48
    go_wp2
    go_ret
    exact ⟨ret_int Hr.out.symm, Below.refl _ _⟩

set_option maxRecDepth 100000 in
set_option maxHeartbeats 1000000 in
theorem checkItems_main (gb go : Nat) (L : List KV) (cap : Nat) (h1 : 1 ≤ L.length) (h8 : L.length ≤ 8) (hc8 : L.length ≤ cap) (hcm : cap ≤ maxLen) (hz : sizesOk L)
    (hcell : ∀ (k : Nat) (x : KV), L[k]? = some x → w.cell? ⟨gb, go + k * 2, none⟩ = some (.string x.1) ∧ w.cell? ⟨gb, go + k * 2 + 1, none⟩ = some (.string x.2)) :
    Calls Try.prog 48 #[.slice (some ⟨gb, go, none⟩) L.length cap] w fun e w' => e = .returned (.int .i64 (mCheck L)) ∧ Below w.heap.size w w' := by
  have g1 : ¬ L.length < 1 := by omega
  have g2 : ¬ 8 < L.length := by omega
  have hmf : ∀ (fn : Fn) (first cap : Array Value) (w : World), (Instr.makeFunc fn first cap).run Try.prog w = .ok (.func fn first cap) w := fun _ _ _ _ => rfl
  have HC : Hid (mCheck L = checkFrom [] L) := by unfold Hid mCheck; rw [if_neg (by omega)]
  unfold maxLen at hcm
  go_enter Try.func48, Try.ntmps48
  go_wp2_with fail
  go_loopw [16] (fun u wr => ∃ k : Nat, k ≤ L.length ∧ u = .int .i64 k ∧ Below w.heap.size w wr ∧ Hid (checkFrom [] L = checkFrom (L.take k) (L.drop k))) (fun u _ => L.length - (intOf u).toNat)
  case atStart => exact ⟨0, Nat.zero_le _, rfl, Below.refl _ _, by simp [Hid]⟩
  case round =>
    obtain ⟨k, hk, rfl, hB, HK⟩ := hrel
    by_cases hlt : k < L.length
    · have hx : L[k]? = some L[k] := List.getElem?_eq_getElem hlt
      obtain ⟨c1, c2⟩ := hcell k _ hx
      have hgb : gb < w.heap.size := World.block_lt_of_cell? w _ c1
      have c1' := (hB.cell (p := ⟨gb, go + k * 2, none⟩) hgb).trans c1
      have c2' := (hB.cell (p := ⟨gb, go + k * 2 + 1, none⟩) hgb).trans c2
      obtain ⟨hs1, hs2⟩ := hz _ (List.getElem_mem hlt)
      generalize L[k] = x at *
      obtain ⟨kk, vv⟩ := x
      simp only at c1' c2' hs1 hs2
      clear c1 c2
      have hBi : Below w.heap.size w (wr.alloc (.cells #[.string kk, .string vv] 35)) := hB.alloc hB.size _
      have cI0 : (wr.alloc (.cells #[.string kk, .string vv] 35)).cell? ⟨wr.heap.size, 0, none⟩ = some (.string kk) := (Blk.new wr _ _).cell (o := 0) rfl
      have cI1 : (wr.alloc (.cells #[.string kk, .string vv] 35)).cell? ⟨wr.heap.size, 1, none⟩ = some (.string vv) := (Blk.new wr _ _).cell (o := 1) rfl
      have ck := isKey_any kk (wr.alloc (.cells #[.string kk, .string vv] 35)) hs1
      have cc := contains_any (w := wr.alloc (.cells #[.string kk, .string vv] 35)) kk wr.heap.size gb go L cap h8 cI0 (fun j y hy => ⟨(hBi.cell (p := ⟨gb, go + j * 2, none⟩) hgb).trans (hcell j y hy).1, (hBi.cell (p := ⟨gb, go + j * 2 + 1, none⟩) hgb).trans (hcell j y hy).2⟩) k hk
      unfold maxLen at hs1 hs2
      by_cases hbad : goodKV (kk, vv) = false
      · have Hr : Hid (mCheck L = 4) := by
          unfold Hid
          rw [HC.out, HK.out, drop_at hx, check_bad hbad]
        clear hcell cc
        cases hgk : goodKey kk with
        | false =>
          rw [hgk] at ck
          clear hbad hgk hx
          go_wp2_with (go_at_call 24; refine ck.mono ?_; rintro e w' ⟨rfl, rfl⟩)
          go_ret
          exact ⟨ret_int Hr.out.symm, hBi⟩
        | true =>
          have hv64 : ¬ vv.size ≤ 64 := fun e => by simp [goodKV, hgk, e] at hbad
          rw [hgk] at ck
          clear hbad hgk hx
          go_wp2_with (go_at_call 24; refine ck.mono ?_; rintro e w' ⟨rfl, rfl⟩)
          go_ret
          exact ⟨ret_int Hr.out.symm, hBi⟩
      · have hg : goodKV (kk, vv) = true := by simpa using hbad
        have hv64 : vv.size ≤ 64 := (goodKV_size hg).2.2
        have hgk : goodKey kk = true := by simp [goodKV] at hg; exact hg.1
        rw [hgk] at ck
        cases hh : hasKey (L.take k) kk with
        | true =>
          have Hr : Hid (mCheck L = 5) := by
            unfold Hid
            rw [HC.out, HK.out, drop_at hx, check_twice hg hh]
          rw [hh] at cc
          clear hbad hgk hx hh hcell hg
          go_wp2_with (go_at_call 24; refine ck.mono ?_; rintro e w' ⟨rfl, rfl⟩)
          refine cc.mono ?_
          rintro e w2 ⟨rfl, hB2⟩
          clear ck cc
          go_wp2_with fail
          go_ret
          exact ⟨ret_int Hr.out.symm, hBi.trans (hB2.mono hBi.size)⟩
        | false =>
          have HK' : Hid (checkFrom [] L = checkFrom (L.take (k + 1)) (L.drop (k + 1))) := by
            unfold Hid
            rw [HK.out, drop_at hx, check_go hg hh, take_at hx]
          rw [hh] at cc
          clear hbad hgk hx hh hcell hg
          go_wp2_with (go_at_call 24; refine ck.mono ?_; rintro e w' ⟨rfl, rfl⟩)
          refine cc.mono ?_
          rintro e w2 ⟨rfl, hB2⟩
          clear ck cc
          go_wp2_with fail
          go_roundw
          case rel => exact ⟨k + 1, by omega, by go_num, hBi.trans (hB2.mono hBi.size), HK'⟩
          case measure => simp [intOf]; omega
    · have Hr : Hid (mCheck L = 0) := by
        unfold Hid
        rw [HC.out, HK.out, show k = L.length from by omega, List.drop_length]
        rfl
      clear hcell
      go_wp2_with fail
      go_ret
      exact ⟨ret_int Hr.out.symm, hB⟩

theorem checkItems_any (a : Option Addr) (L : List KV) (cap : Nat) (hL : L.length ≤ maxLen) (hc8 : L.length ≤ cap) (hcm : cap ≤ maxLen) (hz : sizesOk L) (hI : ItemsAt w a L) :
    Calls Try.prog 48 #[.slice a L.length cap] w fun e w' => e = .returned (.int .i64 (mCheck L)) ∧ Below w.heap.size w w' := by
  by_cases hs : L.length < 1 ∨ 8 < L.length
  · exact checkItems_size a L cap hL hs
  · obtain ⟨ib, io, rfl, c0, _⟩ := hI 0 L[0] (List.getElem?_eq_getElem (by omega))
    refine checkItems_main ib io L cap (by omega) (by omega) hc8 hcm hz (fun k x hx => ?_)
    obtain ⟨ib', io', e, r⟩ := hI k x hx
    cases e
    exact r

end
end Go.Proofs.Ytmmhiahggnmhhaa
