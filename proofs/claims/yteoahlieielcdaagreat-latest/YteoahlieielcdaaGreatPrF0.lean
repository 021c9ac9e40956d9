/-
  The program: a WaitGroup for which nobody has begun anything: Wait comes back at once. An answer. A read is forgotten.
-/
import Derived.Test.YteoahlieielcdaaGreatPr19
namespace Go.Proofs.YteoahlieielcdaaGreat
open Go Go.RowKit Go.MuLone
open Go.Maps (Keyed)

section
variable {w : World}

theorem infoWg : (Tryz.prog.info? 155).map (fun i => decide (i.size = 0)) = some false := by kernel_rfl

set_option maxRecDepth 100000 in
set_option maxHeartbeats 800000 in
theorem load_u64 (a : Addr) (x : Int) (hc : w.cell? a = some (.int .u64 x)) : Calls Tryz.prog 121 #[.pointer (some a)] w fun e w' => e = .returned (.int .u64 x) ∧ w' = w := by
  have hl := run_call_load (P := Tryz.prog) (f := 148) Tryz.func148 (by kernel_rfl) (by kernel_rfl) (by kernel_rfl) .u64 (by kernel_rfl) hc
  go_enter Tryz.func121, Tryz.ntmps121
  go_wp2
  go_ret
  exact ⟨rfl, rfl⟩

set_option maxRecDepth 100000 in
set_option maxHeartbeats 1600000 in
theorem wait_idle (g : Nat) (hb : Blk w g #[.int .u64 0, .int .u32 0] 155) : Calls Tryz.prog 82 #[ptr g] w fun e w' => e = .returned (.tuple #[]) ∧ w' = w := by
  have c0 : w.cell? ⟨g, 0, none⟩ = some (.int .u64 0) := hb.cell (o := 0) rfl
  have hd := disable Tryz.muLib
  have he := enable Tryz.muLib
  have ha := acquire Tryz.muLib
  have hcv := run_convert_to_unsafe (P := Tryz.prog) (src := 215) (dst := 208) Tryz.underlying215 Tryz.underlying208 infoWg c0
  have cl := load_u64 ⟨g, 0, none⟩ 0 c0
  unfold ptr
  go_enter Tryz.func82, Tryz.ntmps82
  go_wp2_with fail
  refine wp_loop_rounds 1 ?_
  rw [rounds_succ]
  go_wp2_with fail
  refine cl.mono ?_
  rintro e w' ⟨rfl, rfl⟩
  go_wp2_with fail
  exact bodyPost_ret (results_none rfl _ _ _) rfl ⟨rfl, rfl⟩

theorem infoAns : (Tryz.prog.info? 62).map (·.size) = some 3 := by kernel_rfl

set_option maxRecDepth 100000 in
set_option maxHeartbeats 800000 in
theorem newAnswer_any (k : ByteArray) (n : Int) (v : ByteArray) (hv : v.size ≤ 1000) : Calls Tryz.prog 78 #[.string k, .int .i64 n, .string v] w fun e w' => e = .returned (.agg #[.string k, .int .i64 n, .string v]) ∧ Below w.heap.size w w' := by
  have cc := clone_any (w := w.alloc (.cells #[.string ⟨#[]⟩, .int .i64 0, .string ⟨#[]⟩] 62)) v hv
  go_enter Tryz.func78, Tryz.ntmps78
  go_wp2_with fail
  refine cc.mono ?_
  rintro e w2 ⟨rfl, hB2⟩
  have hA : Blk w2 w.heap.size #[.string ⟨#[]⟩, .int .i64 0, .string ⟨#[]⟩] 62 := (Blk.new w _ _).of_eq (hB2.block _ (by simp))
  have t0 := hA.cell (o := 0) (v := .string ⟨#[]⟩) rfl
  have t1 := hA.cell (o := 1) (v := .int .i64 0) rfl
  have t2 := hA.cell (o := 2) (v := .string ⟨#[]⟩) rfl
  have g0 := hA.frozen 0
  have g1 := hA.frozen 1
  have g2 := hA.frozen 2
  clear cc
  go_wp2_with fail
  have hA3 : Blk (((w2.setCell ⟨w.heap.size, 0, none⟩ (.string k)).setCell ⟨w.heap.size, 1, none⟩ (.int .i64 n)).setCell ⟨w.heap.size, 2, none⟩ (.string v)) w.heap.size #[.string k, .int .i64 n, .string v] 62 := by
    simpa using ((hA.set 0 (.string k)).set 1 (.int .i64 n)).set 2 (.string v)
  (try simp only [Exit.inBlock, Exit.then])
  refine bodyPost_ret (results_cell_row rfl _ _ w.heap.size _ _ (0, 0) _ rfl hA3 Tryz.underlying62 rfl infoAns) rfl ⟨rfl, ?_⟩
  exact ((((Below.refl w.heap.size w).alloc (Nat.le_refl _) _).trans (hB2.mono (by simp))).setCell (p := ⟨w.heap.size, 0, none⟩) (Nat.le_refl _) _).setCell (p := ⟨w.heap.size, 1, none⟩) (Nat.le_refl _) _ |>.setCell (p := ⟨w.heap.size, 2, none⟩) (Nat.le_refl _) _

set_option maxRecDepth 100000 in
set_option maxHeartbeats 800000 in
theorem forgetRead_any (wb rm : Nat) (c : Array Value) (f : Lit → Option Value) (hb : Blk w wb c 105) (e2 : c[2]? = some mu0) (e7 : c[7]? = some (.map (some rm))) (hM : MapF w Tryz.prog 3 rm f) (n : Int) (h1 : -9223372036854775808 ≤ n) (h2 : n ≤ 9223372036854775807) :
    Calls Tryz.prog 43 #[ptr wb, .int .i64 n] w fun e w' => e = .returned (.bool (f (.int .i64 n)).isSome) ∧ MapF w' Tryz.prog 3 rm (del f (.int .i64 n)) ∧ But w w' rm := by
  have c2 : w.cell? ⟨wb, 2, none⟩ = some (.int .i32 0) := hb.cell e2
  have c5 : w.cell? ⟨wb, 7, none⟩ = some (.map (some rm)) := hb.cell e7
  have f2 := hb.frozen 2
  have hne := blk_ne_map hb hM
  have hM1 : ∀ v, MapF (w.setCell ⟨wb, 2, none⟩ v) Tryz.prog 3 rm f := fun v => hM.of_eq (Below.heap_setCell _ _ _ _ (fun e => hne e.symm))
  have e2' : (c.setIfInBounds 2 (.int .i32 1))[2]? = some (.int .i32 1) := by
    have := (Array.getElem?_eq_some_iff.1 e2).1
    simp [this]
  unfold ptr
  go_enter_defers Tryz.func43, Tryz.ntmps43
  go_wp2_with (first | (go_at_call 37; refine (lock_free Tryz.muLib ⟨wb, 2, none⟩ _ c2 f2).mono ?_; rintro e w' ⟨rfl, rfl⟩) | (at_lookup; refine wpList_lookF_ok _ rfl _ _ 103 rfl 3 106 keyInt Tryz.underlying103 (zeroRPtr _) rm f rfl (hM1 _) _ (.int .i64 n) rfl (keyOf_int h1 h2) _ rfl ?_) | (at_delete; refine wpList_delF _ rfl _ _ 103 3 rfl 106 keyInt Tryz.underlying103 rm f rfl (hM1 _) _ (.int .i64 n) rfl (keyOf_int h1 h2) ?_; intro w1 hM2 hT))
  have hB := But.of_turned hT
  have hb1 : Blk w1 wb _ 105 := (hb.set 2 (.int .i32 1)).of_eq (hB.block wb hne)
  refine leaves_cons (f := 38) (args := #[.pointer (some ⟨wb, 2, none⟩)]) (by simp) (by simp [go_sem]) ?_
  refine (unlock_deferred Tryz.muLib ⟨wb, 2, none⟩ .returning _ (hb1.cell (o := 2) e2') (hb1.frozen 2)).mono ?_
  rintro e u' w'' ⟨rfl, rfl, rfl⟩
  exact ⟨_, results_tmp rfl _ _ _, rfl, hM2.of_eq (Below.heap_setCell _ _ _ _ (fun e => hne e.symm)), But.locked hb e2 _ hB hne⟩

end
end Go.Proofs.YteoahlieielcdaaGreat
