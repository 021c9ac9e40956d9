/-
  The program: add: a write gets an item more.
-/
import Derived.Test.YteoahlieielcdaaGreatPr12
import Derived.Deep.DeepCutAuto
namespace Go.Proofs.YteoahlieielcdaaGreat
open Go Go.RowKit Go.MuLone
open Go.Maps (Keyed)

/-- the parts of a write that is being made, as a map -/
def shF (P : Nat) (sh : Nat → Nat) (L : List KV) : Lit → Option Value
  | .int .i64 q => if onPart P L q = true then some (ptr (sh q.toNat)) else none
  | _ => none

/-- A WRITE THAT IS BEING MADE: it has the items L; all its blocks are new since B0. -/
structure PartW (w : World) (τ : Nat → Tag) (sid i P : Nat) (pb : Nat → Nat) (pw sm : Nat) (sh : Nat → Nat) (iv : Nat → Value) (sv kv : Value) (K : List ByteArray) (L : List KV) (B0 : Nat) : Prop where
  blk : Blk w pw #[mu0, sem0, .int .i64 ((i : Int) + 1), sv, .bool false, .map (some sm)] 164
  tag : τ pw = (sid, 6, i)
  map : MapF w Tryz.prog 3 sm (shF P sh L)
  mapTag : τ sm = (sid, 7, i)
  shB : ∀ q : Nat, onPart P L q = true → Blk w (sh q) #[ptr (pb q), .int .i64 0, iv q] 174
  shTag : ∀ q : Nat, onPart P L q = true → τ (sh q) = (sid, 8, i * 4 + q)
  it : ∀ q : Nat, onPart P L q = true → w.ownsRow 0 70 2 (iv q) (itemsOn P L q).length (kvCells (itemsOn P L q))
  itTag : ∀ (q k : Nat), onPart P L q = true → (iv q).ownBlock = some k → τ k = (sid, 9, i * 4 + q)
  ky : w.ownsRow 0 9 1 kv K.length (K.map Value.string)
  kyTag : ∀ k, kv.ownBlock = some k → τ k = (sid, 15, i)
  lo : B0 ≤ pw ∧ B0 ≤ sm
  loSh : ∀ q : Nat, onPart P L q = true → B0 ≤ sh q
  loIt : ∀ (q k : Nat), onPart P L q = true → (iv q).ownBlock = some k → B0 ≤ k
  loK : ∀ k, kv.ownBlock = some k → B0 ≤ k

theorem onPart_snoc (n : Int) (L : List KV) (x : KV) (q : Int) : onPart n (L ++ [x]) q = (onPart n L q || decide (partOf n x.1 = q)) := by simp [onPart]
theorem itemsOn_snoc (n : Int) (L : List KV) (x : KV) (q : Int) : itemsOn n (L ++ [x]) q = itemsOn n L q ++ (if partOf n x.1 = q then [x] else []) := by
  unfold itemsOn
  rw [List.filter_append]
  by_cases h : partOf n x.1 = q <;> simp [h]
theorem itemsOn_off {n : Int} {L : List KV} {q : Int} (h : onPart n L q = false) : itemsOn n L q = [] := by
  simp only [onPart, List.any_eq_false, decide_eq_true_eq] at h
  exact List.filter_eq_nil_iff.2 (fun x hx => by simpa using h x hx)

theorem cell_far {w : World} {p q : Addr} {v : Value} (h : q.block ≠ p.block) : (w.setCell p v).cell? q = w.cell? q := World.cell?_of_block (w := w) (Below.heap_setCell _ _ _ _ h)
theorem own_new {X w2 : World} {c : Array Value} {t : TypeId} (hB2 : Below (X.alloc (.cells c t)).heap.size (X.alloc (.cells c t)) w2) : Blk w2 X.heap.size c t :=
  (Blk.new X c t).of_eq (hB2.block _ (by simp))
theorem own_newD {X w2 : World} {c : Array Value} {t : TypeId} (hB2 : Below (X.alloc (.cells c t)).drew.heap.size (X.alloc (.cells c t)).drew w2) : Blk w2 X.heap.size c t :=
  (Blk.new X c t).of_eq (hB2.block _ (by show X.heap.size < (X.alloc (.cells c t)).heap.size; simp))
theorem own_set {w : World} {b : Nat} {t : TypeId} {x y : Value} (h : Blk w b #[x, y] t) (k v : ByteArray) : Blk ((w.setCell ⟨b, 0, none⟩ (.string k)).setCell ⟨b, 1, none⟩ (.string v)) b #[.string k, .string v] t := by
  have := (h.set 0 (.string k)).set 1 (.string v)
  simpa using this
theorem own_kept {X w2 : World} {c : Array Value} {t : TypeId} {b : Nat} (hB2 : Below X.heap.size X w2) (h : Blk X b c t) : Blk w2 b c t := h.of_eq (hB2.block _ h.lt)

section
variable {w : World} {τ : Nat → Tag} {sid i P : Nat} {pb : Nat → Nat} {pw sm : Nat} {sh : Nat → Nat} {iv : Nat → Value} {sv kv : Value} {K : List ByteArray} {L : List KV} {B0 : Nat}

/-- in the midst of add: the share that gets the item lies in hb, with what it had -/
structure AddMid (w wx : World) (τ : Nat → Tag) (sid i P : Nat) (pb : Nat → Nat) (pw sm : Nat) (sh : Nat → Nat) (iv : Nat → Value) (L : List KV) (B0 q hb : Nat) (iv0 : Value) (kk vv : ByteArray) : Prop where
  blk : Blk wx hb #[ptr (pb q), .int .i64 0, iv0] 174
  row : wx.ownsRow 0 70 2 iv0 (itemsOn P L q).length (kvCells (itemsOn P L q))
  map : MapF wx Tryz.prog 3 sm (upd (shF P sh L) (.int .i64 q) (ptr hb))
  box : Blk wx w.heap.size #[.string kk, .string vv] 70
  old : ∀ k, k < w.heap.size → k ≠ sm → wx.heap[k]? = w.heap[k]?
  fr : Below B0 w wx
  was : onPart P L q = true → hb = sh q ∧ iv0 = iv q
  new : onPart P L q = false → w.heap.size < hb ∧ iv0 = .slice none 0 0

theorem shF_upd {q : Nat} (h : onPart P L q = true) : upd (shF P sh L) (.int .i64 q) (ptr (sh q)) = shF P sh L := by
  funext kl
  by_cases e : kl = .int .i64 q
  · subst e
    rw [upd_same (by trivial)]
    simp [shF, h]
  · rw [upd_other e]
theorem shF_keys (hP : P ≤ 4) (hP1 : 1 ≤ P) : ∀ kl, shF P sh L kl ≠ none → kl ∈ intKeys := by
  intro kl h
  cases kl with
  | int k n =>
    cases k <;> try exact absurd rfl h
    simp only [shF] at h
    by_cases ho : onPart P L n = true
    · have := onPart_bd (by omega) ho
      exact mem_intKeys (by omega) (by omega)
    · simp [ho] at h
  | _ => exact absurd rfl h

theorem add_done {wa wc w2 : World} {q hb nq : Nat} {iv0 v2 : Value} {kk vv : ByteArray} {o : Obj} (h : PartW w τ sid i P pb pw sm sh iv sv kv K L B0) (hm : AddMid w wa τ sid i P pb pw sm sh iv L B0 q hb iv0 kk vv) (hP1 : 1 ≤ P) (hq : partOf P kk = q) (hq4 : q < P) (hP4 : P ≤ 4)
    (hBx : Below wa.heap.size wa wc) (hO2 : w2.ownsRow 0 70 2 v2 ((itemsOn P L q).length + 1) (kvCells (itemsOn P L q) ++ [.string kk, .string vv])) (hG2 : ((wc.drewN nq).alloc o).grownBy w2 iv0.ownBlock)
    (hA2 : v2.ownBlock = iv0.ownBlock ∨ v2.ownBlock = some ((wc.drewN nq).alloc o).heap.size) (hrb : iv0.ownBlock ≠ some hb) :
    ∃ τ' sh' iv', PartW (w2.setCell ⟨hb, 2, none⟩ v2) τ' sid i P pb pw sm sh' iv' sv kv K (L ++ [(kk, vv)]) B0 ∧ Below B0 w (w2.setCell ⟨hb, 2, none⟩ v2) ∧ (∀ k, k < w.heap.size → τ' k = τ k) ∧ ∀ k, k < w.heap.size → k ≠ sm → (∀ q' : Nat, onPart P L q' = true → k ≠ sh q' ∧ (iv q').ownBlock ≠ some k) → (w2.setCell ⟨hb, 2, none⟩ v2).heap[k]? = w.heap[k]? := by
  have hpl := h.blk.lt
  have hml := h.map.lt
  have hlo := h.lo
  have hsz1 := hm.fr.size
  have hsz2 := hBx.size
  have hsz3 : wc.heap.size + 1 ≤ w2.heap.size := by have := hG2.size; simpa using this
  have hhl := hm.blk.lt
  have hwl := hm.box.lt
  -- what hb and iv0 are not
  have hbt : ∀ {k a c : Nat}, k < w.heap.size → τ k = (sid, a, c) → (a = 8 → c ≠ i * 4 + q) → k ≠ hb := by
    intro k a c hk ht hac e
    cases ho : onPart P L q with
    | true =>
      have h1 := h.shTag q ho
      rw [← (hm.was ho).1, ← e, ht] at h1
      simp at h1
      exact hac h1.1 h1.2
    | false => have := (hm.new ho).1; omega
  have hivt : ∀ {k a c : Nat}, τ k = (sid, a, c) → (a = 9 → c ≠ i * 4 + q) → iv0.ownBlock ≠ some k := by
    intro k a c ht hac e
    cases ho : onPart P L q with
    | true =>
      rw [(hm.was ho).2] at e
      have h1 := h.itTag q k ho e
      rw [ht] at h1
      simp at h1
      exact hac h1.1 h1.2
    | false => rw [(hm.new ho).2] at e; cases e
  have hivlo : ∀ k, iv0.ownBlock = some k → B0 ≤ k := by
    intro k e
    cases ho : onPart P L q with
    | true => rw [(hm.was ho).2] at e; exact h.loIt q k ho e
    | false => rw [(hm.new ho).2] at e; cases e
  have hblo : B0 ≤ hb := by
    cases ho : onPart P L q with
    | true => rw [(hm.was ho).1]; exact h.loSh q ho
    | false => have := (hm.new ho).1; omega
  have zb : ∀ k, k < wa.heap.size → k ≠ hb → iv0.ownBlock ≠ some k → (w2.setCell ⟨hb, 2, none⟩ v2).heap[k]? = wa.heap[k]? := fun k hk h1 h2 =>
    (Below.heap_setCell _ _ _ _ h1).trans ((hG2.block k (by simp; omega) (fun e => h2 e.symm)).trans ((Below.heap_alloc (wc.drewN nq) o k (by simp; omega)).trans (hBx.block k hk)))
  have zo : ∀ {k a c : Nat}, k < w.heap.size → k ≠ sm → τ k = (sid, a, c) → (a = 8 → c ≠ i * 4 + q) → (a = 9 → c ≠ i * 4 + q) → (w2.setCell ⟨hb, 2, none⟩ v2).heap[k]? = w.heap[k]? := fun hk hs ht h8 h9 =>
    (zb _ (by omega) (hbt hk ht h8) (hivt ht h9)).trans (hm.old _ hk hs)
  have hsmt : ∀ {k a c : Nat}, τ k = (sid, a, c) → a ≠ 7 → k ≠ sm := fun ht ha e => by rw [e, h.mapTag] at ht; simp at ht; omega
  have zh : Blk (w2.setCell ⟨hb, 2, none⟩ v2) hb #[ptr (pb q), .int .i64 0, v2] 174 := by
    have h1 : Blk w2 hb _ _ := hm.blk.of_eq ((hG2.block hb (by simp; omega) (fun e => hrb e.symm)).trans ((Below.heap_alloc (wc.drewN nq) o hb (by simp; omega)).trans (hBx.block hb hhl)))
    simpa using h1.set 2 v2
  have hv2 : ∀ k, v2.ownBlock = some k → iv0.ownBlock = some k ∨ wc.heap.size ≤ k := fun k hk => by
    rcases hA2 with e | e
    · exact Or.inl (by rw [← e]; exact hk)
    · rw [hk] at e
      have := Option.some.inj e
      simp at this
      exact Or.inr (by omega)
  have zr : (w2.setCell ⟨hb, 2, none⟩ v2).ownsRow 0 70 2 v2 ((itemsOn P L q).length + 1) (kvCells (itemsOn P L q) ++ [.string kk, .string vv]) := row_of_block hO2 (fun k hk => Below.heap_setCell _ _ _ _ (fun e => by
    rcases hv2 k hk with e1 | e1
    · exact hrb (by rw [e1, e])
    · have : k = hb := e
      omega))
  refine ⟨fun k => if k = hb then (sid, 8, i * 4 + q) else if v2.ownBlock = some k then (sid, 9, i * 4 + q) else τ k, fun q' => if q' = q then hb else sh q', fun q' => if q' = q then v2 else iv q', ?_, ?_, ?_, ?_⟩
  · have htag : ∀ k, k < w.heap.size → (if k = hb then (sid, 8, i * 4 + q) else if v2.ownBlock = some k then (sid, 9, i * 4 + q) else τ k) = τ k := by
      intro k hk
      by_cases e1 : k = hb
      · rw [if_pos e1]
        cases ho : onPart P L q with
        | true => rw [e1, (hm.was ho).1, h.shTag q ho]
        | false => have := (hm.new ho).1; omega
      · rw [if_neg e1]
        by_cases e2 : v2.ownBlock = some k
        · rw [if_pos e2]
          rcases hv2 k e2 with e3 | e3
          · cases ho : onPart P L q with
            | true => rw [(hm.was ho).2] at e3; rw [h.itTag q k ho e3]
            | false => rw [(hm.new ho).2] at e3; cases e3
          · omega
        · rw [if_neg e2]
    have hon : ∀ q' : Nat, onPart P (L ++ [(kk, vv)]) q' = true → q' ≠ q → onPart P L q' = true := by
      intro q' ho hne
      rw [onPart_snoc] at ho
      have : decide (partOf P kk = (q' : Int)) = false := decide_eq_false (by rw [hq]; omega)
      rw [this, Bool.or_false] at ho
      exact ho
    refine ⟨h.blk.of_eq (zo hpl (hsmt h.tag (by omega)) h.tag (by omega) (by omega)), ?_, ?_, ?_, fun q' ho => ?_, fun q' ho => ?_, fun q' ho => ?_, fun q' k ho hk => ?_, row_of_block h.ky (fun k hk => zo (row_ge h.ky k hk).2 (hsmt (h.kyTag k hk) (by omega)) (h.kyTag k hk) (by omega) (by omega)), fun k hk => by rw [htag k (row_ge h.ky k hk).2, h.kyTag k hk], hlo, fun q' ho => ?_, fun q' k ho hk => ?_, h.loK⟩
    · rw [htag pw hpl, h.tag]
    · have e1 : shF P (fun q' => if q' = q then hb else sh q') (L ++ [(kk, vv)]) = upd (shF P sh L) (.int .i64 q) (ptr hb) := by
        funext kl
        by_cases e : kl = .int .i64 q
        · subst e
          rw [upd_same (by trivial)]
          have : onPart P (L ++ [(kk, vv)]) q = true := by rw [onPart_snoc]; simp [hq]
          simp [shF, this]
        · rw [upd_other e]
          cases kl with
          | int kd n =>
            cases kd <;> try rfl
            have hnq : n ≠ q := fun e' => e (by rw [e'])
            have : decide (partOf P kk = n) = false := decide_eq_false (by rw [hq]; exact fun e' => hnq e'.symm)
            simp only [shF, onPart_snoc, this, Bool.or_false]
            by_cases ho : onPart P L n = true
            · have hb0 := (onPart_bd (by omega) ho).1
              have : n.toNat ≠ q := by omega
              simp [ho, this]
            · simp [ho]
          | _ => rfl
      rw [e1]
      exact hm.map.of_eq (zb sm (by omega) (hbt hml h.mapTag (by omega)) (hivt h.mapTag (by omega)))
    · rw [htag sm hml, h.mapTag]
    · by_cases e : q' = q
      · subst e; simpa using zh
      · have ho' := hon q' ho e
        have hb' := h.shB q' ho'
        simp only [e, if_false]
        exact hb'.of_eq (zo hb'.lt (hsmt (h.shTag q' ho') (by omega)) (h.shTag q' ho') (by omega) (by omega))
    · by_cases e : q' = q
      · subst e; simp
      · have ho' := hon q' ho e
        have hb' := h.shB q' ho'
        simp only [e, if_false]
        rw [htag _ hb'.lt, h.shTag q' ho']
    · by_cases e : q' = q
      · subst e
        simp only [if_true]
        rw [itemsOn_snoc, if_pos hq, List.length_append, kvCells_snoc]
        exact zr
      · have ho' := hon q' ho e
        have hr := h.it q' ho'
        simp only [e, if_false]
        rw [itemsOn_snoc, if_neg (by rw [hq]; omega), List.append_nil]
        exact row_of_block hr (fun k hk => zo (row_ge hr k hk).2 (hsmt (h.itTag q' k ho' hk) (by omega)) (h.itTag q' k ho' hk) (by omega) (by omega))
    · by_cases e : q' = q
      · subst e
        simp only [if_true] at hk
        have : k ≠ hb := fun e' => by
          rcases hv2 k hk with e1 | e1
          · exact hrb (by rw [e1, e'])
          · omega
        simp [this, hk]
      · have ho' := hon q' ho e
        have hr := h.it q' ho'
        simp only [e, if_false] at hk
        rw [htag k (row_ge hr k hk).2, h.itTag q' k ho' hk]
    · by_cases e : q' = q
      · subst e; simpa using hblo
      · simp only [e, if_false]
        exact h.loSh q' (hon q' ho e)
    · by_cases e : q' = q
      · subst e
        simp only [if_true] at hk
        rcases hv2 k hk with e1 | e1
        · exact hivlo k e1
        · omega
      · simp only [e, if_false] at hk
        exact h.loIt q' k (hon q' ho e) hk
  · have h1 := hm.fr
    refine ⟨hG2.os.trans (hBx.os.trans h1.os), hG2.tape.trans (hBx.tape.trans h1.tape), hG2.output.trans (hBx.output.trans h1.output), by simp [World.setCell]; omega, fun k hk => ?_⟩
    exact (zb k (by omega) (by omega) (fun e => by have := hivlo k e; omega)).trans (h1.block k hk)
  · intro k hk
    by_cases e1 : k = hb
    · simp only [e1, if_true]
      cases ho : onPart P L q with
      | true => rw [(hm.was ho).1, h.shTag q ho]
      | false => have := (hm.new ho).1; omega
    · simp only [e1, if_false]
      by_cases e2 : v2.ownBlock = some k
      · rw [if_pos e2]
        rcases hv2 k e2 with e3 | e3
        · cases ho : onPart P L q with
          | true => rw [(hm.was ho).2] at e3; rw [h.itTag q k ho e3]
          | false => rw [(hm.new ho).2] at e3; cases e3
        · omega
      · rw [if_neg e2]
  · intro k hk hks hkq
    refine (zb k (by omega) (fun e => ?_) (fun e => ?_)).trans (hm.old k hk hks)
    · cases ho : onPart P L q with
      | true => exact (hkq q ho).1 (by rw [e, (hm.was ho).1])
      | false => have := (hm.new ho).1; omega
    · cases ho : onPart P L q with
      | true => exact (hkq q ho).2 (by rw [← (hm.was ho).2]; exact e)
      | false => rw [(hm.new ho).2] at e; cases e

set_option maxRecDepth 100000 in
set_option maxHeartbeats 2000000 in
theorem add_any (h : PartW w τ sid i P pb pw sm sh iv sv kv K L B0) (hP1 : 1 ≤ P) (hP4 : P ≤ 4) (kk vv : ByteArray) (q : Nat) (hq : partOf P kk = q) (hL8 : L.length < 8) :
    Calls Tryz.prog 86 #[ptr pw, .int .i64 q, ptr (pb q), .agg #[.string kk, .string vv]] w fun e w' => e = .returned (.tuple #[]) ∧
      ∃ τ' sh' iv', PartW w' τ' sid i P pb pw sm sh' iv' sv kv K (L ++ [(kk, vv)]) B0 ∧ Below B0 w w' ∧ (∀ k, k < w.heap.size → τ' k = τ k) ∧ ∀ k, k < w.heap.size → k ≠ sm → (∀ q' : Nat, onPart P L q' = true → k ≠ sh q' ∧ (iv q').ownBlock ≠ some k) → w'.heap[k]? = w.heap[k]? := by
  have hq4 : q < P := by have := partOf_bd P kk (by omega); omega
  have hlo := h.lo
  have hpl := h.blk.lt
  have hml := h.map.lt
  have c4 : w.cell? ⟨pw, 5, none⟩ = some (.map (some sm)) := h.blk.cell (o := 5) rfl
  have hne : pw ≠ sm := blk_ne_map h.blk h.map
  have hMb : ∀ o : Obj, MapF (w.alloc o) Tryz.prog 3 sm (shF P sh L) := fun o => h.map.of_eq (Below.heap_alloc _ _ _ hml)
  unfold ptr
  go_enter Tryz.func86, Tryz.ntmps86
  obtain ⟨fv, hfv⟩ : ∃ fv, shF P sh L (.int .i64 q) = fv := ⟨_, rfl⟩
  go_upto_if 20 with (at_lookup; refine wpList_lookF_ok _ rfl _ _ 162 rfl 3 168 keyInt Tryz.underlying162 (zeroShPtr _) sm (shF P sh L) rfl (hMb _) _ (.int .i64 q) rfl (keyOf_int (by omega) (by omega)) fv hfv ?_)
  go_cut [8, 9] (fun s8 _ wx => ∃ hb iv0, s8 = .pointer (some ⟨hb, 0, none⟩) ∧ AddMid w wx τ sid i P pb pw sm sh iv L B0 q hb iv0 kk vv)
  case first =>
    cases ho : onPart P L q with
    | true =>
      have e1 : fv = some (.pointer (some ⟨sh q, 0, none⟩)) := by rw [← hfv]; simp [shF, ho]; rfl
      clear hfv
      subst e1
      go_wp2_with fail
      go_meet
      case rel =>
        have hS := h.shB q ho
        have hI := h.it q ho
        refine ⟨sh q, iv q, rfl, hS.of_eq (Below.heap_alloc _ _ _ hS.lt), row_of_block hI (fun k hk => Below.heap_alloc _ _ _ (row_ge hI k hk).2), ?_, Blk.new _ _ _, fun k hk _ => Below.heap_alloc _ _ _ hk, (Below.refl _ _).alloc (by omega) _, fun _ => ⟨rfl, rfl⟩, fun e => by rw [ho] at e; cases e⟩
        rw [shF_upd ho]
        exact hMb _
    | false =>
      have e1 : fv = none := by rw [← hfv]; simp [shF, ho]
      clear hfv
      subst e1
      have hM2 : ∀ o o' : Obj, MapF ((w.alloc o).alloc o') Tryz.prog 3 sm (shF P sh L) := fun o o' => (hMb o).of_eq (Below.heap_alloc _ _ _ (by simp; omega))
      have d4 : ∀ o o' : Obj, ((w.alloc o).alloc o').cell? ⟨pw, 5, none⟩ = some (.map (some sm)) := fun o o' => (World.cell?_of_block (w := w.alloc o) (Below.heap_alloc (w.alloc o) o' pw (by simp; omega))).trans ((World.cell?_of_block (w := w) (Below.heap_alloc _ _ _ hpl)).trans c4)
      go_wp2_with (at_mapUpdate; refine wpList_updF _ rfl _ _ _ 162 rfl 3 168 keyInt Tryz.underlying162 sm (shF P sh L) rfl (hM2 _ _) intKeys (shF_keys hP4 hP1) intKeys_len _ _ (.int .i64 q) rfl rfl (keyOf_int (by omega) (by omega)) ?_; intro w3 hM3 hT3)
      go_meet
      case rel =>
        have hB3 := But.of_turned hT3
        have hold : ∀ k, k < w.heap.size → k ≠ sm → w3.heap[k]? = w.heap[k]? := fun k hk hkm => (hB3.block k hkm).trans ((Below.heap_alloc _ _ _ (by simp; omega)).trans (Below.heap_alloc _ _ _ hk))
        refine ⟨w.heap.size + 1, .slice none 0 0, ?_, ?_, ?_, ?_, ?_, hold, ?_, fun e => (by rw [ho] at e; cases e), fun _ => ⟨by omega, rfl⟩⟩
        · simp
        · have := (Blk.new (w.alloc (.cells #[.string kk, .string vv] 70)) #[ptr (pb q), .int .i64 0, .slice none 0 0] 174).of_eq (w' := w3) (hB3.block _ (by simp; omega))
          simpa using this
        · rw [itemsOn_off ho]
          exact World.ownsRow_nil _ _ _ _
        · exact hM3
        · exact ((Blk.new w #[.string kk, .string vv] 70).of_eq (Below.heap_alloc _ _ _ (by simp))).of_eq (hB3.block _ (by omega))
        · refine ⟨hB3.os, hB3.tape, hB3.output, by rw [hB3.size]; simp; omega, fun k hk => hold k (by omega) (by omega)⟩
  case rest =>
    obtain ⟨hb, iv0, rfl, hm⟩ := hcut
    rename World => wa
    have b0 : wa.cell? ⟨w.heap.size, 0, none⟩ = some (.string kk) := hm.box.cell (o := 0) rfl
    have b1 : wa.cell? ⟨w.heap.size, 1, none⟩ = some (.string vv) := hm.box.cell (o := 1) rfl
    have hbl := hm.box.lt
    clear hfv
    have hBx : Below wa.heap.size wa wa := Below.refl _ _
    obtain ⟨ii, hi, hz0, hz1, hz2⟩ := info_parts infoItm
    obtain ⟨av, capv, hiv⟩ := row_len hm.row
    have hhl := hm.blk.lt
    have hsx := hBx.size
    have hbx : Blk wa hb #[ptr (pb q), .int .i64 0, iv0] 174 := hm.blk.of_eq (hBx.block _ hhl)
    have c2 : wa.cell? ⟨hb, 2, none⟩ = some iv0 := hbx.cell (o := 2) rfl
    have hrow : wa.ownsRow 0 70 2 iv0 (itemsOn P L q).length (kvCells (itemsOn P L q)) := row_of_block hm.row (fun k hk => hBx.block k (row_ge hm.row k hk).2)
    have hn8 : (itemsOn P L q).length < 8 := Nat.lt_of_le_of_lt (itemsOn_le _ _ _) hL8
    have hrb : iv0.ownBlock ≠ some hb := fun e => by
      obtain ⟨_, h2⟩ := hm.row
      rcases h2 with ⟨e', _⟩ | ⟨g, cp, cu, e', _, hg, _⟩
      · rw [e'] at e; cases e
      · rw [e'] at e
        cases e
        have h3 : wa.heap[g]? = some (.cells _ 174 (0, 0)) := hm.blk
        rw [h3] at hg; cases hg
    have HD : Hid (∀ (w2 : World) (v2 : Value) (nq : Nat) (o : Obj), w2.ownsRow 0 70 2 v2 ((itemsOn P L q).length + 1) (kvCells (itemsOn P L q) ++ [.string kk, .string vv]) → ((wa.drewN nq).alloc o).grownBy w2 iv0.ownBlock → (v2.ownBlock = iv0.ownBlock ∨ v2.ownBlock = some ((wa.drewN nq).alloc o).heap.size) →
        ∃ τ' sh' iv', PartW (w2.setCell ⟨hb, 2, none⟩ v2) τ' sid i P pb pw sm sh' iv' sv kv K (L ++ [(kk, vv)]) B0 ∧ Below B0 w (w2.setCell ⟨hb, 2, none⟩ v2) ∧ (∀ k, k < w.heap.size → τ' k = τ k) ∧ ∀ k, k < w.heap.size → k ≠ sm → (∀ q' : Nat, onPart P L q' = true → k ≠ sh q' ∧ (iv q').ownBlock ≠ some k) → (w2.setCell ⟨hb, 2, none⟩ v2).heap[k]? = w.heap[k]?) :=
      fun w2 v2 nq o a1 a2 a3 => add_done h hm hP1 hq hq4 hP4 hBx a1 a2 a3 hrb
    have hbg : ∀ (w2 : World) (nq : Nat) (o : Obj), ((wa.drewN nq).alloc o).grownBy w2 iv0.ownBlock → Blk w2 hb #[ptr (pb q), .int .i64 0, iv0] 174 := fun w2 nq o hG => hbx.of_eq ((hG.block hb (by simp; omega) (fun e => hrb e.symm)).trans (Below.heap_alloc (wa.drewN nq) o hb (by simp; omega)))
    have HBG : Hid _ := hbg
    have c2a : ∀ (o : Obj) (nq : Nat), ((wa.drewN nq).alloc o).cell? ⟨hb, 2, none⟩ = some iv0 := fun o nq => (World.cell?_of_block (w := wa.drewN nq) (Below.heap_alloc (wa.drewN nq) o hb (by simp; omega))).trans c2
    have c2b : ∀ (o : Obj), (wa.alloc o).cell? ⟨hb, 2, none⟩ = some iv0 := fun o => (World.cell?_of_block (w := wa) (Below.heap_alloc wa o hb (by omega))).trans c2
    clear hbg c2a
    subst hiv
    generalize (itemsOn P L q).length = n at *
    generalize kvCells (itemsOn P L q) = xs at *
    go_upto_region 5 with (fail)
    go_region_law (refine step_append_own_at rfl (.tmp 34) (.tmp 36) 68 rfl 0 70 ii _ 2 32 Tryz.underlying68 hi hz0 hz1 hz2 rfl (by decide) (.slice av n capv) n xs rfl (hrow.alloc _) ⟨_, 0, none⟩ 1 1 [.string kk, .string vv] rfl rfl (cell_two_new _ _ _ _) (by simp [Value.oneCell']) (by unfold maxLen; omega) (by omega) (Nat.zero_le _) ?_; intro v2 w2 hO2 hG2 hN2 hA2; have hb2 := HBG.out w2 _ _ hG2; have d2 := hb2.cell (o := 2) (v := .slice av n capv) rfl; have e2 := hb2.frozen 2; obtain ⟨g2, cap2, hv2, -⟩ := row_form hO2 (by omega); rw [hv2])
    all_goals
      go_wp2_with fail
      go_end0
      rw [← hv2]
      exact ⟨rfl, HD.out w2 v2 1 _ hO2 hG2 hA2⟩

end
end Go.Proofs.YteoahlieielcdaaGreat
