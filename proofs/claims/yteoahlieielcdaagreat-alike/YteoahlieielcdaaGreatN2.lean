import Derived.Test.YteoahlieielcdaaGreatV8
import Derived.Test.YteoahlieielcdaaGreatPrF3
import Derived.Test.YteoahlieielcdaaGreatJ22
set_option linter.all false
set_option maxHeartbeats 8000000
set_option maxRecDepth 100000
namespace Go.Proofs.YteoahlieielcdaaGreat
open Go.Proofs.Tryz
open Go Go.RowKit Go.MuLone Go.Conc
open Go.Maps (Keyed)
abbrev zb8:=@RowKit.Below.heap_alloc
structure Uf(w0:World)(r:MR)(ab ba bc wg:Nat)(ms:List Int)(cv:Value)(w:World):Prop where
 below:Below w0.heap.size w0 w
 NS:∃C,aT w ab C 62/\C.size=r.keys.length*3
 R8:aT w ba #[.slice (some ⟨ab,0,none⟩) r.keys.length r.keys.length] 42
 R9:aT w bc #[cv] 58
 cand:yH r ms
 row:w.ownsRow w0.heap.size 3 1 cv ms.length (ms.map (Value.int .i64))
 GZ:aT w wg #[.int .u64 0,.int .u32 0] 155
 ord:w0.heap.size<=ab/\ab<ba/\ba<bc/\bc<wg
 Sa:∀k,cv.ownBlock=some k->ba<k/\k<bc
section
variable {w:World}{A:SA}
theorem LD{i:Nat}{r:MR}(h:Seen w A i r)(c:List Frame):
 To prog (fun fr c' w'=>c'=c/\∃(b:Frame) (a:Act) (ab ba bc wg:Nat) (ms:List Int) (cv:Value),fr=b.at a [.code yp]/\b.fn=44/\b.kind=.normal/\Ap a (A.R.pr i) ba bc wg 0/\Uf w r ab ba bc wg ms cv w') (Frame.enter prog 44 #[ptr (A.R.pr i)] .normal) c w:=by
 have Hz:=h.l8;have KQ:=h.l1;obtain⟨kg,bC,hkv,_,_,mG,_⟩:=dJ h.ky (by omega);have CY:=h.rd.lt;have c3:w.cell? ⟨A.R.pr i,3,none⟩=some (.slice (some ⟨kg,0,none⟩) r.keys.length bC):=by have:=h.rd.cell (o:=3) (v:=A.R.ks i) rfl;rw[hkv]at this;exact this
 obtain⟨M,hMs,hmk⟩:=Fa r.keys.length Hz w;have iM:Below w.heap.size w ((w.alloc (.cells M 62)).alloc (.cells #[.slice (some ⟨w.heap.size,0,none⟩) r.keys.length r.keys.length] 42)):=((Below.refl _ _).alloc (Nat.le_refl _) _).alloc (by simp) _;have cc:=yJ (h.below iM);have mU:aT ((w.alloc (.cells M 62)).alloc (.cells #[.slice (some ⟨w.heap.size,0,none⟩) r.keys.length r.keys.length] 42)) w.heap.size M 62:=(aT.new w _ _).of_eq (zb8 _ _ _ (by simp));have Z4:aT ((w.alloc (.cells M 62)).alloc (.cells #[.slice (some ⟨w.heap.size,0,none⟩) r.keys.length r.keys.length] 42)) (w.heap.size+1) #[.slice (some ⟨w.heap.size,0,none⟩) r.keys.length r.keys.length] 42:=by have:=aT.new (w.alloc (.cells M 62)) #[.slice (some ⟨w.heap.size,0,none⟩) r.keys.length r.keys.length] 42;simpa using this
 have qQ:((w.alloc (.cells M 62)).alloc (.cells #[.slice (some ⟨w.heap.size,0,none⟩) r.keys.length r.keys.length] 42)).heap.size=w.heap.size+2:=by simp
 clear hkv mG h;unfold ptr at cc⊢;rw[enter_at func44 rfl];walk_nrmf ntmps44;refine To.gP fun K hK=>?_;go_wp2_with fail
 refine To.gP fun K hK=>?_;go_wp2_with fail
 generalize (w.alloc (.cells M 62)).alloc (.cells #[.slice (some ⟨w.heap.size,0,none⟩) r.keys.length r.keys.length] 42)=w1 at *;refine To.gP fun K hK=>?_;go_wp2_with fail
 refine cc.mono ?_;rintro e w2 ⟨ms,cv,rfl,hrow,Ug,dP⟩;clear cc hmk;obtain⟨ca,eN,rfl⟩:=gH hrow;rw[qQ]at hrow dP;have oO:Below w.heap.size w w2:=iM.trans (dP.mono (by omega));have w8:=dP.size;rw[qQ]at w8;have rj:Below w.heap.size w ((w2.alloc (.cells #[.slice ca ms.length eN] 58)).alloc (.cells #[.int .u64 0,.int .u32 0] 155)):=(oO.alloc oO.size _).alloc (by simp;omega) _;have Sg:∀k,k<w2.heap.size->((w2.alloc (.cells #[.slice ca ms.length eN] 58)).alloc (.cells #[.int .u64 0,.int .u32 0] 155)).heap[k]?=w2.heap[k]? :=fun k hk=>(zb8 _ _ _ (by simp;omega)).trans (zb8 _ _ _ hk);have VR:aT ((w2.alloc (.cells #[.slice ca ms.length eN] 58)).alloc (.cells #[.int .u64 0,.int .u32 0] 155)) (w2.heap.size+1) #[.int .u64 0,.int .u32 0] 155:=by have:=aT.new (w2.alloc (.cells #[.slice ca ms.length eN] 58)) #[.int .u64 0,.int .u32 0] 155;simpa using this
 have hC4:aT ((w2.alloc (.cells #[.slice ca ms.length eN] 58)).alloc (.cells #[.int .u64 0,.int .u32 0] 155)) w2.heap.size #[.slice ca ms.length eN] 58:=(aT.new w2 _ _).of_eq (zb8 _ _ _ (by simp));have HF:Hid (Uf w r w.heap.size (w.heap.size+1) w2.heap.size (w2.heap.size+1) ms (.slice ca ms.length eN) ((w2.alloc (.cells #[.slice ca ms.length eN] 58)).alloc (.cells #[.int .u64 0,.int .u32 0] 155))):=by refine⟨rj,⟨M,(mU.of_eq (dP.block _ (by omega))).of_eq (Sg _ (by omega)),hMs⟩,(Z4.of_eq (dP.block _ (by omega))).of_eq (Sg _ (by omega)),hC4,Ug,ak (yI hrow (by omega)) (fun k hk=>Sg k (aR hrow k hk).2),VR,⟨Nat.le_refl _,by omega,by omega,by omega⟩,fun k hk=>?_⟩;have:=aR hrow k hk;omega
 clear iM mU Z4 qQ dP oO w8 rj Sg VR hC4 hrow Ug;go_wp2_with fail
 refine To.gP fun K hK=>?_;go_wp2_with fail
 refine To.gP fun K hK=>?_;go_wp2_with fail
 exact To.done ⟨rfl,_,_,_,_,_,_,_,_,rfl,rfl,rfl,⟨rfl,rfl,rfl,rfl,rfl,rfl,rfl⟩,HF.out⟩
end
end Go.Proofs.YteoahlieielcdaaGreat
