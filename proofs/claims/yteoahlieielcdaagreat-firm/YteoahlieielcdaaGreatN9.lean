import Derived.Test.YteoahlieielcdaaGreatK1
import Derived.Test.YteoahlieielcdaaGreatY9
set_option linter.all false
namespace Go.Proofs.YteoahlieielcdaaGreat
variable{τ:Nat->Tag}{q c n:Int}{L:List ByteArray}{p P:Nat}{m:MW}{l:List KV}
section
open Go Go.RowKit Go.MuLone Go.Conc
structure LL(w:World)(τ:Nat->Tag)(kg:Nat)(L:List ByteArray):Prop where
 lt:kg<w.heap.size
 tag:(τ kg).1=0
 cell:∀(j:Nat) (x:ByteArray),L[j]?=some x->w.cell? ⟨kg,j,none⟩=some (.string x)
theorem LL.set{w:World}{kg q o:Nat}{v:Value}(h:LL w τ kg L)(hq:(τ q).1=1):LL (w.setCell ⟨q,o,none⟩ v) τ kg L:=
 ⟨by simpa[World.setCell]using h.lt,h.tag,fun j x hx=>(World.cell?_of_block (w:=w) (a:=⟨kg,j,none⟩) (Below.heap_setCell _ _ _ _ (fun e=>by have e':kg=q:=e;rw[<-e',h.tag]at hq;cases hq))).trans (h.cell j x hx)⟩
theorem Fe:∀b,1<=b->b<64->iH (aA b)=0:=by
 have:∀b,b<64->(1<=b->iH (aA b)=0):=by decide+kernel
 exact fun b h1 h2=>this b h2 h1
section
variable {w wr:World}
end
end
section
open Go Go.RowKit Go.MuLone
theorem LL.frame{w w':World}{τ':Nat->Tag}{kg:Nat}(h:LL w τ kg L)(hb:∀q,q<w.heap.size->(τ q).1≠2->w'.heap[q]?=w.heap[q]? /\τ' q=τ q):LL w' τ' kg L:=by obtain⟨h1,h2⟩:=hb kg h.lt (by rw[h.tag];decide);exact⟨by rw[Array.getElem?_eq_getElem h.lt]at h1;exact(Array.getElem?_eq_some_iff.1 h1).1,by rw[h2];exact h.tag,fun j x hx=>(World.cell?_of_block (w:=w) (a:=⟨kg,j,none⟩) h1).trans (h.cell j x hx)⟩
structure FmM(w0 w:World)(τ:Nat->Tag)(sb xb kg:Nat)(L:List ByteArray)(s:MS)(A:SA):Prop where
 rep:aW w τ 2 sb s A
 env:Env w0 w τ
 x:aT w xb #[ptr sb,dV,dV] 32
 C2:τ xb=(1,21,0)
 kg:LL w τ kg L
structure FmN(w0 w:World)(τ:Nat->Tag)(sb xb kg:Nat)(L:List ByteArray)(s:MS)(A:SA)(kb n:Nat)(kv:Value)(f:Nat->Bool):Prop extends FmM w0 w τ sb xb kg L s A where
 kn:aT w kb (iy (n:Int) kv f) 48
 vZ:τ kb=(1,20,0)
section
variable {w0 w1 w w':World}{τ τ':Nat->Tag}{sb xb kg kb n:Nat}{s s':MS}{A A':SA}{L:List ByteArray}{kv:Value}{f:Nat->Bool}
theorem FmM.frame(h:FmM w0 w τ sb xb kg L s A)(hR:aW w' τ' 2 sb s' A')(hE:Env w1 w' τ')(hb:∀q,q<w.heap.size->(τ q).1≠2->w'.heap[q]?=w.heap[q]? /\τ' q=τ q):FmM w1 w' τ' sb xb kg L s' A':=
 ⟨hR,hE,h.x.of_eq (hb xb h.x.lt (by rw[h.C2];decide)).1,by rw[(hb xb h.x.lt (by rw[h.C2];decide)).2,h.C2],h.kg.frame hb⟩
theorem FmN.frame(h:FmN w0 w τ sb xb kg L s A kb n kv f)(hR:aW w' τ' 2 sb s' A')(hE:Env w1 w' τ')(hb:∀q,q<w.heap.size->(τ q).1≠2->w'.heap[q]?=w.heap[q]? /\τ' q=τ q):FmN w1 w' τ' sb xb kg L s' A' kb n kv f:=
 ⟨h.toFmM.frame hR hE hb,h.kn.of_eq (hb kb h.kn.lt (by rw[h.vZ];decide)).1,by rw[(hb kb h.kn.lt (by rw[h.vZ];decide)).2,h.vZ]⟩
theorem FmM.step(h:FmM w0 w τ sb xb kg L s A)(hR:aW w' τ' 2 sb s' A')(hs:Stp 2 τ w τ' w'):FmM w0 w' τ' sb xb kg L s' A':=
 h.frame hR (h.env.nG hs (by decide)) fun q hq e=>⟨hs.block q hq e,hs.tag q hq⟩
theorem FmN.step(h:FmN w0 w τ sb xb kg L s A kb n kv f)(hR:aW w' τ' 2 sb s' A')(hs:Stp 2 τ w τ' w'):FmN w0 w' τ' sb xb kg L s' A' kb n kv f:=
 h.frame hR (h.env.nG hs (by decide)) fun q hq e=>⟨hs.block q hq e,hs.tag q hq⟩
theorem FmN.box(h:FmN w0 w τ sb xb kg L s A kb n kv f)(o:Obj):FmN w0 (w.alloc o) (retag τ w.heap.size) sb xb kg L s A kb n kv f:=
 h.frame (h.rep.box o) (h.env.alloc o) fun q hq _=>⟨Below.heap_alloc _ _ _ hq,by unfold retag;rw[if_neg (by omega)]⟩
theorem FmN.known(h:FmN w0 w τ sb xb kg L s A kb n kv f)(hp:p<4):FmN w0 (w.setCell ⟨kb,2+p,none⟩ (.bool true)) τ sb xb kg L s A kb n kv (put f p):=by
 have hk1:(τ kb).1=1:=by rw[h.vZ]
 have Ft:=VW h.env hk1;have hne:∀{q:Nat},q≠kb->(w.setCell ⟨kb,2+p,none⟩ (.bool true)).heap[q]?=w.heap[q]? :=fun hq=>Below.heap_setCell _ _ _ _ hq;refine⟨⟨h.rep.frame (fun q _ e=>⟨hne (fun e'=>by rw[e',hk1]at e;cases e),rfl⟩),⟨h.env.below.setCell (p:=⟨kb,2+p,none⟩) Ft _,h.env.yt⟩,h.x.of_eq (hne (fun e'=>by have:=h.C2;rw[e',h.vZ]at this;cases this)),h.C2,h.kg.set hk1⟩,?_,h.vZ⟩;have:=h.kn.set (2+p) (.bool true);rw[ET hp]at this;exact this
theorem FmM.known(h:FmM w0 w τ sb xb kg L s A)(kv:Value):FmN w0 (w.alloc (.cells (iy (n:Int) kv fun _=>false) 48)) (fun q=>if q=w.heap.size then(1,20,0)else τ q) sb xb kg L s A w.heap.size n kv (fun _=>false):=by
 have ht:∀q,q<w.heap.size->(if q=w.heap.size then((1,20,0):Tag)else τ q)=τ q:=fun q hq=>by rw[if_neg (by omega)]
 have hsz:=h.env.below.size;exact⟨h.frame (h.rep.frame (fun q hq _=>⟨Below.heap_alloc _ _ _ hq,ht q hq⟩)) ⟨h.env.below.alloc hsz _,fun q hq=>by rw[ht q (by omega)];exact h.env.yt q hq⟩ (fun q hq _=>⟨Below.heap_alloc _ _ _ hq,ht q hq⟩),aT.new w _ _,by simp⟩
end
def fmRd(L:List ByteArray)(v:ByteArray->Nat)(m:Nat):MR:={keys:=L,asked:=fun q=>decide (q<m),found:=fun q=>if q<m then v (L.getD q ⟨#[]⟩)else 0,fin:=false}
section
variable {P:Nat}{M:Int}{bf:Nat->Nat}{k:Nat}{L:List ByteArray}{v:ByteArray->Nat}{rs:List MR}{s:MS}
theorem fmRd_new:gq L=fmRd L v 0:=by unfold gq fmRd;simp
theorem fmRd_end:fmRd L v L.length=gR L v 0:=by unfold fmRd gR;simp
theorem fm_read(hm:iH L=0):py (nJ P M bf k []) L=(1,0,nJ P M bf k [fmRd L v 0]):=by unfold py;rw[hm,<-fmRd_new];rfl
theorem fm_ask{m:Nat}{x:ByteArray}(hnd:L.Nodup)(hx:L[m]?=some x)(hv:aU (nJ P M bf k [fmRd L v m]) x=v x):lT (nJ P M bf k [fmRd L v m]) 1 x=(0,nJ P M bf k [fmRd L v (m+1)]):=by
 have hj:=aE hx;have hkx:bM L x=m:=lz hnd hx;have hf:gN (nJ P M bf k [fmRd L v m]) 1=some (fmRd L v m):=rfl;have e1:(fmRd L v m).keys=L:=rfl;have e2:(fmRd L v m).asked m=false:=by show decide (m<m)=false;simp
 unfold lT;rw[hf];simp only[e1,hkx,hj,if_true,e2,Bool.false_eq_true,if_false];have e3:J4 (nJ P M bf k [fmRd L v m]) (fmRd L v m) m x=fmRd L v (m+1):=by
  unfold J4 fmRd;simp only;congr 1
  ·funext q;simp only[put];by_cases h:q=m
   ·subst h;simp
   ·rw[if_neg h];simp only[decide_eq_decide];omega
  ·funext q;by_cases h:q=m
   ·subst h;have hg:L.getD q ⟨#[]⟩=x:=by simp[List.getD,hx]
    rw[if_pos rfl,if_pos (by omega),hg];exact hv
   ·rw[if_neg h];by_cases h2:q<m
    ·rw[if_pos h2,if_pos (by omega)]
    ·rw[if_neg h2,if_neg (by omega)]
 rw[e3];rfl
theorem fm_early(hl:1<=L.length):iG (fmRd L v 0)=false:=by unfold iG;rw[List.all_eq_false];exact⟨0,List.mem_range.2 hl,by show ¬(decide (0<0)=true);simp⟩
theorem mWrite_bad(h:eC l=c)(h0:c≠0):jD s l=(0,c,s):=by unfold jD;rw[h,if_pos h0]
theorem mRead_bad{l:List ByteArray}(h:iH l=c)(h0:c≠0):py s l=(0,c,s):=by unfold py;rw[h,if_pos h0]
theorem mFind_out(h:n<1\/(s.ws.length:Int)<n):bF s n=none:=by unfold bF;rw[if_pos h]
theorem mPrepare_none{p:Int}(h:bF s n=none):ez s n p=(7,s):=by unfold ez;rw[h]
theorem mCommit_none{p:Int}(h:bF s n=none):eH s n p=(7,s):=by unfold eH;rw[h]
theorem onPart_out(hP:0<P)(h:q<0\/(P:Int)<=q):az P l q=false:=by unfold az;rw[List.any_eq_false];intro x _;have:=eM (P:Int) x.1 (by omega);simp only[decide_eq_true_eq];omega
theorem mPrepare_out{p:Int}(h:bF s n=some m)(hP:0<s.parts)(hp:p<0\/(s.parts:Int)<=p):ez s n p=(8,s):=by unfold ez;rw[h];simp[onPart_out hP hp]
theorem mCommit_out{p:Int}(h:bF s n=some m)(hP:0<s.parts)(hp:p<0\/(s.parts:Int)<=p):eH s n p=(8,s):=by unfold eH;rw[h];simp[onPart_out hP hp]
theorem mCancel_late(h:bF s n=some m)(hp:p<4)(hc:m.comm p=true):jd s n=(9,s):=by
 unfold jd;rw[h];match p,hp with
 | 0,_=>simp[hc]
 | 1,_=>simp[hc]
 | 2,_=>simp[hc]
 | 3,_=>simp[hc]
theorem mAsk_out{x:ByteArray}(h:n<1\/(s.rs.length:Int)<n):lT s n x=(7,s):=by unfold lT gN fO;rw[if_pos h]
theorem mAsk_other{x:ByteArray}{r:MR}(h:gN s n=some r)(hx:x ∉ r.keys):lT s n x=(4,s):=by
 unfold lT;rw[h];have:¬bM r.keys x<r.keys.length:=fun hl=>by unfold bM at hl;have:=List.findIdx_lt_length.1 hl;obtain⟨y,hy,e⟩:=this;simp at e;exact hx (e▸hy)
 simp only[this,if_false]
end
end
end Go.Proofs.YteoahlieielcdaaGreat
