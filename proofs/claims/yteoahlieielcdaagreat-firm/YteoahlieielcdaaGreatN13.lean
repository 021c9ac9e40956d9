import Derived.Test.YteoahlieielcdaaGreatN8
import Derived.Test.YteoahlieielcdaaGreatN12
set_option linter.all false
namespace Go.Proofs.YteoahlieielcdaaGreat
open Go Go.RowKit Go.MuLone Go.Conc
variable{w W:World}{i k a d:Nat}{cv v:Value}{P:Program}{fr:Frame}{c:List Frame}
theorem bH.fxo{τ:Nat->Tag}{aD b:Nat}{s:MS}{A:SA}{r:MR}{ab ba bc wg:Nat}{ms:List Int}{Sb:Nat->Prop}(h:bH w W τ aD b s A i r ab ba bc wg ms cv Sb)(hk:k<w.heap.size)(ht:(τ k).1≠aD)(hs:¬Sb k):h.L.Fx k:=by
 have h1:=h.ord;have h2:=h.GZ.lt;refine⟨by omega,fun e=>?_,fun e=>?_,fun q hq e=>?_,hs⟩
 ·have e':k=ab:=e;omega
 ·have e':k=wg:=e;omega
 ·have:=h.rep.cS q hq;have e':k=A.pb q:=e;rw[<-e']at this;rw[this]at ht;exact ht rfl
theorem yN{m m1:Machine}{t t1:Trace}(b:Nat)(h:runNT P a m t=(.next m1,t1)):runN P (a+b) m=runN P b m1:=by rw[<-runNT_fst P _ _ t,<-runNT_fst P _ _ t1,mS a b h]
theorem Ih{f:Func}{t:Tmp}(h:fr.leaving P w (.returned v))(hi:P.inits.idxOf? fr.fn=none)(hf:P.funcs[fr.fn]?=some f)(ht:f.results=#[.tmp t]):stepG P true (G fr []) w=.ended (.done v) w #[]:=by
 obtain⟨hm,hd,hk,fn,hf',hr⟩:=h;rw[hf]at hf';cases hf';have e:Sem.events P (results f fr.tmps) w #[]=#[]:=by simp[results,ht]
 simp[G,stepG,unwind,doReturn,hm,hd,hk,hf,hr,hi,e,seen,GStep.after]
def FmQ(W:World)(fr:Frame)(c:List Frame)(v:World):Prop:=∃tp n w'',v.heap=w''.heap/\v.os=w''.os/\v.output=w''.output/\FmPost (wt W tp n) fr c w''
theorem FmPost.Z1(h:FmPost W fr c w):iT fr c:=by obtain⟨B,_,_,hA⟩:=h;obtain⟨P,M,τ,sb,xb,kg,bC,kb,A,wf,fW,_,hW,hL⟩:=hA.ex;obtain⟨b,a,ab,ba,bc,wg,ms,cv,fF,rfl,_,_,rfl,hF,_⟩:=hL.ex;obtain⟨b1,a1,rfl,_⟩:=hW;obtain⟨b2,a2,rfl,_⟩:=hF;intro x hx ch;simp only[List.mem_cons,List.not_mem_nil,or_false]at hx;rcases hx with rfl|rfl|rfl<;>simp[Frame.at]
def FmE(v0:World)(n:Nat)(fr:Frame)(c:List Frame)(v:World):Prop:=c= []/\fr.fn=11/\(∀u,fr.leaving Tryz.prog u (.returned (.bool true)))/\(∀k,k<n->v.heap[k]?=v0.heap[k]?)/\n<=v.heap.size/\v.os=v0.os/\v.output=v0.output
theorem firm_first(W:World)(far parts mode set:Int)(h1: -9223372036854775808<=far)(h2:far<=9223372036854775807)(h3: -9223372036854775808<=parts)(h4:parts<=9223372036854775807)(h5: -9223372036854775808<=mode)(h6:mode<=9223372036854775807)(h7: -9223372036854775808<=set)(h8:set<=9223372036854775807):
 ∃N gs' fr' c' w' sl' t' q' d',runNT Tryz.prog N (solo (G (Frame.enter Tryz.prog 11 #[.int .i64 far,.int .i64 parts,.int .i64 mode,.int .i64 set] .normal) []) W) #[]=(.next (crowd gs' w' sl'),t')/\FmQ W fr' c' w'/\Crowd Tryz.prog w7 (fun _=>False) d' fr' c' [] gs' t' q':=by
 have hS:AG w7 0 (Frame.enter Tryz.prog 11 #[.int .i64 far,.int .i64 parts,.int .i64 mode,.int .i64 set] .normal) []:=Ii CR (b:=0) (by kernel_rfl) (by omega) _ (fun n hn=>by
  have e:w7.vY 11= []:=by kernel_rfl
  rw[e]at hn;cases hn)
 obtain⟨N,gs',fr',c',v',w',sl',t',q',d',r1,r2,r3,r4,r5⟩:=beside (Q:=FmQ W) (fun fr c v tp n h=>by
  obtain⟨a1,a2,a3,a4,a5,a6,a7⟩:=h;exact⟨a1,a2,a3,a4,a5,a6,a7⟩) (E9 hS) (w:=W) (fun b hb=>hb.elim) (fun tp n=>by
  rw[LB];refine((firm_to (w:=wt W tp n) far parts mode set h1 h2 h3 h4 h5 h6 h7 h8).then fun fr c w hq=>To.done ?_).reach (fun fr c w h=>?_)
  ·exact⟨tp,n,w,rfl,rfl,rfl,hq⟩
  ·obtain⟨a1,a2,a3,a4,a5,a6,a7⟩:=h;exact a7.Z1) none
 obtain⟨tp,n,w'',e1,e2,e3,hq⟩:=r3;exact⟨N,gs',fr',c',w',sl',t',q',d',r1,⟨tp,n,w'',(OA r4).symm.trans e1,r4.os.symm.trans e2,r4.out.symm.trans e3,hq⟩,r5⟩
theorem firm_inits:Tryz.prog.inits.idxOf? 11=none:=by kernel_rfl
theorem firm_second{W1:World}{gs:Array Goroutine}{t:Trace}{q:Nat->Nat}(hq:FmQ W fr c W1)(hC:Crowd Tryz.prog w7 (fun _=>False) d fr c [] gs t q)(sl:Option (Nat×Nat)){Post:Value->World->Prop}
 (Z2:∀w',W.heap.size<=w'.heap.size->(∀k,k<W.heap.size->w'.heap[k]?=W.heap[k]?)->w'.output=W.output->Go.ConcM.OsLater W.os w'.os->Post (.bool true) w'):
 ∃N last o w' t',runNT Tryz.prog (N+1) (crowd gs W1 sl) t=(.ended o w',t')/\runN Tryz.prog N (crowd gs W1 sl)=.next last/\step Tryz.prog last=.ended o w'/\Conc.Good Tryz.prog Post last o w' t':=by
 obtain⟨tp,n,w'',e1,e2,e3,B,iM,R7,hA⟩:=hq;obtain⟨P,M,τ,sb,xb,kg,bC,kb,A,wf,fW,hN,hW,hL⟩:=hA.ex;obtain⟨ab,ba,bc,wg,ms,cv,fF,H,N1,gs2,w2,VO,t2,q2,XF,na,rfl,hF,r1,hC2,hlv,hR⟩:=CS hL hC e1 sl;obtain⟨-,-,-,-,-,-,-,-,-,-,-,-,-,-,-,-,-,VP⟩:=hL.ex;have hP:0<P:=hN.rep.ok.p1;have hWf:W.heap.size<=wf.heap.size:=hN.env.below.size;have ho:=H.ord;have hw1:wf.heap.size<=W1.heap.size:=by have:=H.GZ.lt;omega
 have D9:∀{x:Nat},x<wf.heap.size->(τ x).1≠2->w2.heap[x]?=wf.heap[x]? /\x≠wg:=fun{x} hx ht=>by have h1:=hR.rs.blk x (by omega) (H.fxo hx ht (fun h=>h));rw[h1,e1,VP.block x hx ht];exact⟨rfl,by omega⟩
 have oN:CX (fun x=>False\/x=wg) w2:=by
  rintro x (h|rfl)
  ·exact h.elim
  ·exact⟨_,_,by simp,hR.GZ⟩
 have Z3:∀{x:Nat},x≠wg->(gu (fun x=>False\/x=wg) w2).heap[x]?=w2.heap[x]? :=fun{x} hx=>(yP oN).same x (fun h=>by rcases h with h|h;exact h;exact hx h);have w8:(gu (fun x=>False\/x=wg) w2).heap.size=w2.heap.size:=(yP oN).size;have ajK:=hR.rs.le;have VQ:ab≠wg:=by omega
 have hfr:∀k,k<ab->fresh τ ab k=τ k:=fun k hk=>by unfold fresh;rw[if_neg (by omega)]
 obtain⟨N3,gs3,fr3,c3,v3,w3,sl3,t3,q3,d3,s1,s2,s3,s4,s5⟩:=beside (Q:=FmE (gu (fun x=>False\/x=wg) w2) W.heap.size) (fun fr c v tp n h=>h) hC2 oN (fun tp n=>by
  refine To.reach (Q:=FmE (gu (fun x=>False\/x=wg) w2) W.heap.size) ?_ (fun fr c w h=>?_)
  ·refine To.leave (hlv _) (Sf hF fun fr _ hl=>To.leave hl ?_);have hcell:∀{x o:Nat},x≠wg->(wt (gu (fun x=>False\/x=wg) w2) tp n).cell? ⟨x,o,none⟩=w2.cell? ⟨x,o,none⟩:=fun{x o} hx=>World.cell?_of_block (w:=w2) (a:=⟨x,o,none⟩) (Z3 hx);have hz0:({wt (gu (fun x=>False\/x=wg) w2) tp n with heap:=(gu (fun x=>False\/x=wg) w2).heap.extract 0 W.heap.size}:World).heap.size=W.heap.size:=by show ((gu (fun x=>False\/x=wg) w2).heap.extract 0 W.heap.size).size=_;rw[Array.size_extract];omega
   have vP:∀k,k<W.heap.size->((gu (fun x=>False\/x=wg) w2).heap.extract 0 W.heap.size)[k]?=(gu (fun x=>False\/x=wg) w2).heap[k]? :=fun k hk=>by rw[Array.getElem?_extract];simp;omega
   have Oc:=hN.frame (w1:={wt (gu (fun x=>False\/x=wg) w2) tp n with heap:=(gu (fun x=>False\/x=wg) w2).heap.extract 0 W.heap.size}) (w':=wt (gu (fun x=>False\/x=wg) w2) tp n) (τ':=fresh τ ab) (hR.rep.frame (fun k hk ht=>⟨Z3 (fun e=>by
    rw[e]at ht;unfold fresh at ht;rw[if_pos (by omega)]at ht;cases ht),rfl⟩)) ⟨⟨rfl,rfl,rfl,by rw[hz0];show _<=(gu (fun x=>False\/x=wg) w2).heap.size;omega,fun k hk=>by
     rw[hz0]at hk;exact(vP k hk).symm⟩,fun k hk=>by rw[hz0]at hk;rw[hfr k (by omega)];exact hN.env.yt k hk⟩ (fun k hk ht=>⟨(Z3 (D9 hk ht).2).trans (D9 hk ht).1,hfr k (by omega)⟩)
   have hxl:=hN.x.lt;refine(firm_rest hW R7 Oc (ab:=ab) (by omega) fun j x hx=>?_).then ?_
   ·obtain⟨val,⟨a1,a2,a3⟩,a4⟩:=sn hP H hR hx;have hv:lQ (fun _=>B) x 1=2:=by show (if dX (aA B) x=true then 2*0+2 else 0)=2;rw[if_pos (jE.2 (List.mem_of_getElem? hx))]
    rw[hv]at a2 a4;rw[<-a4 (by omega)];exact⟨(hcell VQ).trans a1,(hcell VQ).trans a2,(hcell VQ).trans a3⟩
   ·rintro fr c w ⟨h1,h2,h3,h4⟩;rw[hz0]at h4;exact To.done ⟨h1,h2,h3,fun k hk=>(h4.block k hk).trans (vP k hk),by have:=h4.size;rw[hz0]at this;exact this,h4.os,h4.output⟩
  ·obtain⟨rfl,_,h3,_⟩:=h;intro x hx ch;simp only[List.mem_cons,List.not_mem_nil,or_false]at hx;subst hx;rw[(h3 w).1];simp) VO
 obtain⟨rfl,hfn,aes,BM,hz3,ho3,hu3⟩:=s3;have hend:∀m,stepG Tryz.prog true (G fr3 []) (w3.at m)=.ended (.done (.bool true)) (w3.at m) #[]/\Post (.bool true) (w3.at m):=fun m=>by
  refine⟨Ih (aes _) (by rw[hfn];exact firm_inits) (by rw[hfn];exact Tryz.func11) rfl,Z2 _ ?_ ?_ ?_ ?_⟩
  ·show W.heap.size<=w3.heap.size;rw[<-s4.size];exact hz3
  ·intro x hx;show w3.heap[x]?=_;have h0:=hN.env.yt x hx;have h1:=D9 (x:=x) (by omega) (by rw[h0];decide);rw[<-s4.same x (fun h=>by rcases h with h|h;exact h;exact h1.2 h),BM x hx,Z3 h1.2,h1.1,hN.env.below.block x hx];rfl
  ·show w3.output=_;rw[<-s4.out,hu3];show w2.output=_;rw[hR.kp.2.1,e3,VP.output,hN.env.below.output];rfl
  ·show Go.ConcM.OsLater W.os w3.os;rw[<-s4.os,ho3];show Go.ConcM.OsLater W.os w2.os;have:=hR.kp.2.2;rw[e2,VP.os,hN.env.below.os]at this;exact this
 obtain⟨N4,last,o,w4,t4,f1,f2,f3,f4⟩:=Ij (Post:=Post) (x:=.bool true) _ d3 gs3 w3 sl3 t3 q3 rfl s5 hend;refine⟨N1+(N3+N4),last,o,w4,t4,?_,?_,f3,f4⟩
 ·rw[Nat.add_assoc,Nat.add_assoc,mS N1 _ r1,mS N3 _ s1];exact f1
 ·rw[yN _ r1,yN _ s1];exact f2
end Go.Proofs.YteoahlieielcdaaGreat
