import Derived.Test.YteoahlieielcdaaGreatL4
import Derived.Test.YteoahlieielcdaaGreatY9
set_option linter.all false
set_option maxHeartbeats 8000000
set_option maxRecDepth 100000
namespace Go.Proofs.YteoahlieielcdaaGreat
open Go.Proofs.Tryz
abbrev zce:=@World.cell?_of_block
abbrev zcf:=@List.any_eq_true
abbrev zcg:=@List.mem_cons
variable{w W:World}{τ:Nat->Tag}{kg i ab k n j:Nat}{v cv:Value}{L C:List ByteArray}{Sb:Nat->Prop}{P:Program}{a:Act}{fr cl:Frame}{Q:Frame->List Frame->World->Prop}
section
open Go Go.RowKit Go.MuLone Go.Conc
structure LL(w:World)(τ:Nat->Tag)(kg:Nat)(L:List ByteArray):Prop where
 lt:kg<w.heap.size
 tag:(τ kg).1=0
 cell:∀(j:Nat) (x:ByteArray),L[j]?=some x->w.cell? ⟨kg,j,none⟩=some (.string x)
theorem LL.set{q o:Nat}(h:LL w τ kg L)(hq:(τ q).1=1):LL (w.setCell ⟨q,o,none⟩ v) τ kg L:=
 ⟨by simpa[World.setCell]using h.lt,h.tag,fun j x hx=>(zce (w:=w) (a:=⟨kg,j,none⟩) (Below.heap_setCell _ _ _ _ (fun e=>by have e':kg=q:=e;rw[<-e',h.tag]at hq;cases hq))).trans (h.cell j x hx)⟩
theorem Fe:∀b,1<=b->b<64->iH (aA b)=0:=by
 have:∀b,b<64->(1<=b->iH (aA b)=0):=by decide+kernel
 exact fun b h1 h2=>this b h2 h1
section
variable {w wr:World}
end
end
section
open Go Go.RowKit Go.MuLone
theorem LL.frame{w':World}{τ':Nat->Tag}(h:LL w τ kg L)(hb:∀q,q<w.heap.size->(τ q).1≠2->w'.heap[q]?=w.heap[q]? /\τ' q=τ q):LL w' τ' kg L:=by obtain⟨h1,h2⟩:=hb kg h.lt (by rw[h.tag];decide);exact⟨by rw[Array.getElem?_eq_getElem h.lt]at h1;exact(Array.getElem?_eq_some_iff.1 h1).1,by rw[h2];exact h.tag,fun j x hx=>(zce (w:=w) (a:=⟨kg,j,none⟩) h1).trans (h.cell j x hx)⟩
section
variable {w0 w1 w w':World}{τ τ':Nat->Tag}{sb xb kg kb n:Nat}{s s':MS}{A A':SA}{L:List ByteArray}{kv:Value}{f:Nat->Bool}
end
def fmRd(L:List ByteArray)(v:ByteArray->Nat)(m:Nat):MR:={keys:=L,asked:=fun q=>decide (q<m),found:=fun q=>if q<m then v (L.getD q ⟨#[]⟩)else 0,fin:=false}
section
variable {P:Nat}{M:Int}{bf:Nat->Nat}{k:Nat}{L:List ByteArray}{v:ByteArray->Nat}{rs:List MR}{s:MS}
theorem fmRd_new:gq L=fmRd L v 0:=by unfold gq fmRd;simp
theorem fmRd_end:fmRd L v L.length=gR L v 0:=by unfold fmRd gR;simp
end
end
section
open Go Go.RowKit Go.MuLone Go.Conc
def nthB:Nat->Code->Code
 | 0,c=>c
 |n+1,c=>nthB n (cB c)
section
variable {w:World}
end
end
section
open Go Go.RowKit Go.MuLone Go.Conc
theorem bH.fxo{aD b:Nat}{s:MS}{A:SA}{r:MR}{ba bc wg:Nat}{ms:List Int}(h:bH w W τ aD b s A i r ab ba bc wg ms cv Sb)(hk:k<w.heap.size)(ht:(τ k).1≠aD)(hs:¬Sb k):h.L.Fx k:=by
 have h1:=h.ord;have h2:=h.GZ.lt;refine⟨by omega,fun e=>?_,fun e=>?_,fun q hq e=>?_,hs⟩
 ·have e':k=ab:=e;omega
 ·have e':k=wg:=e;omega
 ·have:=h.rep.cS q hq;have e':k=A.pb q:=e;rw[<-e']at this;rw[this]at ht;exact ht rfl
theorem yN{m m1:Machine}{t t1:Trace}{a:Nat}(b:Nat)(h:runNT P a m t=(.next m1,t1)):runN P (a+b) m=runN P b m1:=by rw[<-runNT_fst P _ _ t,<-runNT_fst P _ _ t1,mS a b h]
theorem Ih{f:Func}{t:Tmp}(h:fr.leaving P w (.returned v))(hi:P.inits.idxOf? fr.fn=none)(hf:P.funcs[fr.fn]?=some f)(ht:f.results=#[.tmp t]):stepG P true (G fr []) w=.ended (.done v) w #[]:=by
 obtain⟨hm,hd,hk,fn,hf',hr⟩:=h;rw[hf]at hf';cases hf';have e:Sem.events P (results f fr.tmps) w #[]=#[]:=by simp[results,ht]
 simp[G,stepG,unwind,doReturn,hm,hd,hk,hf,hr,hi,e,seen,GStep.after]
end
section
open Go Go.RowKit Go.MuLone Go.Conc
structure Kp(W w:World):Prop where
 blk:∀k,k<W.heap.size->w.heap[k]?=W.heap[k]?
 size:W.heap.size<=w.heap.size
 out:w.output=W.output
 os:Go.ConcM.OsLater W.os w.os
section
variable {Sb:Nat->Prop}{v v' W W':World}
theorem sim_lone(h:eJ Sb v W)(k:eJ Sb v' W):v'.heap=v.heap:=by
 apply Array.ext_getElem?;intro i;by_cases e:Sb i
 ·obtain⟨c,t,_,h1,h2⟩:=h.gu i e;obtain⟨c',t',_,k1,k2⟩:=k.gu i e;rw[h2]at k2;cases k2;rw[h1,k1]
 ·rw[h.same i e,k.same i e]
theorem sim_real(h:eJ Sb v W)(k:eJ Sb v W'):W'.heap=W.heap:=by
 apply Array.ext_getElem?;intro i;by_cases e:Sb i
 ·obtain⟨c,t,_,h1,h2⟩:=h.gu i e;obtain⟨c',t',_,k1,k2⟩:=k.gu i e;rw[h1]at k1;cases k1;rw[h2,k2]
 ·rw[<-h.same i e,k.same i e]
end
section
variable {Q:(Nat->Prop)->Frame->List Frame->World->Prop}{Sb:Nat->Prop}{fr:Frame}{c:List Frame}{W:World}
theorem CTo.walk{R:World->Frame->List Frame->World->Prop}(hn:∀v fr c w,R v fr c w->iT fr c)(h:∀v,eJ Sb v W->To prog (R v) fr c v)(hq:∀v fr c w W',eJ Sb v W->R v fr c w->eJ Sb w W'->CTo Q Sb fr c W'):CTo Q Sb fr c W:=fun cs gs t q d sl hp hC=>by
 refine CTo.lone (R:=fun fr c u=>∃v w,eJ Sb v W/\R v fr c w/\u.heap=w.heap/\u.os=w.os/\u.output=w.output) (fun fr c v tp n h=>h) (fun tp n=>?_) (fun fr c u W' h hs=>?_) cs gs t q d sl hp hC
 ·have h0:=yP hp;have hv:eJ Sb (wt (gu Sb W) tp n) W:=⟨h0.size,h0.same,h0.gu,h0.os,h0.out⟩
  refine((h _ hv).then fun fr c w hr=>To.done ?_).reach fun fr c w hr=>?_
  ·exact⟨_,w,hv,hr,rfl,rfl,rfl⟩
  ·obtain⟨_,_,_,hr,_⟩:=hr;exact hn _ _ _ _ hr
 ·obtain⟨v,w,hv,hr,e1,e2,e3⟩:=h;exact hq v fr c w W' hv hr ⟨by rw[<-e1];exact hs.size,fun k hk=>by rw[<-e1];exact hs.same k hk,fun k hk=>by rw[<-e1];exact hs.gu k hk,by rw[<-e2];exact hs.os,by rw[<-e3];exact hs.out⟩
end
structure FinOut(v:World)(τ:Nat->Tag)(aD b:Nat)(s:MS)(A:SA)(i:Nat)(r:MR)(Sb:Nat->Prop)(ab wg:Nat)(w:World):Prop where
 rep:aW w (fresh τ ab) aD b (Fc s i r) A
 keep:∀k,k<v.heap.size->(τ k).1≠aD->¬Sb k->w.heap[k]?=v.heap[k]?
 abo:v.heap.size<=ab/\ab<wg/\wg<w.heap.size
 NS:CommAll s->∀(j:Nat) (x:ByteArray),r.keys[j]?=some x->∃(n:Nat) (val:ByteArray),IsCh s r x n/\Q7 ab j x (n:Int) val w/\(n=0->val=⟨#[]⟩)/\∀m,n≠0->s.ws[n-1]?=some m->jg m.items x=some val
 blk:∃C,aT w ab C 62/\C.size=r.keys.length*3
 out:w.output=v.output
 os:Go.ConcM.OsLater v.os w.os
section
variable {Q:(Nat->Prop)->Frame->List Frame->World->Prop}{Sb:Nat->Prop}{W v:World}{τ:Nat->Tag}{aD b:Nat}{s:MS}{A:SA}
theorem CTo.finishing(hv:eJ Sb v W)(h:aW v τ aD b s A)(n:Int)(hn: -9223372036854775808<=n)(hn':n<=9223372036854775807)(r:MR)(hf:gN s n=some r)(ha:iG r=true)(Zn:∀k,Sb k->(τ k).1≠aD){c:List Frame}(hnp:∀x∈cl :: c,∀ch,x.mode≠.panicking ch)(hnf:∀u ch,(cl.finish u).mode≠.panicking ch)
 (hq:∀(ab wg:Nat) (W':World),FinOut v τ aD b s A (n-1).toNat r Sb ab wg W'->CTo Q (fun k=>Sb k\/k=wg) (cl.finish (.tuple #[.slice (some ⟨ab,0,none⟩) r.keys.length r.keys.length,.int .i64 (askM s r:Nat),.int .i64 0])) c W'):
 CTo Q Sb (Frame.enter prog 23 #[ptr b,.int .i64 n] .normal) (cl :: c) W:=by
 refine CTo.walk (R:=fun v'=>Ig v' τ aD b s A (n-1).toNat r Sb (cl :: c)) (fun v' fr c' w hA=>?_) (fun v' hv'=>?_) (fun v' fr c' w W1 hv' hA hw=>?_)
 ·obtain⟨b1,a,ab,ba,bc,wg,ms,cv,fF,rfl,_,_,rfl,⟨b2,a2,rfl,_⟩,_⟩:=hA.ex;intro x hx ch;rcases zcg.1 hx with rfl|hx
  ·simp[Frame.at]
  ·rcases zcg.1 hx with rfl|hx
   ·simp[Frame.at]
   ·exact hnp x hx ch
 ·have e:=sim_lone hv hv';exact LF (h.frame fun k _ _=>⟨by rw[e],rfl⟩) n hn hn' r hf ha Sb (fun k hk=>⟨by rw[hv'.size];exact hv'.lt hk,Zn k hk⟩) _
 ·have e:=sim_lone hv hv';refine CTo.finish hA hw fun ab ba bc wg ms cv fF H w2 XF hF hlv hR hS=>?_;rw[H.uR]at hlv;refine CTo.walk (R:=fun u fr c' w=>fr=cl.finish (.tuple #[.slice (some ⟨ab,0,none⟩) r.keys.length r.keys.length,.int .i64 (askM s r:Nat),.int .i64 0])/\c'=c/\w=u) (fun u fr c' w hr=>?_) (fun u hu=>To.leave (hlv _) (Sf hF fun fr _ hl=>To.leave hl (To.done ⟨rfl,rfl,rfl⟩))) (fun u fr c' w3 W2 hu hr hw2=>?_)
  ·obtain⟨rfl,rfl,rfl⟩:=hr;intro x hx ch;rcases zcg.1 hx with rfl|hx
   ·exact hnf _ ch
   ·exact hnp x (List.mem_cons_of_mem _ hx) ch
  ·obtain⟨rfl,rfl,rfl⟩:=hr;have e2:=sim_real hu hw2;have ho:=H.ord;have hg:=H.GZ.lt;have hl:=hR.rs.le;have hz:(unp Sb W1 v').heap.size=v.heap.size:=by rw[unp_size,e]
   rw[hz]at ho;obtain⟨C,hC,hCz⟩:=H.NS;obtain⟨C',q1,q2⟩:=hR.rs.sh ab C _ _ (.inl rfl) hC;refine hq ab wg W2 ⟨hR.rep.frame fun k _ _=>⟨by rw[e2],rfl⟩,fun k hk ht hs=>?_,⟨ho.1,by omega,by rw[e2];omega⟩,fun hca j x hx=>?_,⟨C',by show W2.heap[ab]?=_;rw[e2];exact q1,q2.trans hCz⟩,?_,?_⟩
   ·rw[e2,hR.rs.blk k (by omega) (H.fxo (by omega) ht hs),<-hw.same k hs,hS.block k (by rw[e];exact hk) ht,e]
   ·obtain⟨m,val,g1,⟨g2,g3,g4⟩,g5⟩:=hR.answers hca hx;have hc:∀p:Addr,W2.cell? p=w2.cell? p:=fun p=>zce (by rw[e2]);exact⟨m,val,g1,⟨(hc _).trans g2,(hc _).trans g3,(hc _).trans g4⟩,g5⟩
   ·rw[<-hw2.out,hu.out,hR.kp.2.1,<-hw.out,hS.output,hv'.out,<-hv.out]
   ·have:=hR.kp.2.2;rw[<-hw.os,hS.os,hv'.os,<-hv.os]at this;rw[<-hw2.os,hu.os];exact this
end
structure CEnd(f:FuncId)(W:World)(Sb:Nat->Prop)(fr:Frame)(c:List Frame)(v:World):Prop where
 nil:c= []
 fn:fr.fn=f
 lv:∀u,fr.leaving prog u (.returned (.bool true))
 kp:Kp W v
theorem cto_ends{f:FuncId}{fn:Func}{tt:Tmp}{args:Array Value}(hf:prog.funcs[f]?=some fn)(hr:fn.results=#[.tmp tt])(hi:prog.inits.idxOf? f=none)(hS:AG w7 0 (Frame.enter prog f args .normal) [])(h:CTo (CEnd f W) (fun _=>False) (Frame.enter prog f args .normal) [] W){Post:Value->World->Prop}(Z2:∀w',Kp W w'->Post (.bool true) w'):
 ∃N last o w' t',runNT prog (N+1) (solo (G (Frame.enter prog f args .normal) []) W) #[]=(.ended o w',t')/\runN prog N (solo (G (Frame.enter prog f args .normal) []) W)=.next last/\step prog last=.ended o w'/\Conc.Good prog Post last o w' t':=by
 obtain⟨N,Sb',gs',fr',c',W',sl',t',q',d',r1,hE,hp,hC⟩:=h [] _ _ _ 0 none (fun b hb=>hb.elim) (E9 hS);obtain rfl:=hE.nil;obtain⟨N4,last,o,w4,t4,f1,f2,f3,f4⟩:=Ij (Post:=Post) (x:=.bool true) _ d' gs' W' sl' t' q' rfl hC (fun m=>⟨Ih (hE.lv _) (by rw[hE.fn];exact hi) (by rw[hE.fn];exact hf) hr,Z2 _ ⟨hE.kp.blk,hE.kp.size,hE.kp.out,hE.kp.os⟩⟩);refine⟨N+N4,last,o,w4,t4,?_,?_,f3,f4⟩
 ·rw[Nat.add_assoc];exact(mS N _ r1).trans f1
 ·exact(yN _ r1).trans f2
end
section
open Go Go.RowKit Go.MuLone Go.Conc
theorem To.call{P:Program}{Q:Frame->List Frame->World->Prop}{b:Frame}{k:List Item}{c:List Frame}{ops:Array Oper}{is:List Nat}{i:Nat}{a:Act}{w:World}{o:Oper}{f:FuncId}{fn:Func}{body:Code}{cl:Call}{args:Array Value}(ho:ops[i]?=some o)(hw:o.guard=none)(h1:o.op=.call cl)(h2:cl.callee=.value (.func f))(g1:P.funcs[f]?=some fn)(g2:(fn.name == "runtime.NumGoroutine")=false)(g3:fn.body=some body)(ha:cl.args.map a.eval=args)
 (h:To P Q (Frame.enter P f args .normal) (b.at a (.inRegion ops (i :: is):: k):: c) w):To P Q (b.at a (.inRegion ops (i :: is):: k)) c w:=by subst ha;exact To.enter ho (mR hw _) (BN h1 h2 g1 g2 g3 _) h
theorem arrN(T:Array Value)(h:T.size=n):∃f:Nat->Value,T=((List.range n).map f).toArray/\∀i v,T[i]?=some v->f i=v:=⟨fun i=>T.toList.getD i undef,oV T n h,fun i v hv=>by simp[hv]⟩
noncomputable def emBody:Code:=Tryz.f14.body.getD .skip
noncomputable def emT:Code:=nthB 10 emBody
noncomputable def emO:Array Oper:=opsOf (cA emT)
theorem emT_eq:emT=.seq (.region 12 emO false) (cB emT):=by kernel_rfl
theorem emO_2:∃o,emO[2]?=some o/\o.guard=none/\o.dst=some 67/\∃cl:Call,o.op=.call cl/\cl.callee=.value (.func 23)/\cl.args=#[.tmp 65,.tmp 66]:=by refine⟨(emO[2]?).getD default,?_,?_,?_,(match ((emO[2]?).getD default).op with|.call cl=>cl|_=>default),?_,?_,?_⟩ <;>kernel_rfl
theorem emO_0:∃o,emO[0]?=some o/\o.guard=none/\o.dst=some 65/\o.op=.move (.tmp 7):=by refine⟨(emO[0]?).getD default,?_,?_,?_,?_⟩ <;>kernel_rfl
theorem emO_1:∃o,emO[1]?=some o/\o.guard=none/\o.dst=some 66/\o.op=.move (.tmp 11):=by refine⟨(emO[1]?).getD default,?_,?_,?_,?_⟩ <;>kernel_rfl
theorem emO_size:List.range emO.size= [0,1,2,3,4,5,6,7,8,9]:=by kernel_rfl
theorem emO_ops:List.range' 3 (emO.toList.drop 3).length= [3,4,5,6,7,8,9]:=by kernel_rfl
structure EmSl(a:Act)(sb:Nat):Prop where
 d:a.defers= []
 s:a.tmps.size=108
 t5:a.tmps[5]?=some (ptr sb)
 t9:a.tmps[9]?=some (.int .i64 1)
noncomputable abbrev emFr(b:Frame)(a:Act):Frame:=b.at a [.inRegion emO (2 :: [3,4,5,6,7,8,9]),.code (cB emT)]
theorem em_call{b:Frame}{c:List Frame}{u:Value}(h7:a.tmps[7]?=some v)(Yt:a.tmps[11]?=some u)(hs:a.tmps.size=108)
 (h:To prog Q (Frame.enter prog 23 #[v,u] .normal) (emFr b ((a.put (some 65) v).put (some 66) u):: c) w):To prog Q (b.at a [.code emT]) c w:=by rw[emT_eq];refine .step (fun _=>step_seq) (.region ?_);rw[emO_size];obtain⟨o0,q1,q2,q3,q4⟩:=emO_0;obtain⟨o1,p1,p2,p3,p4⟩:=emO_1;obtain⟨o2,r1,r2,r3,cl,r4,r5,r6⟩:=emO_2;refine To.op q1 (mR q2 _) (run_move q4 _) ?_;rw[q3,show a.eval (.tmp 7)=v by simp[Act.eval,Array.getD_eq_getD_getElem?,h7]];refine To.op p1 (mR p2 _) (run_move p4 _) ?_;rw[p3,show (a.put (some 65) v).eval (.tmp 11)=u by simp[Act.eval,Act.put,Array.getD_eq_getD_getElem?,Yt]];refine To.call r1 r2 r4 r5 func23 (by kernel_rfl) rfl ?_ h;rw[r6];simp[Act.eval,Act.put,Array.getD_eq_getD_getElem?,hs]
theorem t5_comm:CommAll t5:=by
 intro i m q hm hc;match i,hm with
 | 0,hm=>cases hm;rfl
theorem t5_ch:IsCh t5 Zl kK 1:=⟨.inr ⟨⟨by omega,_,rfl,rfl⟩,0,kK,rfl,rfl⟩,fun j y hy _=>by
 match j,hy with
 | 0,_=>exact Nat.le_refl 1⟩
section
variable {w0 w:World}{τ:Nat->Tag}{Q:Frame->List Frame->World->Prop}{c:List Frame}
theorem empty_to(hE:Env w0 w τ)(parts mode:Int)(h1: -9223372036854775808<=parts)(h2:parts<=9223372036854775807)(h3: -9223372036854775808<=mode)(h4:mode<=9223372036854775807)
 (hQ:∀(b:Frame) (a:Act) (w':World) (τ':Nat->Tag) (sb tb:Nat) (A B:SA),b.fn=14->b.kind=.normal->EmSl a sb->aW w' τ' 2 sb (Zm (1+eY parts 4).toNat (1+eY mode 3)) A->aW w' τ' 4 tb t5 B->Env w0 w' τ'->To prog Q (Frame.enter prog 23 #[ptr tb,.int .i64 1] .normal) (emFr b a :: c) w'):
 To prog Q (Frame.enter prog 14 #[.int .i64 parts,.int .i64 mode] .normal) c w:=by
 obtain⟨b1,b2⟩:=td parts 4 (by omega);obtain⟨b3,b4⟩:=td mode 3 (by omega);have c1:=qv parts 4 w h1 h2 (by omega) (by omega);have c2:=qv mode 3 w h3 h4 (by omega) (by omega);have c3:=BG (1+eY parts 4) (1+eY mode 3) w τ 2 (by omega) (by omega) (by simp[pE];omega);have HQ:Hid _:=hQ;clear hQ;generalize eY parts 4=pp at *;generalize eY mode 3=mm at *;unfold ptr at c3;rw[enter_at (body:=emBody) func14 rfl];walk_nrmf ntmps14;rw[show emBody=.seq (cA emBody) (.seq (cA (nthB 1 emBody)) (.seq (cA (nthB 2 emBody)) (.seq (cA (nthB 3 emBody)) (.seq (cA (nthB 4 emBody)) (.seq (cA (nthB 5 emBody)) (.seq (cA (nthB 6 emBody)) (.seq (cA (nthB 7 emBody)) (.seq (cA (nthB 8 emBody)) (.seq (cA (nthB 9 emBody)) emT)))))))))from by kernel_rfl];refine To.gP fun K hK=>?_;dsimp only[emBody,nthB,cA,cB,Tryz.f14,Option.getD_some];go_wp2_with fail
 refine To.gP fun K hK=>?_;dsimp only[emBody,nthB,cA,cB,Tryz.f14,Option.getD_some];go_wp2_with fail
 refine c1.mono ?_;rintro e w1 ⟨rfl,rfl⟩;clear c1;go_wp2_with fail
 refine c2.mono ?_;rintro e w2 ⟨rfl,rfl⟩;clear c2;go_wp2_with fail
 refine c3.mono ?_;rintro e wa ⟨τa,sb,A,rfl,hS,Eg,hta,-⟩;clear c3;have Q8:Env w0 wa τa:=⟨hE.below.trans (Eg.mono hE.below.size),fun k hk=>(hta k (by have:=hE.below.size;omega)).trans (hE.yt k hk)⟩
 have c4:=BG 1 1 wa τa 4 (by omega) (by omega) (by rfl);unfold ptr at c4;clear hta Eg hE;go_wp2_with fail
 refine To.gP fun K hK=>?_;dsimp only[emBody,nthB,cA,cB,Tryz.f14,Option.getD_some];go_wp2_with fail
 refine To.gP fun K hK=>?_;dsimp only[emBody,nthB,cA,cB,Tryz.f14,Option.getD_some];go_wp2_with fail
 refine c4.mono ?_;rintro e wb ⟨τb,tb,B,rfl,hT,hBb,htb,-⟩;clear c4;have hEb:Env w0 wb τb:=⟨Q8.below.trans (hBb.mono Q8.below.size),fun k hk=>(htb k (by have:=Q8.below.size;omega)).trans (Q8.yt k hk)⟩
 have Zn:aW wb τb 2 sb _ A:=hS.frame (fun k hk _=>⟨hBb.block k hk,htb k hk⟩);clear htb hBb Q8 hS;have hTx:aW wb τb 4 tb t0 B:=hT;clear hT;have c5:=Hy (hTx.box (.cells #[.string kK,.string kV] 70)) (some ⟨wb.heap.size,0,none⟩) 1 (L:= [(kK,kV)]) (by decide) (by decide) (by decide) (fun x hx=>by simp at hx;subst hx;decide) (EM (kK,kV)) (fun ib io e=>by cases e;rw[rW];decide);have Zo:=Zn.box (.cells #[.string kK,.string kV] 70);have hE5:=hEb.alloc (.cells #[.string kK,.string kV] 70);rw[Zg]at c5;unfold ptr at c5;have JX:kK=⟨#[107]⟩:=rfl;have TY:kV=⟨#[118]⟩:=rfl;rw[JX,TY]at c5 Zo hE5;clear hTx Zn hEb;go_wp2_with fail
 refine To.gP fun K hK=>?_;dsimp only[emBody,nthB,cA,cB,Tryz.f14,Option.getD_some];go_wp2_with fail
 refine To.gP fun K hK=>?_;dsimp only[emBody,nthB,cA,cB,Tryz.f14,Option.getD_some];go_wp2_with fail
 refine c5.mono ?_;rintro e wc ⟨τc,Bc,rfl,JY,Nb⟩;clear c5;have hSc:=Zo.other Nb (by decide);have hEc:=hE5.nG Nb (by decide);clear Nb Zo hE5;have c6:=EN JY 1 0 (by decide) (by decide) (by decide) (by decide);rw[Zh]at c6;unfold ptr at c6;clear JY;go_wp2_with fail
 refine To.gP fun K hK=>?_;dsimp only[emBody,nthB,cA,cB,Tryz.f14,Option.getD_some];go_wp2_with fail
 refine c6.mono ?_;rintro e wd ⟨Bd,rfl,Lh,Q9⟩;clear c6;have hSd:=hSc.other Q9 (by decide);have hEd:=hEc.nG Q9 (by decide);clear Q9 hSc hEc;have c7:=JZ Lh 1 0 (by decide) (by decide) (by decide) (by decide);rw[Zi]at c7;unfold ptr at c7;clear Lh;go_wp2_with fail
 refine To.gP fun K hK=>?_;dsimp only[emBody,nthB,cA,cB,Tryz.f14,Option.getD_some];go_wp2_with fail
 refine c7.mono ?_;rintro e we ⟨Be,rfl,hTe,hPe⟩;clear c7;have hSe:=hSd.other hPe (by decide);have hEe:=hEd.nG hPe (by decide);clear hPe hSd hEd;have c8:=TZ (hTe.box (.cells #[.string kK] 9)) (some ⟨we.heap.size,0,none⟩) 1 (L:= [kK]) (by decide) (by decide) (by decide) (fun x hx=>by simp at hx;subst hx;decide) (Ob kK) (fun ib io e=>by cases e;rw[rW];decide) (by decide);have hS8:=hSe.box (.cells #[.string kK] 9);have hE8:=hEe.alloc (.cells #[.string kK] 9);rw[Zj]at c8;unfold ptr at c8;rw[JX]at c8 hS8 hE8;clear hTe hSe hEe;go_wp2_with fail
 refine To.gP fun K hK=>?_;dsimp only[emBody,nthB,cA,cB,Tryz.f14,Option.getD_some];go_wp2_with fail
 refine c8.mono ?_;rintro e wf ⟨τf,Bf,rfl,hTf,RP⟩;clear c8;have hSf:=hS8.other RP (by decide);have hEf:=hE8.nG RP (by decide);clear RP hS8 hE8;have c9:=Zp hTf 1 kK (by decide) (by decide) (by decide);rw[Zk]at c9;unfold ptr at c9;rw[JX]at c9;clear hTf;go_wp2_with fail
 refine To.gP fun K hK=>?_;dsimp only[emBody,nthB,cA,cB,Tryz.f14,Option.getD_some];go_wp2_with fail
 refine c9.mono ?_;rintro e wg ⟨Bg,rfl,hTg,hPg⟩;clear c9;have HSg:Hid _:=hSf.other hPg (by decide);have HEg:Hid _:=hEf.nG hPg (by decide);have HTg:Hid _:=hTg;clear hPg hSf hEf hTg;go_wp2_with fail
 exact em_call rfl rfl rfl (HQ.out _ _ _ _ _ _ _ _ rfl rfl ⟨rfl,rfl,rfl,rfl⟩ HSg.out HTg.out HEg.out)
end
theorem em_rest{c:List Frame}{b:Frame}{sb:Nat}(hb:b.fn=14)(hk:b.kind=.normal)(hI:EmSl a sb)(hA:Q7 ab 0 kK 1 kV w)(h:∀fr:Frame,(∀u,fr.leaving prog u (.returned (ptr sb)))->To prog Q fr c w):To prog Q ((emFr b a).finish (.tuple #[.slice (some ⟨ab,0,none⟩) 1 1,.int .i64 0,.int .i64 0])) c w:=by
 obtain⟨tms,EF⟩:=a;obtain⟨hd,hs,t5,t9⟩:=hI;simp only at hd hs t5 t9;subst hd;obtain⟨o2,r1,r2,r3,cl,r4,r5,r6⟩:=emO_2;rw[yG r1,r3,<-emO_ops];clear r1 r2 r3 r4 r5 r6;refine To.T9 fun K hK=>?_;rw[yF];obtain⟨fv,hT,aj⟩:=arrN tms hs;replace t5:=aj 5 _ t5;replace t9:=aj 9 _ t9;clear hs aj;simp only[List.range,List.range.loop,List.map_cons,List.map_nil,t5,t9]at hT;subst hT;clear t5 t9;obtain⟨c0,c1,c2⟩:=hA;have JX:kK=⟨#[107]⟩:=rfl;have TY:kV=⟨#[118]⟩:=rfl;rw[JX]at c0;rw[TY]at c2;unfold ptr;dsimp only[emO,emT,emBody,nthB,cA,cB,opsOf,Tryz.f14,Option.getD_some,Act.put];simp only[List.drop];go_wp2_with fail
 refine To.last (R:=fun a' w'=>w'=w/\a'.defers= []/\a'.tmps.getD 4 undef=.pointer (some ⟨sb,0,none⟩)) ?_ rfl ?_
 ·dsimp only[emT,emBody,nthB,cA,cB,Tryz.f14,Option.getD_some];go_wp2_with fail
 ·rintro a' todo w' ⟨rfl,e0,q8⟩;refine h _ fun u=>⟨rfl,e0,hk,Tryz.f14,by show prog.funcs[b.fn]?=_;rw[hb];exact func14,?_⟩
  unfold ptr;rw[<-q8];exact results_tmp rfl _ _ _
structure EmKp(Sb:Nat->Prop)(v:World)(τ:Nat->Tag)(wg:Nat)(v':World):Prop where
 size:v.heap.size<=wg/\wg<v'.heap.size
 keep:∀k,k<v.heap.size->¬Sb k->v'.heap[k]?=v.heap[k]?
 yt:∀k,k<v.heap.size->τ k=(0,0,0)
 wgt:τ wg=(0,0,0)
 out:v'.output=v.output
 os:Go.ConcM.OsLater v.os v'.os
theorem CTo.empty{Q:(Nat->Prop)->Frame->List Frame->World->Prop}{v:World}(hv:eJ Sb v W)(parts mode:Int)(h1: -9223372036854775808<=parts)(h2:parts<=9223372036854775807)(h3: -9223372036854775808<=mode)(h4:mode<=9223372036854775807){c:List Frame}(hnp:∀x∈cl :: c,∀ch,x.mode≠.panicking ch)(hnf:∀u ch,(cl.finish u).mode≠.panicking ch)
 (hq:∀(τ:Nat->Tag) (sb wg:Nat) (A:SA) (v' W':World),eJ (fun k=>Sb k\/k=wg) v' W'->aW v' τ 2 sb (Zm (1+eY parts 4).toNat (1+eY mode 3)) A->EmKp Sb v τ wg v'->CTo Q (fun k=>Sb k\/k=wg) (cl.finish (ptr sb)) c W'):
 CTo Q Sb (Frame.enter prog 14 #[.int .i64 parts,.int .i64 mode] .normal) (cl :: c) W:=by
 refine CTo.walk (R:=fun v1 fr c' w=>∃(b:Frame) (a:Act) (τ:Nat->Tag) (sb tb:Nat) (A B:SA),fr=Frame.enter prog 23 #[ptr tb,.int .i64 1] .normal/\c'=emFr b a :: cl :: c/\b.fn=14/\b.kind=.normal/\EmSl a sb/\aW w τ 2 sb (Zm (1+eY parts 4).toNat (1+eY mode 3)) A/\aW w τ 4 tb t5 B/\Env v1 w τ) (fun v1 fr c' w hr=>?_) (fun v1 hv1=>?_) (fun v1 fr c' w W1 hv1 hr hw=>?_)
 ·obtain⟨b,a,τ,sb,tb,A,B,rfl,rfl,_⟩:=hr;rw[enter_at func23 rfl];intro x hx ch;rcases zcg.1 hx with rfl|hx
  ·simp[Frame.at]
  ·rcases zcg.1 hx with rfl|hx
   ·simp[Frame.at]
   ·exact hnp x hx ch
 ·exact empty_to ⟨Below.refl _ _,fun _ _=>rfl⟩ parts mode h1 h2 h3 h4 fun b a w' τ' sb tb A B e1 e2 e3 e4 e5 e6=>To.done ⟨b,a,τ',sb,tb,A,B,rfl,rfl,e1,e2,e3,e4,e5,e6⟩
 ·obtain⟨b,a,τ,sb,tb,A,B,rfl,rfl,e1,e2,e3,hS,hT,hE⟩:=hr;have hz:=hE.below.size;have hvv:=sim_lone hv1 hv;have hsbv:∀k,Sb k->k<v1.heap.size:=fun k hk=>by rw[hv1.size];exact hv1.lt hk
  refine CTo.finishing hw hT 1 (by omega) (by omega) Zl RO N9 (fun k hk=>by rw[hE.yt k (hsbv k hk)];decide) (fun x hx ch=>?_) (fun u ch=>?_) (fun ab wg W2 hF=>?_)
  ·rcases zcg.1 hx with rfl|hx
   ·simp[Frame.at]
   ·exact hnp x hx ch
  ·obtain⟨o2,r1,_⟩:=emO_2;rw[yG r1];simp[Frame.at]
  ·rw[ask_least (.inl (by rw[JW];decide)),JW];obtain⟨o1,o2,o3⟩:=hF.abo;refine CTo.walk (R:=fun u fr c' w'=>fr=cl.finish (ptr sb)/\c'=c/\w'=u) (fun u fr c' w' hr=>?_) (fun u hu=>?_) (fun u fr c' w' W3 hu hr Rt=>?_)
   ·obtain⟨rfl,rfl,rfl⟩:=hr;intro x hx ch;rcases zcg.1 hx with rfl|hx
    ·exact hnf _ ch
    ·exact hnp x (List.mem_cons_of_mem _ hx) ch
   ·obtain⟨n,val,g1,⟨a1,a2,a3⟩,g3,g4⟩:=hF.NS t5_comm 0 kK (by rw[JW];rfl);obtain rfl:=g1.eq t5_ch;have e:val=kV:=by have:=g4 _ (by omega) rfl;exact(Option.some.inj this).symm
    subst e;have hc:∀o,u.cell? ⟨ab,o,none⟩=W2.cell? ⟨ab,o,none⟩:=fun o=>zce (hu.same ab fun h=>h.elim (fun h=>by have:=hsbv _ h;omega) (by omega));exact em_rest e1 e2 e3 ⟨(hc _).trans a1,(hc _).trans a2,(hc _).trans a3⟩ fun fr hl=>To.leave (hl _) (To.done ⟨rfl,rfl,rfl⟩)
   ·obtain⟨rfl,rfl,rfl⟩:=hr;have hu0:∀{q:Nat},¬Sb q->q≠wg->w'.heap[q]?=W2.heap[q]? :=fun{q} h1 h2=>hu.same q fun h=>h.elim h1 h2;have hfr:∀k,k<ab->fresh τ ab k=τ k:=fun k hk=>by unfold fresh;rw[if_neg (by omega)]
    have LK:v1.heap.size=v.heap.size:=by rw[hvv]
    refine hq (fresh τ ab) sb wg A w' W3 Rt (hS.frame fun k hk ht=>⟨?_,hfr k (by omega)⟩) ⟨⟨by omega,by have:=hu.size;omega⟩,fun k hk hs=>?_,fun k hk=>by rw[hfr k (by omega)];exact hE.yt k (by omega),by unfold fresh;rw[if_pos (by omega)],?_,?_⟩
    ·have hs:¬Sb k:=fun h=>by rw[hE.yt k (hsbv k h)]at ht;cases ht
     rw[hu0 hs (by omega),hF.keep k hk (by rw[ht];decide) hs]
    ·rw[hu0 hs (by omega),hF.keep k (by omega) (by rw[hE.yt k (by omega)];decide) hs,hE.below.block k (by omega),hvv]
    ·rw[hu.out,hF.out,hE.below.output,hv1.out,hv.out]
    ·have:=hF.os;rw[hE.below.os,hv1.os,<-hv.os]at this;rw[hu.os];exact this
end
section
open Go Go.RowKit Go.MuLone
def alW(P:Nat)(L:List ByteArray)(n:Nat)(cm:Nat->Bool):MW:={items:=aS L n,dL:=dS P L,comm:=cm,ed:=false}
def alS(P:Nat)(M:Int)(La Lb:List ByteArray)(ca cb:Nat->Bool)(rs:List MR):MS:={parts:=P,mode:=M,ws:= [xW,alW P La 2 ca,xW,alW P Lb 4 cb],rs:=rs}
def alS1(P:Nat)(M:Int)(La:List ByteArray):MS:={parts:=P,mode:=M,ws:= [xW,alW P La 2 fun _=>false],rs:= []}
section
variable {P:Nat}{M:Int}{La Lb L:List ByteArray}{ca cb cm:Nat->Bool}{rs:List MR}{n p:Nat}{x:ByteArray}
theorem al_find1:bF (alS P M La Lb ca cb rs) 2=some (alW P La 2 ca):=rfl
theorem al_find2:bF (alS P M La Lb ca cb rs) 4=some (alW P Lb 4 cb):=rfl
theorem al_all:je P (alW P L n cm)=true:=by simp only[je,List.all_eq_true,List.mem_range];intro p _;show (!az P (aS L n) p || dS P L p)=true;rw[rZ,yy];cases L.any fun x=>decide (partOf P x=(p:Int)) <;>rfl
theorem al_on(hx:x∈L)(hp:partOf P x=p):az P (alW P L n cm).items p=true:=by show az P (aS L n) p=true;rw[rZ,zcf];exact⟨x,hx,by simpa using hp⟩
theorem al_comm:CommAll (alS P M La Lb ca cb rs):=by
 intro i m q hm hc;match i,hm with
 | 0,hm=>cases hm;cases hc
 | 1,hm=>cases hm;exact al_all
 | 2,hm=>cases hm;cases hc
 | 3,hm=>cases hm;exact al_all
theorem al_vis(hx:x≠kx):aU (alS P M La Lb ca cb rs) x=if dX Lb x && cb (partOf (P:Int) x).toNat then 4 else if dX La x && ca (partOf (P:Int) x).toNat then 2 else 0:=by
 have hx0:aH xW.items x=false:=by show aH [(kx,EP)] x=false;simp[aH,Ne.symm hx]
 have h1:aH (alW P Lb 4 cb).items x=dX Lb x:=rY _ _ _;have h2:aH (alW P La 2 ca).items x=dX La x:=rY _ _ _;show pJ P [xW,alW P La 2 ca,xW,alW P Lb 4 cb] x 4=_;simp only[pJ,List.getElem?_cons_succ,List.getElem?_cons_zero,hx0,h1,h2,Bool.false_and,Bool.false_eq_true,if_false];rfl
def alV(P:Nat)(La Lb:List ByteArray)(p:Nat)(x:ByteArray):Nat:=if dX Lb x && decide ((partOf (P:Int) x).toNat=p)then 4 else if dX La x then 2 else 0
theorem al_visible(hP:0<P)(hx:x≠kx):aU (alS P M La Lb (dS P La) (put (fun _=>false) p) rs) x=alV P La Lb p x:=by
 rw[al_vis hx];unfold alV put;have h1:(if (partOf (P:Int) x).toNat=p then true else false)=decide ((partOf (P:Int) x).toNat=p):=by by_cases h:(partOf (P:Int) x).toNat=p<;>simp[h]
 rw[h1];congr 1;cases hk:dX La x with
 |false=>simp
 |true=>
  have:dS P La (partOf (P:Int) x).toNat=true:=by rw[yy,zcf];refine⟨x,jE.1 hk,?_⟩;have:=eM (P:Int) x (by omega);simp only[decide_eq_true_eq];omega
  simp[this]
def alAny(P:Nat)(La Lb:List ByteArray)(p:Nat)(C:List ByteArray):Bool:=C.any fun y=>decide (alV P La Lb p y=4)
def alN(P:Nat)(La Lb:List ByteArray)(p:Nat)(C:List ByteArray)(x:ByteArray):Nat:=if dX Lb x && alAny P La Lb p C then 4 else if dX La x then 2 else 0
theorem alV_four:alV P La Lb p x=4↔x∈Lb/\(partOf (P:Int) x).toNat=p:=by
 unfold alV;split
 ·rename_i h;simp only[Bool.and_eq_true,decide_eq_true_eq,jE]at h;exact⟨fun _=>h,fun _=>rfl⟩
 ·rename_i h;simp only[Bool.and_eq_true,decide_eq_true_eq,jE]at h;split<;>exact⟨fun e=>by omega,fun e=>absurd e h⟩
theorem alV_cases:alV P La Lb p x=0\/alV P La Lb p x=2\/alV P La Lb p x=4:=by
 unfold alV;split
 ·exact .inr (.inr rfl)
 ·split
  ·exact .inr (.inl rfl)
  ·exact .inl rfl
theorem al_has:HasW (alS P M La Lb ca cb rs) 2 x↔x∈La:=by
 constructor
 ·rintro⟨_,m,hm,hk⟩;cases hm;rw[show (alW P La 2 ca).items=aS La 2 from rfl,rY]at hk;exact jE.1 hk
 ·intro h;exact⟨by omega,_,rfl,by rw[show (alW P La 2 ca).items=aS La 2 from rfl,rY];exact jE.2 h⟩
theorem al_has4:HasW (alS P M La Lb ca cb rs) 4 x↔x∈Lb:=by
 constructor
 ·rintro⟨_,m,hm,hk⟩;cases hm;rw[show (alW P Lb 4 cb).items=aS Lb 4 from rfl,rY]at hk;exact jE.1 hk
 ·intro h;exact⟨by omega,_,rfl,by rw[show (alW P Lb 4 cb).items=aS Lb 4 from rfl,rY];exact jE.2 h⟩
theorem alN_le:alN P La Lb p C x=4/\x∈Lb/\alAny P La Lb p C=true\/¬(x∈Lb/\alAny P La Lb p C=true)/\(alN P La Lb p C x=2/\x∈La\/alN P La Lb p C x=0/\x ∉ La):=by
 unfold alN;split
 ·rename_i h;simp only[Bool.and_eq_true,jE]at h;exact .inl ⟨rfl,h⟩
 ·rename_i h;simp only[Bool.and_eq_true,jE]at h;refine .inr ⟨h,?_⟩;split
  ·rename_i h2;exact .inl ⟨rfl,jE.1 h2⟩
  ·rename_i h2;exact .inr ⟨rfl,fun h3=>h2 (jE.2 h3)⟩
theorem al_found{v:ByteArray->Nat}(hx:C[j]?=some x):(fmRd C v C.length).found j=v x:=by have hj:=aE hx;show (if j<C.length then v (C.getD j ⟨#[]⟩)else 0)=v x;rw[if_pos hj];simp[List.getD,hx]
theorem al_ch(hx:C[j]?=some x):IsCh (alS P M La Lb ca cb rs) (fmRd C (alV P La Lb p) C.length) x (alN P La Lb p C x):=by
 constructor
 ·rcases alN_le (P:=P) (La:=La) (Lb:=Lb) (p:=p) (C:=C) (x:=x)with⟨e,h1,h2⟩|⟨h0,⟨e,h1⟩|⟨e,h1⟩⟩
  ·rw[e];refine .inr ⟨al_has4.2 h1,?_⟩;unfold alAny at h2;rw[zcf]at h2;obtain⟨y,hy,h3⟩:=h2;obtain⟨j',hj'⟩:=List.getElem?_of_mem hy;exact⟨j',y,hj',by rw[al_found hj'];simpa using h3⟩
  ·rw[e];refine .inr ⟨al_has.2 h1,j,x,hx,?_⟩;rw[al_found hx];rcases alV_cases (P:=P) (La:=La) (Lb:=Lb) (p:=p) (x:=x)with h|h|h
   ·exfalso;unfold alV at h;split at h
    ·omega
    ·rw[if_pos (jE.2 h1)]at h;omega
   ·exact h
   ·exfalso;refine h0 ⟨(alV_four.1 h).1,?_⟩;unfold alAny;rw[zcf];exact⟨x,List.mem_of_getElem? hx,by simpa using h⟩
  ·exact .inl e
 ·intro j' y hy hw;replace hy:C[j']?=some y:=hy;rw[al_found hy]at hw⊢;rcases alV_cases (P:=P) (La:=La) (Lb:=Lb) (p:=p) (x:=y)with h|h|h
  ·omega
  ·rw[h]at hw⊢;have:=al_has.1 hw;rcases alN_le (P:=P) (La:=La) (Lb:=Lb) (p:=p) (C:=C) (x:=x)with⟨e,_⟩|⟨_,⟨e,_⟩|⟨_,h1⟩⟩
   ·omega
   ·omega
   ·exact absurd this h1
  ·have hany:alAny P La Lb p C=true:=by unfold alAny;rw[zcf];exact⟨y,List.mem_of_getElem? hy,by simpa using h⟩
   rw[h]at hw⊢;have:=al_has4.1 hw;rcases alN_le (P:=P) (La:=La) (Lb:=Lb) (p:=p) (C:=C) (x:=x)with⟨e,_⟩|⟨h0,_⟩
   ·omega
   ·exact absurd ⟨this,hany⟩ h0
def alVal(P:Nat)(La Lb:List ByteArray)(p:Nat)(C:List ByteArray)(x:ByteArray):ByteArray:=if alN P La Lb p C x=0 then⟨#[]⟩else x++oM (alN P La Lb p C x)
theorem al_right{k1 g1 c1 k2 g2 c2:Nat}:RtOk [⟨k1,2,g1,c1,La⟩,⟨k2,4,g2,c2,Lb⟩] C [2] (fun j=>alN P La Lb p C (C.getD j ⟨#[]⟩)) (fun j=>alVal P La Lb p C (C.getD j ⟨#[]⟩)):=by
 have hg:∀{j:Nat} {x:ByteArray},C[j]?=some x->C.getD j ⟨#[]⟩=x:=fun{j x} hx=>by simp[List.getD,hx]
 refine⟨fun j x hx h=>?_,fun i x hx h=>?_,fun j m hm=>?_⟩
 ·simp only[alVal,h,if_true]
 ·simp only[hg hx]at h⊢;rcases alN_le (P:=P) (La:=La) (Lb:=Lb) (p:=p) (C:=C) (x:=x)with⟨e,h1,h2⟩|⟨h0,⟨e,h1⟩|⟨e,h1⟩⟩
  ·refine⟨⟨k2,4,g2,c2,Lb⟩,by rw[e];rfl,jE.2 h1,by unfold alVal;rw[e];rfl,fun j y hy hk=>?_⟩;rw[hg hy];rcases alN_le (P:=P) (La:=La) (Lb:=Lb) (p:=p) (C:=C) (x:=y)with⟨e',_⟩|⟨h0,_⟩
   ·rw[e'];exact Nat.le_refl 4
   ·exact absurd ⟨jE.1 hk,h2⟩ h0
  ·refine⟨⟨k1,2,g1,c1,La⟩,by rw[e];rfl,jE.2 h1,by unfold alVal;rw[e];rfl,fun j y hy hk=>?_⟩;rw[hg hy];rcases alN_le (P:=P) (La:=La) (Lb:=Lb) (p:=p) (C:=C) (x:=y)with⟨e',_⟩|⟨_,⟨e',_⟩|⟨_,h3⟩⟩
   ·rw[e'];show 2<=4;omega
   ·rw[e'];exact Nat.le_refl 2
   ·exact absurd (jE.1 hk) h3
  ·exact absurd e h
 ·match j,hm with
  | 0,hm=>
    cases hm;refine⟨⟨k1,2,g1,c1,La⟩,rfl,fun i y hy hk=>?_⟩;rw[hg hy];rcases alN_le (P:=P) (La:=La) (Lb:=Lb) (p:=p) (C:=C) (x:=y)with⟨e',_⟩|⟨_,⟨e',_⟩|⟨_,h3⟩⟩
    ·rw[e'];show 2<=4;omega
    ·rw[e'];exact Nat.le_refl 2
    ·exact absurd (jE.1 hk) h3
end
end
section
open Go Go.RowKit Go.MuLone Go.Conc
noncomputable def alBody:Code:=Tryz.f7.body.getD .skip
def inOf:Code->Code
 |.block _ c=>c
 |.loop c=>c
 |c=>c
noncomputable def alL:Code:=inOf (inOf (cB (cA (nthB 8 alBody))))
noncomputable def alB:Code:=inOf (cA (cB alL))
noncomputable def alT:Code:=nthB 12 alB
theorem alT_eq:alT=.seq (.region 36 (opsOf (cA alT)) false) (cB alT):=by kernel_rfl
theorem array234(T:Array Value)(h:T.size=234):∃f:Nat->Value,T=((List.range 234).map f).toArray/\∀i v,T[i]?=some v->f i=v:=arrN T h
structure BE where
 b:Nat
 id:Nat
 c:Array Value
 t:TypeId
structure AlM(Z:Nat->Prop)(w0 w:World)(τ:Nat->Tag)(sb ga gb gc:Nat)(La Lb Lc:List ByteArray)(s:MS)(A:SA)(B:List BE):Prop where
 rep:aW w τ 2 sb s A
 env:Env w0 w τ
 ka:LL w τ ga La
 kb:LL w τ gb Lb
 kc:LL w τ gc Lc
 own:∀e∈B,aT w e.b e.c e.t/\τ e.b=(1,e.id,0)
 zs:∀k,Z k->k<w.heap.size/\τ k=(0,0,0)
section
variable {Z:Nat->Prop}{w0 w w':World}{τ τ':Nat->Tag}{sb ga gb gc:Nat}{La Lb Lc:List ByteArray}{s s':MS}{A A':SA}{B:List BE}
theorem AlM.frame(h:AlM Z w0 w τ sb ga gb gc La Lb Lc s A B)(hR:aW w' τ' 2 sb s' A')(hE:Env w0 w' τ')(hb:∀q,q<w.heap.size->(τ q).1≠2->w'.heap[q]?=w.heap[q]? /\τ' q=τ q):AlM Z w0 w' τ' sb ga gb gc La Lb Lc s' A' B:=
 ⟨hR,hE,h.ka.frame hb,h.kb.frame hb,h.kc.frame hb,fun e he=>by
   obtain⟨h1,h2⟩:=h.own e he;obtain⟨h3,h4⟩:=hb e.b h1.lt (by rw[h2];show (1:Nat)≠2;decide);exact⟨h1.of_eq h3,by rw[h4,h2]⟩,fun k hk=>by obtain⟨h1,h2⟩:=h.zs k hk;obtain⟨h3,h4⟩:=hb k h1 (by rw[h2];decide);rw[Array.getElem?_eq_getElem h1]at h3;exact⟨(Array.getElem?_eq_some_iff.1 h3).1,h4.trans h2⟩⟩
theorem AlM.step(h:AlM Z w0 w τ sb ga gb gc La Lb Lc s A B)(hR:aW w' τ' 2 sb s' A')(hs:Stp 2 τ w τ' w'):AlM Z w0 w' τ' sb ga gb gc La Lb Lc s' A' B:=
 h.frame hR (h.env.nG hs (by decide)) fun q hq e=>⟨hs.block q hq e,hs.tag q hq⟩
theorem AlM.new(h:AlM Z w0 w τ sb ga gb gc La Lb Lc s A B)(id:Nat)(c:Array Value)(t:TypeId):AlM Z w0 (w.alloc (.cells c t)) (fun q=>if q=w.heap.size then(1,id,0)else τ q) sb ga gb gc La Lb Lc s A (⟨w.heap.size,id,c,t⟩:: B):=by
 have ht:∀q,q<w.heap.size->(if q=w.heap.size then((1,id,0):Tag)else τ q)=τ q:=fun q hq=>by rw[if_neg (by omega)]
 have hsz:=h.env.below.size;have hf:=h.frame (w':=w.alloc (.cells c t)) (h.rep.frame (fun q hq _=>⟨Below.heap_alloc _ _ _ hq,ht q hq⟩)) ⟨h.env.below.alloc hsz _,fun q hq=>by rw[ht q (by omega)];exact h.env.yt q hq⟩ (fun q hq _=>⟨Below.heap_alloc _ _ _ hq,ht q hq⟩);refine⟨hf.rep,hf.env,hf.ka,hf.kb,hf.kc,fun e he=>?_,hf.zs⟩;rcases zcg.1 he with rfl|he
 ·exact⟨aT.new w _ _,by simp⟩
 ·exact hf.own e he
theorem AlM.set(h:AlM Z w0 w τ sb ga gb gc La Lb Lc s A B){e0:BE}(h0:e0∈B)(hu:∀e∈B,e.id=e0.id->e=e0)(o:Nat)(v:Value):AlM Z w0 (w.setCell ⟨e0.b,o,none⟩ v) τ sb ga gb gc La Lb Lc s A (B.map fun e=>if e.id=e0.id then⟨e.b,e.id,e.c.setIfInBounds o v,e.t⟩else e):=by
 obtain⟨g1,g2⟩:=h.own e0 h0;have hk1:(τ e0.b).1=1:=by rw[g2]
 have hne:∀{q:Nat},q≠e0.b->(w.setCell ⟨e0.b,o,none⟩ v).heap[q]?=w.heap[q]? :=fun hq=>Below.heap_setCell _ _ _ _ hq;refine⟨h.rep.frame (fun q _ e=>⟨hne (fun e'=>by rw[e',hk1]at e;cases e),rfl⟩),⟨h.env.below.setCell (p:=⟨e0.b,o,none⟩) (VW h.env hk1) _,h.env.yt⟩,h.ka.set hk1,h.kb.set hk1,h.kc.set hk1,fun e he=>?_,fun k hk=>by rw[show (w.setCell ⟨e0.b,o,none⟩ v).heap.size=w.heap.size by simp[World.setCell]];exact h.zs k hk⟩;obtain⟨e1,he1,rfl⟩:=List.mem_map.1 he;split
 ·rename_i hid;obtain rfl:=hu e1 he1 hid;exact⟨g1.set o v,g2⟩
 ·rename_i hid;obtain⟨h1,h2⟩:=h.own e1 he1;exact⟨h1.of_eq (hne fun e'=>hid (by rw[e',g2]at h2;simp at h2;exact h2.symm)),h2⟩
end
end
end Go.Proofs.YteoahlieielcdaaGreat
