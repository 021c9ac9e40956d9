import Derived.Test.YteoahlieielcdaaGreatV4
set_option linter.all false
namespace Go.Proofs.YteoahlieielcdaaGreat
abbrev zb3:=@Array.getElem?_eq_some_iff
abbrev zb4:=@Array.getElem?_setIfInBounds_ne
abbrev zb5:=@List.append_cancel_right
abbrev zb6:=@Nat.eq_zero_or_pos
abbrev zb7:=@Option.map_eq_some_iff
variable{s pos:String}{o:Oper}{v x:Value}{w w' w1:World}{fr' gC fr cl:Frame}{c' c1 cs c:List Frame}{n d i:Nat}{Q:Frame->List Frame->World->Prop}{fn f:FuncId}{es:Array Event}{t:Trace}{gs:Array Goroutine}{is:List Nat}
section
open Go Go.Conc
section
variable {P:Program}{T:gI}{Sb:Nat->Prop}{d out:Nat}{fr:Frame}{c:List Frame}
theorem Bm(hT:gY P T)(hs:T.Ja s=true)(v:Value)(args:Array Value):af P Sb False (callMethod v s args):=by
 cases v with
 |iface t x=>
  have e0:callMethod (.iface t x) s args=(do let (f,receiver)<-method ((<-program).types.size+Made.depth) t x s;callFunc f (#[receiver]++args)):=rfl;rw[e0];refine af.UA dB fun p v v' hp=>?_;refine af.UA (B7 ..) fun fx v1 v2 hr=>?_;obtain⟨f,rc⟩:=fx;obtain⟨r,es,hr'⟩:∃r es,(method (p.types.size+Made.depth) t x s).runT P v1 #[]=(r,es):=⟨_,_,rfl⟩
  have e1:r=.ok (f,rc) v2:=by have:=Sem.runT_fst P (method (p.types.size+Made.depth) t x s) v1 #[];rw[hr',hr]at this;exact this
  subst e1;obtain⟨g1,g2⟩:=hT.Ja s f hs (oy _ hr');obtain⟨fn,c,q1,q2,q3,_⟩:=hT.j8 f 0 0 g1;exact F4 q1 q2 q3 _
 |nilIface=>
  show af P Sb False (runtimePanic RuntimeError.nilDeref);exact bN _
 |_=>exact af.halt
theorem Jb(ρ:Operand->Value)(cl:Call)(t:TypeId):af P Sb False (resolve ρ cl t):=by
 unfold resolve;dsimp only;split
 ·exact af.pure
 ·exact af.pure
 ·unfold Deferred.ofValue;split
  ·exact af.pure
  ·exact af.pure
  ·exact af.halt
theorem aaW(hT:gY P T)(hG:oJ P T Sb)(hr:m9 T d fr out){s s1:Nat}(h1:T.S5 fr.fn o s=some s1):af P Sb False (execOp fr.eval o):=by
 have body:∀f a b args,T.j8 f a=some b->af P Sb False (callFunc f args):=fun f a b args hi=>by obtain⟨fn,cc,g1,g2,g3,_⟩:=hT.j8 f a b hi;exact F4 g1 g2 g3 args
 unfold gI.S5 at h1;cases hop:o.op with
 |call cl=>
  rw[hop]at h1;simp only at h1;split at h1
  ·cases h1
  ·cases hc:cl.callee with
   |invoke r nm=>
    rw[hc]at h1;simp only at h1;split at h1
    ·rename_i hh;rw[wI hop hc];exact Bm hT hh.1 _ _
    ·cases h1
   |builtin b=>
    rw[hc]at h1;simp only at h1;split at h1
    ·rename_i hb;rw[uk hop hc];exact I7 hb ..
    ·cases h1
   |value x=>
    cases x with
    |tmp m=>
     rw[hc]at h1;simp only at h1;split at h1
     ·rename_i hh;have uH:=hr.vY m (by simpa using hh.1);cases hv:fr.tmps.getD m undef with
      |func fn a b=>
       have hfn:=uH fn a b hv;rw[F6 (T:=T) hop hc hv hfn];exact body _ _ _ _ hT.cf.1
      |_=>
       refine .qy ⟨fun v x v' hx=>?_⟩;obtain⟨r,es,hr'⟩:∃r es,(execOp fr.eval o).runT P v #[]=(r,es):=⟨_,_,rfl⟩
       have e1:r=.ok x v':=by have:=Sem.runT_fst P (execOp fr.eval o) v #[];rw[hr',hx]at this;exact this
       subst e1;exact wJ hop hc (fun fn a b=>by rw[hv];intro h;cases h) hr'
     ·cases h1
    |func f=>
     rw[hc]at h1;simp only at h1;split at h1
     ·obtain⟨e,yM,h1⟩:=Option.bind_eq_some_iff.1 h1;rw[B9 (fr:=fr) (o:=o) hop hc];unfold gI.fD at yM;split at yM
      ·rename_i Qb;subst Qb;exact hG.Nk _
      ·split at yM
       ·rename_i _ Qb;subst Qb;exact hG.en _
       ·split at yM
        ·rename_i hx;exact hG.ext f hx _
        ·exact body _ _ _ _ yM
     ·cases h1
    |_=>rw[hc]at h1;cases h1
 |go cl=>
  unfold execOp;rw[hop];exact af.bind (Jb ..) fun _=>af.pure
 |defer cl=>
  rw[hop]at h1;simp only at h1;cases hc:cl.callee with
  |value x=>
   cases x with
   |func f=>exact F3 fun w es=>zO hop hc es
   |_=>rw[hc]at h1;cases h1
  |_=>rw[hc]at h1;cases h1
 |move x=>exact xP (by rw[hop];rfl)
 |assign x=>exact xP (by rw[hop];rfl)
 |makeFunc fn a b=>exact xP (by rw[hop];rfl)
 |_=>
  rw[hop]at h1;simp only at h1;split at h1
  ·rename_i hh;exact xP (by rw[hop];exact hh.1)
  ·cases h1
theorem Qc(hT:gY P T)(hG:oJ P T Sb)(hf:rI T fr out)(hr:m9 T d fr out)(hm:fr.mode=.run)(hop:WQ fr):StepT P Sb fr c:=by
 obtain⟨ops,i,is,k,ht⟩:=hop;obtain⟨s,X,qT,tN,hk⟩:=hr.ok;rw[ht]at hk;cases ho:ops[i]? with
 |none=>exact bU (c1:=c) fun cs w=>jM hf hm ht (by rw[ho];rfl) _
 |some o=>
  obtain⟨s1,h1,h2,h3⟩:=Qd hk ho;cases Kw:Region.wanted o (yielded ops fr.tmps)with
  |false=>exact bU (c1:=c) fun cs w=>jM hf hm ht (by rw[ho];exact Kw) _
  |true=>
   have hs:∀cs w,stepG P true (G fr cs) w=stepG.apply P true fr cs none (execOp fr.eval o) w:=fun cs w=>Ca hf hm ht ho Kw cs;refine⟨Next,execOp fr.eval o,aaW hT hG hr h1,fun cs=>⟨fun w x w' es hrun gC c1 w1 xN hst=>?_,fun w h w' es hrun gC c1 w1 xN hst=>?_⟩⟩
   ·rw[hs]at hst;by_cases hsp:∃d,x=Next.spawn d
    ·obtain⟨dd,rfl⟩:=hsp;exfalso;rcases wK (fr:=fr) hrun (c++cs)with⟨o,w2,xK,h1⟩|⟨g',w2,xK,h1,h2⟩|⟨g',g2,w2,xK,h1⟩
     ·rw[h1]at hst;cases hst
     ·rw[h1]at hst;cases hst;rcases h2 with h2|h2|⟨_,d,f,h2,_⟩ <;>cases h2
     ·rw[h1]at hst;cases hst
    ·have Uy:∀d,x≠Next.spawn d:=fun d e=>hsp ⟨d,e⟩;refine⟨(B8 Uy hf.kind hrun hrun hst).1,fun u u' es' hu=>?_⟩;rw[hs];exact(B8 Uy hf.kind hrun hu hst).2
   ·rw[hs]at hst;exact Qa hT.nG hG.sda hf.kind hrun cs hst hm
theorem Mv(hT:gY P T)(hG:oJ P T Sb)(hf:rI T fr out)(hr:m9 T d fr out)(hm:fr.mode=.run):StepT P Sb fr c:=by
 have EJ:=hr;have hf0:=hf;obtain⟨s,X,qT,tN,hk⟩:=hr.ok;obtain⟨fn,tmps,todo,defers,mode,kind,ro⟩:=fr;obtain rfl:ro=none:=hf.round;obtain rfl:mode=.run:=hm;simp only at hk hf hr tN;cases todo with
 |nil=>exact bU (gC:={fn,tmps,todo:= [],defers,mode:=.returning,kind,roundOf:=none}) (c1:=c) fun cs w=>rfl
 |cons i k=>
  cases i with
  |inBlock id=>exact bU (gC:={fn,tmps,todo:=k,defers,mode:=.run,kind,roundOf:=none}) (c1:=c) fun cs w=>rfl
  |inLoop a=>exact bU (gC:={fn,tmps,todo:=.code a :: .inLoop a :: k,defers,mode:=.run,kind,roundOf:=none}) (c1:=c) fun cs w=>rfl
  |inRegion ops is=>
   cases is with
   |nil=>exact bU (gC:={fn,tmps,todo:=k,defers,mode:=.run,kind,roundOf:=none}) (c1:=c) fun cs w=>rfl
   |cons j is=>exact Qc hT hG hf0 EJ rfl ⟨ops,j,is,k,rfl⟩
  |code cd=>
   cases cd with
   |skip=>exact bU (gC:={fn,tmps,todo:=k,defers,mode:=.run,kind,roundOf:=none}) (c1:=c) fun cs w=>rfl
   |ret=>exact bU (gC:={fn,tmps,todo:=.code .ret :: k,defers,mode:=.returning,kind,roundOf:=none}) (c1:=c) fun cs w=>rfl
   |seq a b=>exact bU (gC:={fn,tmps,todo:=.code a :: .code b :: k,defers,mode:=.run,kind,roundOf:=none}) (c1:=c) fun cs w=>rfl
   |cond cd a b=>
    by_cases hc:∃q,(Frame.mk fn tmps (.code (.cond cd a b):: k) defers .run kind none).eval cd=.bool q
    ·obtain⟨q,hq⟩:=hc;exact bU (gC:={fn,tmps,todo:=.code (if q then a else b):: k,defers,mode:=.run,kind,roundOf:=none}) (c1:=c) fun cs w=>by simp only[stepG,G,stepG.exec,hq]
    ·refine wH fun cs w=>⟨.stuck "cond: bool expected" ((Frame.mk fn tmps (.code (.cond cd a b):: k) defers .run kind none).pos P),w,#[],?_⟩
     simp only[stepG,G,stepG.exec];split
     ·rename_i q hq;exact absurd ⟨q,hq⟩ hc
     ·rfl
   |block id a=>exact bU (gC:={fn,tmps,todo:=.code a :: .inBlock id :: k,defers,mode:=.run,kind,roundOf:=none}) (c1:=c) fun cs w=>rfl
   |loop a=>exact bU (gC:={fn,tmps,todo:=.code a :: .inLoop a :: k,defers,mode:=.run,kind,roundOf:=none}) (c1:=c) fun cs w=>rfl
   |exit id=>
    cases he:exitTo id k with
    |some k'=>
     exact bU (gC:={fn,tmps,todo:=k',defers,mode:=.run,kind,roundOf:=none}) (c1:=c) fun cs w=>by simp only[stepG,G,stepG.exec,he,Option.elim]
    |none=>
     refine wH fun cs w=>⟨.stuck "exit, goto: no such block or label" ((Frame.mk fn tmps (.code (.exit id):: k) defers .run kind none).pos P),w,#[],?_⟩
     simp only[stepG,G,stepG.exec,he,Option.elim];rfl
   |region id ops draw=>
    cases draw with
    |false=>exact bU (gC:={fn,tmps,todo:=.inRegion ops (List.range ops.size):: k,defers,mode:=.run,kind,roundOf:=none}) (c1:=c) fun cs w=>rfl
    |true=>
     have hst:∀cs (w:World),stepG P true (G ⟨fn,tmps,.code (.region id ops true):: k,defers,.run,kind,none⟩ (c++cs)) w=.go (G ⟨fn,tmps,.inRegion ops (Region.schedule (P.follows .mixedOrders) ops (Question.cut (.order fn id) (w.tape w.drawn (.order fn id)))):: k,defers,.run,kind,none⟩ (c++cs)) {w with drawn:=w.drawn+1} #[]:=fun cs w=>by
      have hx:(choose (.order fn id)).run P w=.ok (Question.cut (.order fn id) (w.tape w.drawn (.order fn id))) {w with drawn:=w.drawn+1}:=by simp[choose,Sem.run,Question.forced]
      simp only[stepG,G,stepG.exec,hx,Bool.not_true,Bool.false_eq_true,if_false]
     have X6:∀(w:World),(choose (.order fn id)).runT P w #[]=(.ok (Question.cut (.order fn id) (w.tape w.drawn (.order fn id))) {w with drawn:=w.drawn+1},#[]):=fun w=>rfl;refine⟨Nat,choose (.order fn id),cX _,fun cs=>⟨fun w x w' es hrun gC c1 w1 xN hs=>?_,fun w h w' es hrun=>by rw[X6]at hrun;cases hrun⟩⟩;rw[X6]at hrun;cases hrun;rw[hst]at hs;cases hs;refine⟨rfl,fun u u' es' hu=>?_⟩;rw[X6]at hu;simp only[Prod.mk.injEq,Result.ok.injEq]at hu;obtain⟨⟨h1,h2⟩,h3⟩:=hu;subst h2 h3;rw[hst,h1];rfl
   |_=>obtain⟨r,h1,_⟩:=hk;simp[gI.ck]at h1
  |_=>exact hk.elim
theorem Dx(hT:gY P T)(hG:oJ P T Sb)(hf:rI T fr out)(hw:Wt T fr.kind out c)(hm:fr.mode≠.run)(hl:¬Leave fr c):StepT P Sb fr c:=by
 have hu:∀cs w,stepG P true (G fr cs) w=unwind P true fr cs none w:=fun cs w=>by simp only[stepG,G]
 obtain⟨a0,Qe⟩:=hf.j8;obtain⟨fn0,c0,g1,g2,g3,_⟩:=hT.j8 _ _ _ Qe;cases hd:fr.defers with
 |cons x ds=>
  obtain⟨cap,hx⟩:=hf.EF x (by rw[hd];exact List.mem_cons_self ..);by_cases mI:T.den fr.fn=true
  ·rw[if_pos mI]at hx;have hstep:∀cs w v es,(callFunc T.en (x.args++cap)).runT P w #[]=(.ok (.value v) w,es)->stepG P true (G fr cs) w=.go (G {fr with defers:=ds} cs) w (seen P fr.fn es):=fun cs w v es q9=>by rw[hu];unfold unwind;rw[hd];obtain⟨tg,ar⟩:=x;obtain rfl:tg=.fn (.func T.en) cap:=hx;simp only[callDeferred];have e1:(invoke (.fn (.func T.en) cap) ar).runT P w #[]=(.ok (.value v) w,es):=q9;simp only[e1,Bool.false_and,Bool.false_eq_true,if_false,GStep.after,Array.append_empty];rfl
   refine⟨Next,callFunc T.en (x.args++cap),hG.en _,fun cs=>⟨fun w y w' es hrun gC c1 w1 xN hs=>?_,fun w h w' es hrun=>?_⟩⟩
   ·obtain⟨v,xK,q9,_⟩:=hT.en (x.args++cap) w;rw[hstep _ _ _ _ q9]at hs;rw[q9]at hrun;cases hrun;simp only[GStep.go.injEq]at hs;obtain⟨h1,rfl,h3⟩:=hs;refine⟨rfl,fun u u' es' XP=>?_⟩;obtain⟨v',S4,aaX,_⟩:=hT.en (x.args++cap) u;rw[aaX]at XP;have e2:u'=u/\es'=S4:=by simp only[Prod.mk.injEq,Result.ok.injEq]at XP;exact⟨XP.1.2.symm,XP.2.symm⟩
    rw[hstep _ _ _ _ aaX,e2.1,e2.2,h1]
   ·obtain⟨v,xK,q9,_⟩:=hT.en (x.args++cap) w;rw[q9]at hrun;cases hrun
  ·rw[if_neg mI]at hx;obtain⟨fn,cc,q1,q2,q3,_⟩:=hT.j8 _ _ _ hT.Cb.1;refine bU (gC:=Frame.enter P T.Cb (x.args++cap) .deferred) (c1:={fr with defers:=ds}:: c) fun cs w=>?_;rw[hu];unfold unwind;rw[hd];obtain⟨tg,ar⟩:=x;obtain rfl:tg=.fn (.func T.Cb) cap:=hx;simp only[callDeferred];have e1:(invoke (.fn (.func T.Cb) cap) ar).runT P w #[]=(.ok (.enter T.Cb (ar++cap)) w,#[]):=fP q1 q2 q3 _ _ _;simp only[e1,Bool.false_and,Bool.false_eq_true,if_false];rfl
 |nil=>
  cases c with
  |nil=>exact absurd ⟨rfl,hm,hd⟩ hl
  |cons cl rest=>
   obtain⟨out',Ld,Xq,iF⟩:=hw;cases um:fr.mode with
   |run=>exact absurd um hm
   |panicking ch=>
    have yA:fr.catches P=false:=by unfold Frame.catches;rw[g1]
    refine bU (gC:=cl.raise ch) (c1:=rest) fun cs w=>?_;rw[hu];unfold unwind;rw[hd];simp only[um,yA,Bool.false_eq_true,if_false,List.cons_append];rfl
   |returning=>
    have Qf:∀cs w v w' es,(results fn0 fr.tmps).runT P w #[]=(.ok v w',es)->stepG P true (G fr cs) w=(doReturn P true fr cs none v w').after (seen P fr.fn es):=fun cs w v w' es hrun=>by rw[hu];unfold unwind;rw[hd];simp only[um,g1,hrun]
    refine⟨Value,results fn0 fr.tmps,I9 ..,fun cs=>⟨fun w x w' es hrun gC c1 w1 xN hs=>?_,fun w h w' es hrun gC c1 w1 xN hs=>?_⟩⟩
    ·rw[Qf _ _ _ _ _ hrun]at hs;have key:∃XF c2,∀w',doReturn P true fr ((cl :: rest)++cs) none x w'=.go (G XF c2) w' #[]:=by
      rcases iF with⟨hk,hcm,hrv⟩|⟨hk,hcm,F7⟩
      ·exact⟨cl.finish x,rest++cs,fun w'=>by simp only[List.cons_append,doReturn,hk];rfl⟩
      ·refine⟨cl,rest++cs,fun w'=>?_⟩;simp only[List.cons_append,doReturn,hk];split
       ·rename_i v' g' older GU;unfold gQ at F7;rw[GU]at F7;have:=F7 _ (List.mem_cons_self ..);simp at this
       ·rfl
     obtain⟨XF,c2,hk2⟩:=key;rw[hk2]at hs;simp only[GStep.after,GStep.go.injEq]at hs;obtain⟨h1,rfl,h3⟩:=hs;refine⟨rfl,fun u u' es' XP=>?_⟩;rw[Qf _ _ _ _ _ XP,hk2];simp only[GStep.after,Array.append_empty,h1]
    ·exfalso;rw[hu]at hs;unfold unwind at hs;rw[hd]at hs;simp only[um,g1,hrun]at hs;cases h<;>cases hs
theorem Dy(hT:gY P T)(hG:oJ P T Sb)(h:AG T d fr c)(hl:¬Leave fr c):StepT P Sb fr c:=by
 obtain⟨out,⟨hf,hmo⟩,hw⟩:=h;by_cases hm:fr.mode=.run
 ·have hr:m9 T d fr out:=by unfold gQ at hmo;rw[hm]at hmo;exact hmo
  exact Mv hT hG hf hr hm
 ·exact Dx hT hG hf hw hm hl
end
end
section
open Go Go.Conc
section
variable {P:Program}{T:gI}{Sb:Nat->Prop}{d:Nat}{fr gC:Frame}{c c1:List Frame}{v v1 w:World}{es:Array Event}
theorem tR(hT:gY P T)(hG:oJ P T Sb)(hS:AG T d fr c)(hl:¬Leave fr c)(hs:eJ Sb v w)(hv:∀cs,stepG P true (G fr (c++cs)) v=.go (G gC (c1++cs)) v1 es)(hp:iT gC c1)(hag:Km v w (v1.drawn-v.drawn)):
 (v1.tape=v.tape/\v.drawn<=v1.drawn)/\∃w1 es',(∀cs,stepG P true (G fr (c++cs)) w=.go (G gC (c1++cs)) w1 es')/\eJ Sb v1 w1/\w1.tape=w.tape/\w1.drawn=w.drawn+(v1.drawn-v.drawn)/\∀e∈es',Nj Sb e:=by
 obtain⟨α,s,hg,hst⟩:=Dy hT hG hS hl;obtain⟨r,esv,hrun⟩:∃r es,s.runT P v #[]=(r,es):=⟨_,_,rfl⟩
 cases r with
 |halt h v'=>exact absurd hp ((hst []).2 v h v' esv hrun gC c1 v1 es (hv []))
 |ok x v'=>
  obtain⟨rfl,_⟩:=(hst []).1 v x v' esv hrun gC (c1++ []) v1 es (hv []);have hr:s.run P v=.ok x v1:=by rw[<-Sem.runT_fst P s v #[],hrun]
  obtain⟨m1,m2⟩:=mX s hr;obtain⟨w1,es',h1,h2,h3,h4,h5⟩:=hg.Ar hs hr hag #[];refine⟨⟨m1,m2⟩,w1,seen P fr.fn es',fun cs=>?_,h2,h3,h4,fun e he=>?_⟩
  ·exact((hst cs).1 v x v1 esv hrun gC (c1++cs) v1 es (hv cs)).2 w w1 es' h1
  ·rcases h5 e (F8 he)with h6|h6
   ·simp at h6
   ·exact h6.1
def wt(v:World)(tp:Nat->Question->Nat)(n:Nat):World:={v with tape:=tp,drawn:=n}
theorem aaY(v:World)(tp Cc:Nat->Question->Nat)(n n':Nat):wt (wt v tp n) Cc n'=wt v Cc n':=rfl
theorem Jc(v:World)(tp:Nat->Question->Nat)(n:Nat):eJ (fun _=>False) v (wt v tp n):=⟨rfl,fun _ _=>rfl,fun _ h=>h.elim,rfl,rfl⟩
theorem UB{v:World}(h:eJ (fun _=>False) v w):w=wt v w.tape w.drawn:=by
 obtain⟨hh,ht,hd,ho,hu⟩:=v;obtain⟨hh',ht',hd',ho',hu'⟩:=w;have e1:hh=hh':=by apply Array.ext_getElem?;intro i;exact h.same i (fun h=>h)
 have e2:ho=ho':=h.os;have e3:hu=hu':=h.out;subst e1 e2 e3;rfl
theorem sH(hT:gY P T)(G4:∀g c,T.tgt g c=false)(hp:iT fr' c')(hS:AG T d fr c)(hr:runN P (n+1) (lone fr (c++ [cQ P]) v)=.next (lone fr' (c'++ [cQ P]) w')):
 ¬Leave fr c/\∃gC c1 v1 es d1,(∀cs,stepG P true (G fr (c++cs)) v=.go (G gC (c1++cs)) v1 es)/\AG T d1 gC c1/\iT gC c1/\deafBehind d es=d1/\runN P n (lone gC (c1++ [cQ P]) v1)=.next (lone fr' (c'++ [cQ P]) w'):=by
 have PU:¬Leave fr c:=fun h=>by have hc:=h.1;subst hc;exact wL hT hS h hr
 refine⟨PU,?_⟩;rcases zn hT hS v with h|h|h|h
 ·obtain⟨gC,c1,v1,es,d1,hs,oN,hd⟩:=h;have hst:step P (lone fr (c++ [cQ P]) v)=.next (lone gC (c1++ [cQ P]) v1):=step_solo_go (a:=G fr (c++ [cQ P])) rfl (hs _)
  have hr':=hr;unfold runN at hr';rw[hst]at hr';obtain⟨hp1,_⟩:=Cd hT hp n oN hr' (fun k f' q u _ _ ht=>by obtain⟨_,c,k',_,h⟩:=ht;rw[G4]at h;cases h)
  exact⟨gC,c1,v1,es,d1,hs,oN,hp1,(hd hp1).2,hr'⟩
 ·exfalso;rcases h [cQ P]with⟨o,w1,es,he⟩|⟨g1,w1,es,he,hg⟩|⟨g1,g2,w1,es,he⟩
  ·unfold runN at hr;rw[lone_eq_solo,gA rfl he]at hr;cases hr
  ·unfold runN at hr;rw[lone_eq_solo,step_solo_go rfl he]at hr;exact sI n hg hr
  ·unfold runN at hr;have e2:step P (lone fr (c++ [cQ P]) v)=.next (duo g1 g2 w1 none):=by rw[lone_eq_solo,step,stepT_solo rfl,runT_solo_spawn he]
   rw[e2]at hr;exact sJ n (by simp[duo]) hr
 ·obtain⟨_,c,k',_,h⟩:=h;rw[G4]at h;cases h
 ·exact absurd h PU
def Reach(P:Program)(Q:Frame->List Frame->World->Prop)(fr:Frame)(c:List Frame)(v:World):Prop:=∃N fr' c' v',runN P N (lone fr (c++ [cQ P]) v)=.next (lone fr' (c'++ [cQ P]) v')/\Q fr' c' v'/\iT fr' c'
theorem oz(hs:∀cs,stepG P true (G fr (c++cs)) v=.go (G gC (c1++cs)) v1 es):step P (lone fr (c++ [cQ P]) v)=.next (lone gC (c1++ [cQ P]) v1):=step_solo_go (a:=G fr (c++ [cQ P])) rfl (hs _)
theorem wM(hT:gY P T)(hG:oJ P T (fun _=>False))(G4:∀g c,T.tgt g c=false){Q:Frame->List Frame->World->Prop}(hQ:∀fr c v tp n,Q fr c v->Q fr c (wt v tp n)):∀(N:Nat) {d:Nat} {fr:Frame} {c:List Frame} {v:World} {fr':Frame} {c':List Frame} {v':World} (tp:Nat->Question->Nat) (n:Nat),AG T d fr c->iT fr' c'->Q fr' c' v'->
 runN P N (lone fr (c++ [cQ P]) v)=.next (lone fr' (c'++ [cQ P]) v')->(∀m q,v.tape (v.drawn+m) q=tp (n+m) q)->Reach P Q fr c (wt v tp n)
 | 0,d,fr,c,v,fr',c',v',tp,n,hS,hp,hq,hr,ha=>by simp only[runN,Stepped.next.injEq]at hr;obtain⟨rfl,h2,rfl⟩:=lH hr;obtain rfl:c=c':=zb5 h2;exact⟨0,fr,c,wt v tp n,rfl,hQ _ _ _ _ _ hq,hp⟩
 |N+1,d,fr,c,v,fr',c',v',tp,n,hS,hp,hq,hr,ha=>by
  obtain⟨PU,gC,c1,v1,es,d1,hs,oN,hp1,_,GR⟩:=sH hT G4 hp hS hr;obtain⟨⟨m1,m2⟩,w1,es',g1,g2,g3,g4,_⟩:=tR hT hG hS PU (Jc v tp n) hs hp1 (fun k _ q=>ha k q);have e1:=UB g2;obtain⟨N',f2,c2,u2,h1,h2,h3⟩:=wM hT hG G4 hQ N (v:=v1) tp (n+(v1.drawn-v.drawn)) oN hp hq GR (fun m q=>by have:=ha (m+(v1.drawn-v.drawn)) q;rw[m1,show v1.drawn+m=v.drawn+(m+(v1.drawn-v.drawn)) by omega,show n+(v1.drawn-v.drawn)+m=n+(m+(v1.drawn-v.drawn)) by omega];exact this)
  have e2:w1=wt v1 tp (n+(v1.drawn-v.drawn)):=by rw[e1,g3,g4];rfl
  refine⟨N'+1,f2,c2,u2,?_,h2,h3⟩;unfold runN;rw[oz g1,e2];exact h1
inductive Ev(P:Program)(Q:Frame->List Frame->World->Prop):Frame->List Frame->World->Prop
 |done {fr:Frame} {c:List Frame} {v:World}:Q fr c v->iT fr c->Ev P Q fr c v
 |step {fr:Frame} {c:List Frame} {v:World} (F:(Nat->Question->Nat)->Nat->Frame) (C:(Nat->Question->Nat)->Nat->List Frame) (W:(Nat->Question->Nat)->Nat->World) (E:(Nat->Question->Nat)->Nat->Array Event):¬Leave fr c->
  (∀tp n cs,stepG P true (G fr (c++cs)) (wt v tp n)=.go (G (F tp n) (C tp n++cs)) (W tp n) (E tp n))->(∀tp n,iT (F tp n) (C tp n))->(∀tp n,Ev P Q (F tp n) (C tp n) (W tp n))->Ev P Q fr c v
def WR(P:Program)(T:gI)(Q:Frame->List Frame->World->Prop)(x:Frame×List Frame×World):Prop:=
 (∃d,AG T d x.1 x.2.1)/\¬Ev P Q x.1 x.2.1 x.2.2/\∀tp n,Reach P Q x.1 x.2.1 (wt x.2.2 tp n)
theorem Qg(hT:gY P T)(hG:oJ P T (fun _=>False))(G4:∀g c,T.tgt g c=false)(hQ:∀fr c v tp n,Q fr c v->Q fr c (wt v tp n))(x:Frame×List Frame×World)(hx:WR P T Q x):
 ∃(y:Frame×List Frame×World) (tp:Nat->Question->Nat) (k:Nat),WR P T Q y/\∀(Cc:Nat->Question->Nat) (n':Nat),(∀m,m<k->∀q,Cc (n'+m) q=tp m q)->∃es,∀cs,stepG P true (G x.1 (x.2.1++cs)) (wt x.2.2 Cc n')=.go (G y.1 (y.2.1++cs)) (wt y.2.2 Cc (n'+k)) es:=by
 obtain⟨fr,c,v⟩:=x;obtain⟨⟨d,hS⟩,hE,hR⟩:=hx;simp only at hS hE hR;have hnq:∀tp n,iT fr c->¬Q fr c (wt v tp n):=fun tp n hp hq=>hE (.done (by have:=hQ _ _ _ v.tape v.drawn hq;exact this) hp);have PU:¬Leave fr c:=fun hl=>by
  obtain⟨N,fr',c',v',h1,h2,h3⟩:=hR (fun _ _=>0) 0;cases N with
  |zero=>
   simp only[runN,Stepped.next.injEq]at h1;obtain⟨rfl,h5,rfl⟩:=lH h1;obtain rfl:c=c':=zb5 h5;exact hnq _ _ h3 h2
  |succ N=>exact(sH hT G4 h3 hS h1).1 hl
 have h1:∃tp n,¬∃gC c1 v1 es,(∀cs,stepG P true (G fr (c++cs)) (wt v tp n)=.go (G gC (c1++cs)) v1 es)/\iT gC c1/\Ev P Q gC c1 v1:=by
  apply Classical.byContradiction;intro hno;have ha:=fun tp n=>Classical.byContradiction fun h=>hno ⟨tp,n,h⟩;exact hE (.step (fun tp n=>(ha tp n).choose) (fun tp n=>(ha tp n).choose_spec.choose) (fun tp n=>(ha tp n).choose_spec.choose_spec.choose) (fun tp n=>(ha tp n).choose_spec.choose_spec.choose_spec.choose) PU
   (fun tp n=>(ha tp n).choose_spec.choose_spec.choose_spec.choose_spec.1) (fun tp n=>(ha tp n).choose_spec.choose_spec.choose_spec.choose_spec.2.1) (fun tp n=>(ha tp n).choose_spec.choose_spec.choose_spec.choose_spec.2.2))
 obtain⟨tp,n,h1⟩:=h1;obtain⟨N,fr',c',v',h2,h3,h4⟩:=hR tp n;cases N with
 |zero=>
  exfalso;simp only[runN,Stepped.next.injEq]at h2;obtain⟨rfl,h5,rfl⟩:=lH h2;obtain rfl:c=c':=zb5 h5;exact hnq _ _ h4 h3
 |succ N=>
  obtain⟨_,gC,c1,v1,es,d1,hs,oN,hp1,_,GR⟩:=sH hT G4 h4 hS h2;obtain⟨⟨m1,m2⟩,_⟩:=tR hT hG hS PU (Jc (wt v tp n) tp n) hs hp1 (fun k _ q=>rfl);have go:∀(Cc:Nat->Question->Nat) (n':Nat),(∀m,m<v1.drawn-n->∀q,Cc (n'+m) q=tp (n+m) q)->∃es,∀cs,stepG P true (G fr (c++cs)) (wt v Cc n')=.go (G gC (c1++cs)) (wt v1 Cc (n'+(v1.drawn-n))) es:=fun Cc n' ha=>by
   obtain⟨_,w1,es',g1,g2,g3,g4,_⟩:=tR hT hG hS PU (Jc (wt v tp n) Cc n') hs hp1 (fun k hk q=>(ha k hk q).symm);refine⟨es',fun cs=>?_⟩;have e2:w1=wt v1 Cc (n'+(v1.drawn-n)):=by rw[UB g2,g3,g4];rfl
   rw[<-e2];exact g1 cs
  refine⟨(gC,c1,v1),fun m=>tp (n+m),v1.drawn-n,⟨⟨d1,oN⟩,fun he=>h1 ⟨gC,c1,v1,es,hs,hp1,he⟩,fun Cc n'=>?_⟩,go⟩;let tq:Nat->Question->Nat:=fun m=>if m<v1.drawn-n then tp (n+m)else Cc (n'+(m-(v1.drawn-n)))
  obtain⟨xK,Og⟩:=go tq 0 (fun m hm q=>by simp only[tq,Nat.zero_add,hm,if_true]);obtain⟨N2,f2,c2,u2,q1,q2,q3⟩:=hR tq 0;cases N2 with
  |zero=>
   exfalso;simp only[runN,Stepped.next.injEq]at q1;obtain⟨rfl,h5,rfl⟩:=lH q1;obtain rfl:c=c2:=zb5 h5;exact hnq _ _ q3 q2
  |succ N2=>
   unfold runN at q1;rw[oz Og]at q1;simp only at q1;have:=wM hT hG G4 hQ N2 Cc n' oN q3 q2 q1 (fun m q=>by show tq (0+(v1.drawn-n)+m) q=_;simp only[tq,Nat.zero_add];rw[if_neg (by omega),show v1.drawn-n+m-(v1.drawn-n)=m by omega])
   rw[aaY]at this;exact this
theorem Mk(hT:gY P T)(hG:oJ P T (fun _=>False))(G4:∀g c,T.tgt g c=false)(hQ:∀fr c v tp n,Q fr c v->Q fr c (wt v tp n))(hS:AG T d fr c)(hR:∀tp n,Reach P Q fr c (wt v tp n)):Ev P Q fr c v:=by
 apply Classical.byContradiction;intro hE;have hx0:WR P T Q (fr,c,v):=⟨⟨d,hS⟩,hE,hR⟩
 have nx:=fun(x:{x // WR P T Q x})=>Qg hT hG G4 hQ x.1 x.2;let f:{x // WR P T Q x}->{x // WR P T Q x}:=fun x=>⟨(nx x).choose,(nx x).choose_spec.choose_spec.choose_spec.1⟩
 let σ:Nat->{x // WR P T Q x}:=fun i=>Nat.rec ⟨(fr,c,v),hx0⟩ (fun _ x=>f x) i;let tps:Nat->Nat->Question->Nat:=fun i=>(nx (σ i)).choose_spec.choose;let k:Nat->Nat:=fun i=>(nx (σ i)).choose_spec.choose_spec.choose;have hgo:∀i (Cc:Nat->Question->Nat) (n':Nat),(∀m,m<k i->∀q,Cc (n'+m) q=tps i m q)->∃es,∀cs,stepG P true (G (σ i).1.1 ((σ i).1.2.1++cs)) (wt (σ i).1.2.2 Cc n')=.go (G (σ (i+1)).1.1 ((σ (i+1)).1.2.1++cs)) (wt (σ (i+1)).1.2.2 Cc (n'+k i)) es:=fun i=>(nx (σ i)).choose_spec.choose_spec.choose_spec.2;let D:Nat->Nat:=fun i=>Nat.rec 0 (fun i s=>s+k i) i;have hD:∀i,D (i+1)=D i+k i:=fun i=>rfl;have hmono:∀i j,i<=j->D i<=D j:=by
  intro i j h;induction j with
  |zero=>obtain rfl:i=0:=by omega
         exact Nat.le_refl _
  |succ j ih=>
   rcases Nat.lt_or_ge j i with h1|h1
   ·obtain rfl:i=j+1:=by omega
    exact Nat.le_refl _
   ·have:=ih h1;rw[hD];omega
 let tz:Nat->Question->Nat:=fun m q=>open Classical in if h:∃i,D i<=m/\m<D (i+1)then tps h.choose (m-D h.choose) q else 0
 have htz:∀i m,m<k i->∀q,tz (D i+m) q=tps i m q:=by
  intro i m hm q;have hex:∃j,D j<=D i+m/\D i+m<D (j+1):=⟨i,by omega,by rw[hD];omega⟩
  have hj:=hex.choose_spec;have e:hex.choose=i:=by
   generalize hex.choose=j at hj;rcases Nat.lt_trichotomy j i with h|h|h
   ·have:=hmono (j+1) i h;omega
   ·exact h
   ·have:=hmono (i+1) j h;rw[hD]at this;omega
  have e3:tz (D i+m) q=tps hex.choose (D i+m-D hex.choose) q:=dif_pos hex;rw[e3,e,Nat.add_sub_cancel_left]
 have hrun:∀i,runN P i (lone fr (c++ [cQ P]) (wt v tz 0))=.next (lone (σ i).1.1 ((σ i).1.2.1++ [cQ P]) (wt (σ i).1.2.2 tz (D i))):=by
  intro i;induction i with
  |zero=>rfl
  |succ i ih=>
   obtain⟨es,hs⟩:=hgo i tz (D i) (htz i);rw[runN_add,ih];simp only[runN];rw[oz hs]
 obtain⟨N,fr',c',v',h1,h2,h3⟩:=hR tz 0;rw[hrun N]at h1;simp only[Stepped.next.injEq]at h1;obtain⟨e1,e2,e3⟩:=lH h1;have XN:=zb5 e2;rw[<-e1,<-XN,<-e3]at h2;rw[<-e1,<-XN]at h3;have hb:=(σ N).2.2.1;exact hb (.done (by have:=hQ _ _ _ (σ N).1.2.2.tape (σ N).1.2.2.drawn h2;exact this) h3)
end
end
section
open Go Go.Conc Go.ConcN
structure kE(Shun:Loc->Prop)(t:Trace):Prop where
 clean:∀said,¬Race said t
 known:∀i a,touchAt t i=some a->a.loc.isMemory=true->Knows t 0 i\/(Shun a.loc/\a.kind=.atomic)
 over:t.HandedOver
def J8(Sb:Nat->Prop)(l:Loc):Prop:=∃a,l=.cell a/\Sb a.block
section
variable {Shun:Loc->Prop}{t u:Trace}
theorem tE.Z0(h:tE Shun t):kE Shun t:=⟨h.clean,h.known,h.over⟩
theorem kE.ZY(h:kE Shun t)(hd:Deaf t 0=0):tE Shun t:=⟨h.clean,h.known,h.over,hd⟩
theorem kE.app0(h:kE Shun t)(hu:∀op∈u,op.g=0)(hs:∀op∈u,∀b,op.act.touch?=some b->Shun b.loc->b.kind≠.plain):kE Shun (t++u):=by
 refine⟨fun said=>noRace_append (h.clean said) hu fun i a ha op hop b hb hc=>?_,fun i a ha hm=>?_,handedOver_app h.over fun op hop=>.inl (hu op hop)⟩
 ·rcases h.known i a ha hc.2.1 with hk|⟨hsa,hka⟩
  ·exact hk
  ·have hkb:=hs op hop b hb (hc.1▸hsa);obtain⟨_,_,_,iF⟩:=hc;rw[hka]at iF;rcases iF with x|x|⟨_,x,_⟩
   ·cases x
   ·exact absurd x hkb
   ·cases x
 ·obtain⟨x,hx,PR⟩:=touch_of ha;rcases getElem?_append_cases hx with⟨_,hx'⟩|⟨_,WG⟩
  ·exact(h.known i a (by rw[touchAt_of hx'];exact PR) hm).imp (·.app u) id
  ·have:=knows_own hx;rw[hu x WG]at this;exact .inl this
theorem kE.appMute{g:Nat}(h:kE Shun t)(hu:∀op∈u,op.g=g)(hn:∀op∈u,op.act.touch?=none):kE Shun (t++u):=by
 refine⟨fun said=>noRace_append (h.clean said) hu fun i a _ op hop b hb _=>(by rw[hn op hop]at hb;cases hb),fun i a ha hm=>?_,handedOver_app h.over fun op hop=>.inr (hn op hop)⟩;obtain⟨x,hx,PR⟩:=touch_of ha;rcases getElem?_append_cases hx with⟨_,hx'⟩|⟨_,WG⟩
 ·exact(h.known i a (by rw[touchAt_of hx'];exact PR) hm).imp (·.app u) id
 ·rw[hn x WG]at PR;cases PR
theorem kE.own{Sb:Nat->Prop}(h:kE (J8 Sb) t)(hes:∀e∈es,Nj Sb e):kE (J8 Sb) (t++MemOp.ofEvents 0 fn pos es):=by refine h.app0 (fun op hop=>by obtain⟨e,_,rfl⟩:=Go.Conc.mem_ofEvents hop;rfl) (fun op hop b hb hs hk=>?_);obtain⟨e,he,rfl⟩:=Go.Conc.mem_ofEvents hop;obtain⟨a,ha,hsb⟩:=hs;exact hes e he b a hb ha hk hsb
theorem kE.mute(h:kE Shun t){g:Nat}{fn:FuncId}{pos:String}{es:Array Event}(hm:∀e∈es,e.mute=true):kE Shun (t++MemOp.ofEvents g fn pos es):=
 h.appMute (g:=g) (fun op hop=>by obtain⟨e,_,rfl⟩:=Go.Conc.mem_ofEvents hop;rfl) (fun op hop=>by obtain⟨e,he,rfl⟩:=Go.Conc.mem_ofEvents hop;exact touch_mute (hm e he))
end
structure Crowd(P:Program)(T:gI)(Sb:Nat->Prop)(d:Nat)(fr:Frame)(c cs:List Frame)(gs:Array Goroutine)(t:Trace)(q:Nat->Nat):Prop where
 at0:gs[0]?=some (G fr (c++cs))
 stk:AG T d fr c
 deaf:Deaf t 0=d
 lv:Leavers P t gs q
 past:kE (J8 Sb) t
 bd:∀(i:Nat) (op:MemOp),t[i]?=some op->op.g<gs.size
theorem IY{g:Nat}(h:∀(i:Nat) (op:MemOp),t[i]?=some op->op.g<n)(hg:g<n)(i:Nat)(op:MemOp)(hi:(t++MemOp.ofEvents g fn pos es)[i]?=some op):op.g<n:=by
 rcases getElem?_append_cases hi with⟨_,h1⟩|⟨_,h1⟩
 ·exact h i op h1
 ·obtain⟨e,_,rfl⟩:=Go.Conc.mem_ofEvents h1;exact hg
section
variable {P:Program}{T:gI}{Sb:Nat->Prop}
theorem AY{P:Program}{g:Goroutine}(h:stepG P true g w=.go (G gC c1) w1 es)(gs0:gs[0]?=some g)(sl:Option (Nat×Nat)):runT P (crowd gs w sl) 0=(.next (crowd ((gs.map (woken P g (G gC c1) w1)).setIfInBounds 0 (G gC c1)) w1 sl),MemOp.ofEvents 0 g.frame.fn g.frame.place es):=runT_crowd_go (P:=P) (sl:=sl) (i:=0) gs0 (show stepG P (0 == 0) g w=_ from h)
theorem Mj(hT:gY P T)(hG:oJ P T Sb)(G4:∀g c,T.tgt g c=false){v:World}(hE:Ev P Q fr c v):∀(M d:Nat) (gs:Array Goroutine) (w:World) (sl:Option (Nat×Nat)) (t:Trace) (q:Nat->Nat),sumTo gs.size q=M->eJ Sb v w->Crowd P T Sb d fr c cs gs t q->
 ∃N gs' fr' c' v' w' sl' t' q' d',runNT P N (crowd gs w sl) t=(.next (crowd gs' w' sl'),t')/\gs'.size=gs.size/\Q fr' c' v'/\eJ Sb v' w'/\Crowd P T Sb d' fr' c' cs gs' t' q':=by
 induction hE with
 |done hq hp=>
  intro M d gs w sl t q hM hs hC;exact⟨0,gs,_,_,_,w,sl,t,q,d,rfl,rfl,hq,hs,hC⟩
 |step F C W E PU hstep hnp hev ih=>
  rename_i fr c v;intro M;induction M using Nat.strongRecOn with
  |_ M ihM=>
   intro d gs w sl t q hM hs hC;have h0:=hC.at0;have hL:=hC.lv;have WI:0<gs.size:=(zb3.1 h0).1;have TV:∀g∈gs,awake g:=by
    intro g hg;obtain⟨i,hi,rfl⟩:=Array.mem_iff_getElem.1 hg;rcases zb6 i with rfl|hpos
    ·have:gs[0]=G fr (c++cs):=by simpa[Array.getElem?_eq_getElem hi]using h0
     rw[this];exact awake_of (.inl rfl)
    ·exact awake_of ((hL.old i _ hpos (Array.getElem?_eq_getElem hi)).status.elim .inl fun x=>.inr (.inr x))
   obtain⟨i,g,n,sl',hi,hg,hst⟩:=crowd_pick (P:=P) (w:=w) (sl:=sl) TV ⟨0,_,h0,rfl⟩;rcases zb6 i with rfl|hpos
   ·obtain rfl:g=G fr (c++cs):=by rw[h0]at hi;exact(Option.some.inj hi).symm
    have Og:eJ Sb (wt v w.tape n) (w.at n):=⟨hs.size,hs.same,hs.gu,hs.os,hs.out⟩
    obtain⟨_,w1,es',g1,g2,g3,g4,g5⟩:=tR hT hG hC.stk PU Og (hstep w.tape n) (hnp w.tape n) (fun k _ q=>rfl);have M7:AG T (deafBehind d es') (F w.tape n) (C w.tape n):=by
     rcases zn hT hC.stk (w.at n)with h|h|h|h
     ·obtain⟨gC,c1,w2,xK,d1,hs1,oN,hd⟩:=h;have e0:=(g1 []).symm.trans (hs1 []);simp only[List.append_nil,GStep.go.injEq]at e0;obtain⟨e1,rfl,rfl⟩:=e0;have ef:F w.tape n=gC:=congrArg Goroutine.frame e1;have ec:C w.tape n=c1:=congrArg Goroutine.callers e1;have hp1:=hnp w.tape n;rw[ef,ec]at hp1⊢;rw[(hd hp1).2];exact oN
     ·exfalso;rcases h []with⟨o,w2,xK,he⟩|⟨g2,w2,xK,he,hdg⟩|⟨ga,gb,w2,xK,he⟩
      ·rw[g1]at he;cases he
      ·rw[g1]at he;cases he;rcases hdg with h2|h2|⟨_,dd,f,h2,_⟩ <;>cases h2
      ·rw[g1]at he;cases he
     ·obtain⟨_,cc,k',_,h⟩:=h;rw[G4]at h;cases h
     ·exact absurd h PU
    have zq:=AY (g1 cs) h0 sl';have hsz:((gs.map (woken P (G fr (c++cs)) (G (F w.tape n) (C w.tape n++cs)) w1)).setIfInBounds 0 (G (F w.tape n) (C w.tape n++cs))).size=gs.size:=by simp
    obtain⟨N,gs',fr',c',v',w',VO,t',q',d',r1,r2,r3,r4,r5⟩:=ih w.tape n (sumTo gs.size q) (deafBehind d es') ((gs.map (woken P (G fr (c++cs)) (G (F w.tape n) (C w.tape n++cs)) w1)).setIfInBounds 0 (G (F w.tape n) (C w.tape n++cs))) w1 sl' (t++MemOp.ofEvents 0 fr.fn fr.place es') q (by rw[hsz]) g2
     ⟨by simp[WI],M7,by rw[Deaf_own,hC.deaf],⟨fun j x hj hx=>by
         have hne:0≠j:=by omega
         rw[zb4 hne,Array.getElem?_map]at hx;obtain⟨y,hy,rfl⟩:=zb7.1 hx;have hq:=hL.old j y hj hy;rw[woken_quitsD hq,Deaf_other t (by omega) _ (fun op hop=>by obtain⟨e,_,rfl⟩:=Go.Conc.mem_ofEvents hop;rfl)];exact hq,fun j hj=>by rw[Deaf_other t (g':=0) (by simp at hj;omega) _ (fun op hop=>by obtain⟨e,_,rfl⟩:=Go.Conc.mem_ofEvents hop;rfl)];exact hL.above j (by simpa using hj)⟩,hC.past.own g5,fun j op hj=>by rw[hsz];exact IY hC.bd WI j op hj⟩
    refine⟨N+1,gs',fr',c',v',w',VO,t',q',d',?_,r2.trans hsz,r3,r4,r5⟩;simp only[runNT,hst,zq];exact r1
   ·have hq:=hL.old i g hpos hi;have hi0:(i == 0)=false:=by simp;omega
    have hlt:i<gs.size:=(zb3.1 hi).1;cases Kj:q i with
    |zero=>rw[Kj]at hq;rw[hq.1]at hg;cases hg
    |succ k=>
     rw[Kj]at hq;rcases hq with⟨hf,_⟩|⟨_,g',es,hm,PV,fU⟩
     ·rw[hf]at hg;cases hg
     have zq:=runT_crowd_go (P:=P) (sl:=sl') (i:=i) hi (by rw[hi0];exact PV (w.at n));have hsz:((gs.map (woken P g g' (w.at n))).setIfInBounds i g').size=gs.size:=by simp
     have hsum:sumTo gs.size (Go.ConcN.upd q i k)+(k+1)=sumTo gs.size q+k:=by have:=sumTo_upd q k id hlt;simpa[Kj]using this
     obtain⟨N,gs',fr',c',v',w',VO,t',q',d',r1,r2,r3,r4,r5⟩:=ihM (sumTo gs.size (Go.ConcN.upd q i k)) (by omega) d ((gs.map (woken P g g' (w.at n))).setIfInBounds i g') (w.at n) sl' (t++MemOp.ofEvents i g.frame.fn g.frame.place es) (Go.ConcN.upd q i k) (by rw[hsz])
      ⟨hs.size,hs.same,hs.gu,hs.os,hs.out⟩
      ⟨by
        have hne:i≠0:=by omega
        rw[zb4 hne,Array.getElem?_map,h0];simp[woken_run (show (G fr (c++cs)).status=.running from rfl)],hC.stk,by rw[Deaf_other t (g':=i) (by omega) _ (fun op hop=>by obtain⟨e,_,rfl⟩:=Go.Conc.mem_ofEvents hop;rfl)];exact hC.deaf,⟨fun j x hj hx=>by
        by_cases hji:i=j
        ·subst hji;rw[Array.getElem?_setIfInBounds_self_of_lt (by simpa using hlt)]at hx;obtain rfl:=Option.some.inj hx;rw[Go.ConcN.upd_same,Deaf_own];exact fU
        ·rw[zb4 hji,Array.getElem?_map]at hx;obtain⟨y,hy,rfl⟩:=zb7.1 hx;have hqj:=hL.old j y hj hy;rw[woken_quitsD hqj,Go.ConcN.upd_ne q k (Ne.symm hji),Deaf_other t hji _ (fun op hop=>by obtain⟨e,_,rfl⟩:=Go.Conc.mem_ofEvents hop;rfl)];exact hqj,fun j hj=>by rw[Deaf_other t (g':=i) (by simp at hj;omega) _ (fun op hop=>by obtain⟨e,_,rfl⟩:=Go.Conc.mem_ofEvents hop;rfl)];exact hL.above j (by simpa using hj)⟩,hC.past.mute hm,fun j op hj=>by rw[hsz];exact IY hC.bd hlt j op hj⟩
     refine⟨N+1,gs',fr',c',v',w',VO,t',q',d',?_,r2.trans hsz,r3,r4,r5⟩;simp only[runNT,hst,zq];exact r1
end
end
section
open Go Go.Conc Go.ConcN
noncomputable def gu(Sb:Nat->Prop)(w:World):World:={w with heap:=w.heap.mapIdx fun i o=>open Classical in if Sb i then(match o with|.cells c t _=>.pending c t|o=>o)else o}
def CX(Sb:Nat->Prop)(w:World):Prop:=∀b,Sb b->∃c t,c.size≠0/\w.heap[b]?=some (.cells c t (0,0))
section
variable {P:Program}{T:gI}{Sb:Nat->Prop}
theorem yP(h:CX Sb w):eJ Sb (gu Sb w) w:=by
 refine⟨by simp[gu],fun i hi=>?_,fun i hi=>?_,rfl,rfl⟩
 ·simp only[gu,Array.getElem?_mapIdx,if_neg hi];cases w.heap[i]? <;>rfl
 ·obtain⟨c,t,h0,h1⟩:=h i hi;refine⟨c,t,h0,?_,h1⟩;simp only[gu,Array.getElem?_mapIdx,h1,Option.map_some,if_pos hi]
theorem OA{v:World}(h:eJ (fun _=>False) v w):v.heap=w.heap:=by apply Array.ext_getElem?;intro i;exact h.same i fun h=>h
theorem Dj(hT:gY P T)(hG:∀Sb,oJ P T Sb)(G4:∀g c,T.tgt g c=false)(hQ:∀fr c v tp n,Q fr c v->Q fr c (wt v tp n)){q:Nat->Nat}(hC:Crowd P T Sb d fr c cs gs t q)(hw:CX Sb w)(hR:∀tp n,Reach P Q fr c (wt (gu Sb w) tp n))(sl:Option (Nat×Nat)):
 ∃N gs' fr' c' v' w' sl' t' q' d',runNT P N (crowd gs w sl) t=(.next (crowd gs' w' sl'),t')/\gs'.size=gs.size/\Q fr' c' v'/\eJ Sb v' w'/\Crowd P T Sb d' fr' c' cs gs' t' q':=
 Mj hT (hG Sb) G4 (Mk hT (hG _) G4 hQ hC.stk hR) _ d gs w sl t q rfl (yP hw) hC
theorem mS{m1:Machine}{t1:Trace}:∀(a:Nat) {m:Machine} {t:Trace} (b:Nat),runNT P a m t=(.next m1,t1)->runNT P (a+b) m t=runNT P b m1 t1
 | 0,m,t,b,h=>by simp only[runNT,Prod.mk.injEq,Stepped.next.injEq]at h;obtain⟨rfl,rfl⟩:=h;rw[Nat.zero_add]
 |a+1,m,t,b,h=>by
  rw[Nat.add_right_comm];simp only[runNT]at h⊢;cases hs:stepT P m with
  |mk s ops=>
   rw[hs]at h;cases s with
   |next m'=>simp only at h⊢;exact mS a b h
   |ended o w=>simp only at h;cases h
theorem Dk(gs:Array Goroutine)(h:gs.size=1):Leavers P #[] gs (fun _=>0):=⟨fun i g hi hg=>by have:=(zb3.1 hg).1;omega,fun j _=>rfl⟩
theorem E9(hS:AG T 0 fr []):Crowd P T (fun _=>False) 0 fr [] [] #[G fr []] #[] (fun _=>0):=by
 refine⟨rfl,hS,rfl,Dk _ rfl,⟨fun said=>?_,fun i a ha=>?_,fun i g hg=>?_⟩,fun i op h=>by simp at h⟩
 ·rintro⟨i,j,_,⟨a,b,ha,_⟩,_⟩;simp[Trace.act?]at ha
 ·obtain⟨x,hx,_⟩:=touch_of ha;simp at hx
 ·simp[Trace.g?]at hg
theorem Ij{Post:Value->World->Prop}:∀(M:Nat) (d:Nat) (gs:Array Goroutine) (w:World) (sl:Option (Nat×Nat)) (t:Trace) (q:Nat->Nat),sumTo gs.size q=M->Crowd P T Sb d fr [] [] gs t q->(∀n,stepG P true (G fr []) (w.at n)=.ended (.done x) (w.at n) #[]/\Post x (w.at n))->
 ∃N last o w' t',runNT P (N+1) (crowd gs w sl) t=(.ended o w',t')/\runN P N (crowd gs w sl)=.next last/\step P last=.ended o w'/\Conc.Good P Post last o w' t':=by
 intro M;induction M using Nat.strongRecOn with
 |_ M ihM=>
  intro d gs w sl t q hM hC hend;have h0:=hC.at0;have hL:=hC.lv;have WI:0<gs.size:=(zb3.1 h0).1;have TV:∀g∈gs,awake g:=by
   intro g hg;obtain⟨i,hi,rfl⟩:=Array.mem_iff_getElem.1 hg;rcases zb6 i with rfl|hpos
   ·have:gs[0]=G fr ([]++ []):=by simpa[Array.getElem?_eq_getElem hi]using h0
    rw[this];exact awake_of (.inl rfl)
   ·exact awake_of ((hL.old i _ hpos (Array.getElem?_eq_getElem hi)).status.elim .inl fun x=>.inr (.inr x))
  obtain⟨i,g,n,sl',hi,hg,hst⟩:=crowd_pick (P:=P) (w:=w) (sl:=sl) TV ⟨0,_,h0,rfl⟩;rcases zb6 i with rfl|hpos
  ·obtain rfl:g=G fr []:=by rw[h0]at hi;exact(Option.some.inj hi).symm
   obtain⟨he,hp⟩:=hend n;have zq:=runT_many_ended (P:=P) (sl:=sl') (i:=0) hi (show stepG P (0 == 0) (G fr []) (w.at n)=_ from he);have hP':=hC.past.own (fn:=fr.fn) (pos:=fr.place) (es:=#[]) (fun e he=>by simp at he);have ht0:stepT P (crowd gs w sl)=(.ended (.done x) (w.at n),MemOp.ofEvents 0 fr.fn fr.place #[]):=hst.trans zq;refine⟨0,crowd gs w sl,.done x,w.at n,t++MemOp.ofEvents 0 fr.fn fr.place #[],by simp only[runNT,ht0],rfl,by rw[step,ht0],x,rfl,hp,hP'.clean,hP'.over,⟨fun y hy=>?_,rfl⟩,fun j y hy hj=>?_⟩
   ·obtain⟨j,hj⟩:=List.mem_iff_getElem?.1 hy;rw[List.getElem?_drop]at hj;exact⟨_,(hL.old (1+j) y (by omega) (by simpa[crowd]using hj)).leaves⟩
   ·have hq:=hL.old j y (by omega) hy;refine⟨q j,?_⟩;have e:(t++MemOp.ofEvents 0 fr.fn fr.place #[]).deaf j (t++MemOp.ofEvents 0 fr.fn fr.place #[]).size=Deaf t j:=
     Deaf_other t (g:=j) (g':=0) (by omega) _ (fun op hop=>by obtain⟨e,_,rfl⟩:=Go.Conc.mem_ofEvents hop;rfl)
    rw[e];exact hq.hears _
  ·have hq:=hL.old i g hpos hi;have hi0:(i == 0)=false:=by simp;omega
   have hlt:i<gs.size:=(zb3.1 hi).1;cases Kj:q i with
   |zero=>rw[Kj]at hq;rw[hq.1]at hg;cases hg
   |succ k=>
    rw[Kj]at hq;rcases hq with⟨hf,_⟩|⟨_,g',es,hm,PV,fU⟩
    ·rw[hf]at hg;cases hg
    have zq:=runT_crowd_go (P:=P) (sl:=sl') (i:=i) hi (by rw[hi0];exact PV (w.at n));have hsz:((gs.map (woken P g g' (w.at n))).setIfInBounds i g').size=gs.size:=by simp
    have hsum:sumTo gs.size (Go.ConcN.upd q i k)+(k+1)=sumTo gs.size q+k:=by have:=sumTo_upd q k id hlt;simpa[Kj]using this
    obtain⟨N,last,o,w',t',r1,r2,r3,r4⟩:=ihM (sumTo gs.size (Go.ConcN.upd q i k)) (by omega) d ((gs.map (woken P g g' (w.at n))).setIfInBounds i g') (w.at n) sl' (t++MemOp.ofEvents i g.frame.fn g.frame.place es) (Go.ConcN.upd q i k) (by rw[hsz])
     ⟨by
       have hne:i≠0:=by omega
       rw[zb4 hne,Array.getElem?_map,h0];simp[woken_run (show (G fr []).status=.running from rfl)],hC.stk,by rw[Deaf_other t (g':=i) (by omega) _ (fun op hop=>by obtain⟨e,_,rfl⟩:=Go.Conc.mem_ofEvents hop;rfl)];exact hC.deaf,⟨fun j x hj hx=>by
       by_cases hji:i=j
       ·subst hji;rw[Array.getElem?_setIfInBounds_self_of_lt (by simpa using hlt)]at hx;obtain rfl:=Option.some.inj hx;rw[Go.ConcN.upd_same,Deaf_own];exact fU
       ·rw[zb4 hji,Array.getElem?_map]at hx;obtain⟨y,hy,rfl⟩:=zb7.1 hx;have hqj:=hL.old j y hj hy;rw[woken_quitsD hqj,Go.ConcN.upd_ne q k (Ne.symm hji),Deaf_other t hji _ (fun op hop=>by obtain⟨e,_,rfl⟩:=Go.Conc.mem_ofEvents hop;rfl)];exact hqj,fun j hj=>by rw[Deaf_other t (g':=i) (by simp at hj;omega) _ (fun op hop=>by obtain⟨e,_,rfl⟩:=Go.Conc.mem_ofEvents hop;rfl)];exact hL.above j (by simpa using hj)⟩,hC.past.mute hm,fun j op hj=>by rw[hsz];exact IY hC.bd hlt j op hj⟩ (fun n'=>hend n')
    have aaT:stepT P (crowd gs w sl)=(.next (crowd ((gs.map (woken P g g' (w.at n))).setIfInBounds i g') (w.at n) sl'),MemOp.ofEvents i g.frame.fn g.frame.place es):=hst.trans zq;refine⟨N+1,last,o,w',t',?_,?_,r3,r4⟩
    ·rw[show N+1+1=(N+1)+1 from rfl];simp only[runNT,aaT]at r1⊢;exact r1
    ·rw[runN_succ_next aaT];exact r2
end
end
section
open Go Go.Conc
def To(P:Program)(Q:Frame->List Frame->World->Prop)(fr:Frame)(c:List Frame)(w:World):Prop:=∀cs,∃fr' c' w',Q fr' c' w'/\Steps P (lone fr (c++cs) w) (lone fr' (c'++cs) w')
section
variable {P:Program}{Q Q':Frame->List Frame->World->Prop}{fr gC b:Frame}{c c1:List Frame}{w w1:World}{a:Act}{k:List Item}{x rest:Code}
theorem To.done(h:Q fr c w):To P Q fr c w:=fun _=>⟨fr,c,w,h,.refl P _⟩
theorem To.then(h:To P Q fr c w)(hq:∀fr c w,Q fr c w->To P Q' fr c w):To P Q' fr c w:=fun cs=>by obtain⟨f1,c1,w1,h1,s1⟩:=h cs;obtain⟨f2,c2,w2,h2,s2⟩:=hq f1 c1 w1 h1 cs;exact⟨f2,c2,w2,h2,s1.trans s2⟩
theorem To.step(hs:∀cs,step P (lone fr (c++cs) w)=.next (lone gC (c1++cs) w1))(h:To P Q gC c1 w1):To P Q fr c w:=fun cs=>by obtain⟨f2,c2,w2,h2,s2⟩:=h cs;exact⟨f2,c2,w2,h2,.head (hs cs) s2⟩
theorem To.code{R:Act->World->Prop}(hx:x.wp P (Exit.then R fun _ _ _=>False) a w)(h:∀a' w',R a' w'->To P Q (b.at a' k) c w'):To P Q (b.at a (.code x :: k)) c w:=fun cs=>by
 obtain⟨e,a',w',hq,Lt⟩:=hx b k (c++cs);cases e with
 |normal=>
  obtain⟨f2,c2,w2,h2,s2⟩:=h a' w' hq cs;exact⟨f2,c2,w2,h2,Steps.trans Lt s2⟩
 |_=>exact hq.elim
theorem To.gP(h:∀K:Act->World->Prop,(∀a w,To P Q (b.at a (.code rest :: k)) c w->K a w)->x.wp P (Exit.then K fun _ _ _=>False) a w):To P Q (b.at a (.code (x.seq rest):: k)) c w:=
 .step (fun _=>step_seq) (.code (h _ fun _ _ h=>h) fun _ _ h=>h)
theorem To.last{R:Act->World->Prop}(hx:x.wp P (fun e a w=>(e=.normal\/e=.ret)/\R a w) a w)(hk:k= [])(h:∀a' todo w',R a' w'->To P Q {b.at a' todo with mode:=.returning} c w'):To P Q (b.at a (.code x :: k)) c w:=fun cs=>by
 subst hk;obtain⟨e,a',w',⟨he,hq⟩,Lt⟩:=hx b [] (c++cs);rcases he with rfl|rfl
 ·obtain⟨f2,c2,w2,h2,s2⟩:=h a' [] w' hq cs;exact⟨f2,c2,w2,h2,Steps.trans Lt (.head step_end s2)⟩
 ·obtain⟨todo,hst⟩:=Lt;obtain⟨f2,c2,w2,h2,s2⟩:=h a' todo w' hq cs;exact⟨f2,c2,w2,h2,Steps.trans hst s2⟩
theorem To.region{id:Nat}{ops:Array Oper}(h:To P Q (b.at a (.inRegion ops (List.range ops.size):: k)) c w):To P Q (b.at a (.code (.region id ops false):: k)) c w:=.step (fun _=>step_region) h
theorem To.ops{ops:Array Oper}{is:List Nat}{R:Act->World->Prop}(hx:wpOps P ops (Exit.then R fun _ _ _=>False) is a w)(h:∀a' w',R a' w'->To P Q (b.at a' k) c w'):To P Q (b.at a (.inRegion ops is :: k)) c w:=fun cs=>by
 obtain⟨e,a',w',hq,Lt⟩:=wp_ops is a w hx b k (c++cs);cases e with
 |normal=>
  obtain⟨f2,c2,w2,h2,s2⟩:=h a' w' hq cs;exact⟨f2,c2,w2,h2,Steps.trans Lt s2⟩
 |_=>exact hq.elim
theorem mR(h:o.guard=none)(f:Nat->Option Bool):Region.wanted o f=true:=by unfold Region.wanted;rw[h]
theorem yF{ops:Array Oper}{E:Exit->Act->World->Prop}(j:Nat):wpOps P ops E (List.range' j (ops.toList.drop j).length)=wpList P ops E (ops.toList.drop j):=wpOps_eq_wpList _ j fun i=>by rw[List.getElem?_drop];simp
theorem To.T9{ops:Array Oper}(h:∀K:Act->World->Prop,(∀a w,To P Q (b.at a k) c w->K a w)->wpOps P ops (Exit.then K fun _ _ _=>False) is a w):To P Q (b.at a (.inRegion ops is :: k)) c w:=.ops (h _ fun _ _ h=>h) fun _ _ h=>h
theorem To.op{ops:Array Oper}(ho:ops[i]?=some o)(hw:Region.wanted o (yielded ops a.tmps)=true)(hr:(execOp a.eval o).run P w=.ok (.value v) w1)(h:To P Q (b.at (a.put o.dst v) (.inRegion ops is :: k)) c w1):To P Q (b.at a (.inRegion ops (i :: is):: k)) c w:=by refine .step (fun cs=>step_lone_go ?_) h;rw[stepG_op ho hw];simp only[stepG.apply,Sem.runT_eq,if_true,hr];rw[Frame.finish_at,ho];rfl
theorem To.enter{ops:Array Oper}{i:Nat}{is:List Nat}{o:Oper}{f:FuncId}{args:Array Value}(ho:ops[i]?=some o)(hw:Region.wanted o (yielded ops a.tmps)=true)(hr:(execOp a.eval o).run P w=.ok (.enter f args) w1)(h:To P Q (Frame.enter P f args .normal) (b.at a (.inRegion ops (i :: is):: k):: c) w1):To P Q (b.at a (.inRegion ops (i :: is):: k)) c w:=by refine .step (c1:=b.at a (.inRegion ops (i :: is):: k):: c) (fun cs=>step_lone_go ?_) h;rw[stepG_op ho hw];simp only[stepG.apply,Sem.runT_eq,if_true,hr];rfl
theorem To.leave(hl:fr.leaving P w (.returned v))(h:To P Q (cl.finish v) c w):To P Q fr (cl :: c) w:=.step (fun _=>step_leave_returned hl) h
theorem yG{ops:Array Oper}(ho:ops[i]?=some o):(b.at a (.inRegion ops (i :: is):: k)).finish v=b.at (a.put o.dst v) (.inRegion ops is :: k):=by rw[Frame.finish_at,ho];rfl
theorem enter_at{fn:Func}{body:Code}(hf:P.funcs[f]?=some fn)(hb:fn.body=some body)(args:Array Value):Frame.enter P f args .normal=({fn:=f,tmps:=#[],todo:= [],defers:= [],mode:=.run,kind:=.normal,roundOf:=none}:Frame).at ⟨args++Array.replicate (fn.ntmps-args.size) undef, []⟩ [.code body]:=by simp[Frame.enter,Frame.at,hf,hb]
theorem To.reach(h:To P Q fr c w)(hn:∀fr c w,Q fr c w->iT fr c):Reach P Q fr c w:=by obtain⟨f2,c2,w2,h2,n,hn2⟩:=h [cQ P];exact⟨n,f2,c2,w2,hn2,h2,hn _ _ _ h2⟩
end
end
end Go.Proofs.YteoahlieielcdaaGreat
