import Derived.Test.YteoahlieielcdaaGreatLaw7
import Derived.Test.YteoahlieielcdaaGreatLawG
import Derived.Test.YteoahlieielcdaaGreatJ36
set_option linter.all false
set_option maxHeartbeats 8000000
set_option maxRecDepth 100000
open Option renaming some->Y,none->F,getD_some->aa0
namespace Go.Proofs.YteoahlieielcdaaGreat
open Go.Proofs.Tryz
open Go Go.RowKit Go.Conc
def To.uh{P:aB}{Q:ak->List ak->af->Prop}{b:ak}{k:List Item}{c:List ak}{ops:Array Oper}{i:Nat}{is:List Nat}{a:Act}{w w1:af}{v:aj}{d:Nat}{op:Op}(ho:∃o,ops[i]?=Y o/\o.guard=F/\o.dst=Y d/\o.op=op)
 (h:To P Q (b.at (a.put (Y d) v) (.inRegion ops is :: k)) c w1) (hr:∀o:Oper,o.op=op->(execOp a.eval o).run P w=.ok (.value v) w1:=by intro o e;unfold execOp;rw[e];exact run_eq_of (by intro K hK;go_simp;exact hK)):To P Q (b.at a (.inRegion ops (i :: is):: k)) c w:=by obtain⟨o,q1,q2,q3,q4⟩:=ho;refine To.op q1 (qK q2 _) (hr o q4) ?_;rw[q3];exact h
def EnD(τ:Nat->Tag)(aJ rb:Nat)(m':MS)(B:RA)(l:aj)(ln n:Nat)(e:Int)(w:af)(x:Ending)(w':af):Prop:=
 ∃(b2:Option aA) (cap low high:Nat),x=.returned (.tuple #[.slice b2 ln cap,.int .i64 low,.int .i64 high,.int .i64 e])/\low<=n/\n<=high/\bh w' τ aJ rb m' B/\Stp aJ τ w τ w'/\
  ∀j,j<ln->∃(g1 c1 g2:Nat) (K V:ah) (N:Int),l=.slice (Y ⟨g1,0,F⟩) ln c1/\b2=Y ⟨g2,0,F⟩/\w'.cell? ⟨g1,j*3,F⟩=Y (.string K)/\w'.cell? ⟨g1,j*3+1,F⟩=Y (.int .i64 N)/\w'.cell? ⟨g1,j*3+2,F⟩=Y (.string V)/\w'.cell? ⟨g2,j*3,F⟩=Y (.string K)/\w'.cell? ⟨g2,j*3+1,F⟩=Y (.int .i64 N)/\w'.cell? ⟨g2,j*3+2,F⟩=Y (.string V)
structure EnX(wb:Nat)(c:Int)(a:LA)(M:List MS)(i:Nat)(m m':MS)(A:Int)(xb ln:Nat)(l:aj)(n:Nat)(e:Int)(τ:Nat->Tag)(w:af):Prop where
 base:cD w τ wb M.length c a
 st:LS w τ a (M.set i m') M
 ok:oh c m'
 old:∀(i:Nat) (m:MS),M[i]?=Y m->oh c m
 ll:∀q,((a.L q).length:Int)<=4*c
 c0:0<=c
 at_:M[i]?=Y m
 row:∃xs,w.ownsRow 0 62 3 l ln xs
 tag:∀k,l.ownBlock=Y k->τ k=(1,8,a.N)
 len:ln<=8
 nn:n<=8
 x1:w.cell? ⟨xb,1,F⟩=Y (ptr (a.rB i))
 o2:w.cell? ⟨xb+1,2,F⟩=Y (.int .i64 A)
 doc:∀B,bh w τ (3+2*i) (a.rB i) m B->Calls prog 104 #[ptr (a.rB i),.int .i64 A] w (EnD τ (3+2*i) (a.rB i) m' B l ln n e w)
noncomputable def p8:Code:=f65.body.getD .skip
noncomputable def SY:Array Oper:=opsOf (cA (cB p8))
noncomputable def enR:Code:=cB (cB p8)
def Mx:p8=.seq (cA p8) (.seq (.region 1 SY false) enR):=Yl
def Qa:List.range SY.size= [0,1,2,3,4,5,6,7,8,9,10,11]:=Yl
def Ug:List.range' 5 (SY.toList.drop 5).length= [5,6,7,8,9,10,11]:=Yl
noncomputable abbrev Yb(b:ak)(t:Act):ak:=b.at t [.inRegion SY (4 :: [5,6,7,8,9,10,11]),.code enR]
structure Yc(t:Act)(wb xb:Nat):Prop where
 d:t.defers= []
 s:t.tmps.size=105
 t0:t.tmps[0]?=Y (ptr wb)
 t4:t.tmps[4]?=Y (ptr xb)
 t5:t.tmps[5]?=Y (ptr (xb+1))
def P9:∃o,SY[4]?=Y o/\o.guard=F/\o.dst=Y 21/\∃cl:Call,o.op=.call cl/\cl.callee=.value (.func 23)/\cl.args=#[.tmp 18,.tmp 20]:=by refine⟨(SY[4]?).getD default,?_,?_,?_,(match ((SY[4]?).getD default).op with|.call cl=>cl|_=>default),?_,?_,?_⟩ <;>kernel_rfl
section
variable {w:af}{τ:Nat->Tag}{wb:Nat}{c:Int}{a:LA}{M:List MS}{i:Nat}{m m':MS}{A:Int}{xb ln:Nat}{l:aj}{n:Nat}{e:Int}{Q:ak->List ak->af->Prop}{b:ak}{t:Act}{cs:List ak}
def BR(hb:b.fn=65)(hk:b.kind=.normal)(hs:Yc t wb xb)(h:EnX wb c a M i m m' A xb ln l n e τ w)(hc:c<=1466015503690)
 (hq:∀(fr:ak) (w':af),(∀u,fr.leaving prog u (.returned (.bool true)))->kq w τ wb c w'->To prog Q fr cs w'):To prog Q ((Yb b t).finish (.tuple #[l,.int .i64 n,.int .i64 e])) cs w:=by
 obtain⟨tms,Ew⟩:=t;obtain⟨hd,hz,t0,t4,t5⟩:=hs;simp only at hd hz t0 t4 t5;subst hd;obtain⟨o,r1,r2,r3,-⟩:=P9;rw[eM r1,r3,<-Ug];clear r1 r2 r3;refine To.VZ λK hK=>?_;rw[y9];obtain⟨fv,hT,aP⟩:=WT tms hz;replace t0:=aP 0 _ t0;replace t4:=aP 4 _ t4;replace t5:=aP 5 _ t5;clear hz aP;simp only[List.range,List.range.loop,List.map_cons,List.map_nil,t0,t4,t5]at hT;subst hT;clear t0 t4 t5;obtain⟨xs,hrow⟩:=h.row;obtain⟨b1,p1,rfl⟩:=bI hrow;have HQ:Hid _:=hq;have HX:Hid (EnX wb c a M i m m' A xb ln (.slice b1 ln p1) n e τ w):=h;have x1:=h.x1;have o2:=h.o2;have hln:=h.len;have hnn:=h.nn;obtain⟨B,hR⟩:=h.st.r i m h.at_;have cr:=h.doc B hR;clear hq h hrow;unfold ptr at x1 cr⊢;dsimp only[SY,p8,cA,cB,opsOf,f65,aa0,Act.put];simp only[List.drop];go_wp2_with fail
 refine To.last (R:=λa' w'=>a'.defers= []/\a'.tmps.getD 6 undef=.bool true/\kq w τ wb c w') ?_ rfl ?_
 ·dsimp only[enR,p8,cA,cB,f65,aa0];go_wp2_with fail
  refine cr.mono ?_;rintro x w1 ⟨b2,cap,low,high,rfl,h1,h2,Yd,SR,hc1⟩;have i1:(low:Int)<=(n:Int):=I
  have i2:(n:Int)<=(high:Int):=I
  replace hc1:Hid _:=hc1;have HB:Hid (cD w1 τ wb M.length c a/\LS w1 τ a (M.set i m') (M.set i m')/\Stp (3+2*i) τ w τ w1):=⟨HX.out.base.pS SR I,HX.out.st.KJ SR Yd,SR⟩
  have hrow:∃xs,w1.ownsRow 0 62 3 (.slice b1 ln p1) ln xs:=by obtain⟨xs,hx⟩:=HX.out.row;exact⟨xs,aI hx λk hk=>SR.block k (aQ hx k hk).2 (by rw[HX.out.tag k hk];simp;omega)⟩
  replace hrow:Hid _:=hrow;clear cr x1 o2 Yd SR hR h1 h2;go_wp2_with fail
  go_loopw [14,15] (λu14 PO wr=>∃(k nq:Nat),k<=ln/\u14=.bool true/\PO=.int .i64 k/\wr=w1.drewN nq) (λ_ PO _=>ln-(intOf PO).toNat)
  case atStart=>exact⟨0,0,Nat.zero_le _,rfl,rfl,rfl⟩
  case round=>
   obtain⟨k,nq,hk',rfl,rfl,rfl⟩:=hrel;by_cases hlt:k<ln
   ·obtain⟨g1,c1,g2,K',V',N',hl,rfl,q0,q1,q2,q3,q4,q5⟩:=hc1.out k hlt;cases hl;have s1:=fj (rfl:K'=K');have s2:=fj (rfl:V'=V');have hn1:(k:Int)< (ln:Int):=I
    clear hc1;go_wp2_with fail
    go_quiet (fail)
    go_wp2_with fail
    go_roundw
    case rel=>exact⟨k+1,_,I,rfl,by go_num,rfl⟩
    case measure=>simp[intOf];omega
   ·have ID:k=ln:=I
    subst ID;obtain⟨xs,hr⟩:=hrow.out;have cg:=My (w:=w1.drewN nq) (HB.out.1.frame (λ_ _ _=>⟨rfl,rfl⟩)) hr HX.out.tag hln (by have:=HX.out.ll 0;omega) HX.out.c0 I;unfold ptr at cg;clear hr;go_wp2_with fail
    refine cg.mono ?_;rintro x w2 ⟨rfl,τ2,a2,g1,g2,g3,g4,g5⟩;clear cg;have HL:Hid (kq w τ wb c w2):=by
     have rE:Stp 1 τ w1 τ2 w2:=⟨g5.os,g5.tape,g5.output,g5.size,g5.tag,g5.block⟩
     have hc0:=HX.out.c0;exact⟨τ2,a2,M.set i m',c+1,⟨by rw[List.length_set];exact g1,(HB.out.2.1.TL rE).congr g2 g3,CV HX.out.old I ⟨by have:=HX.out.ok.1;omega,HX.out.ok.2⟩,λq=>by have:=g4 q;have:=HX.out.ll q;omega,I⟩,I,I,(HB.out.2.2.kp I).trans (rE.kp I)⟩
    go_wp2_with fail
    exact HL.out
 ·rintro a' todo w' ⟨e0,q8,hL⟩;refine HQ.out _ _ (λu=>⟨rfl,e0,hk,f65,by show prog.funcs[b.fn]?=_;rw[hb];exact func65,?_⟩) hL;rw[<-q8];exact results_tmp rfl _ _ _
def C3:∀j,j<4->∃o,SY[j]?=Y o/\o.guard=F/\o.dst=Y (17+j)/\o.op=(match j with| 0=>.fieldAddr 127 (.tmp 4) 0| 1=>.load 26 (.tmp 17)| 2=>.fieldAddr 86 (.tmp 5) 2|_=>.load 3 (.tmp 19)):=by
 intro j hj;refine⟨(SY[j]?).getD default,?_⟩;match j,hj with
 | 0,_| 1,_| 2,_| 3,_=>refine⟨?_,?_,?_,?_⟩ <;>kernel_rfl
def KN{sb rb:Nat}(kd on A B:Int)(s:ah)(it ks:aj)
 (hq:∀(b:ak) (t:Act),b.fn=65->b.kind=.normal->Yc t wb w.heap.size->To prog Q (Frame.enter prog 23 #[ptr sb,.int .i64 A] .normal) (Yb b t :: cs) ((w.alloc (.cells #[ptr sb,ptr rb] 127)).alloc (a9 kd on A B s it ks))):
 To prog Q (Frame.enter prog 65 #[ptr wb,.agg #[ptr sb,ptr rb],dS kd on A B s it ks] .normal) cs w:=by
 have HQ:Hid _:=hq;clear hq;unfold dS a9 ptr at *;rw[enter_at (body:=p8) func65 rfl,Mx];walk_nrmf ntmps65;have hx:aT (((w.alloc (.cells #[.pointer (Y ⟨sb,0,F⟩),.pointer (Y ⟨rb,0,F⟩)] 127)).alloc (.cells #[.int .i64 kd,.int .i64 on,.int .i64 A,.int .i64 B,.string s,it,ks] 86))) w.heap.size #[.pointer (Y ⟨sb,0,F⟩),.pointer (Y ⟨rb,0,F⟩)] 127:=(aT.new w _ _).of_eq (Below.heap_alloc _ _ _ XI);have hy:=aT.new (w.alloc (.cells #[.pointer (Y ⟨sb,0,F⟩),.pointer (Y ⟨rb,0,F⟩)] 127)) #[.int .i64 kd,.int .i64 on,.int .i64 A,.int .i64 B,.string s,it,ks] 86;rw[show (w.alloc (.cells #[.pointer (Y ⟨sb,0,F⟩),.pointer (Y ⟨rb,0,F⟩)] 127)).heap.size=w.heap.size+1 by simp]at hy;have e0:=hx.cell (o:=0) (v:=.pointer (Y ⟨sb,0,F⟩)) rfl;have e2:=hy.cell (o:=2) (v:=.int .i64 A) rfl;refine To.dU λK hK=>?_;dsimp only[p8,cA,cB,f65,aa0];go_wp2_with fail
 refine .step (λ_=>step_seq) (.region ?_);rw[Qa];generalize ((w.alloc (.cells #[.pointer (Y ⟨sb,0,F⟩),.pointer (Y ⟨rb,0,F⟩)] 127)).alloc (.cells #[.int .i64 kd,.int .i64 on,.int .i64 A,.int .i64 B,.string s,it,ks] 86))=W at *;refine To.uh (C3 0 I) ?_;refine To.uh (C3 1 I) ?_;refine To.uh (C3 2 I) ?_;refine To.uh (C3 3 I) ?_;obtain⟨o,r1,r2,r3,cl,r4,r5,r6⟩:=P9;refine To.call r1 r2 r4 r5 func23 Yl rfl ?_ (HQ.out _ _ rfl rfl ⟨rfl,rfl,rfl,rfl,rfl⟩);rw[r6];simp[Act.eval,Act.put]
end
end Go.Proofs.YteoahlieielcdaaGreat
