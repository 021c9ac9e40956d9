import Derived.Test.YteoahlieielcdaaGreatN11
import Derived.Test.YteoahlieielcdaaGreatLawE
set_option linter.all false
set_option maxHeartbeats 8000000
set_option maxRecDepth 100000
open Option renaming some->Y,none->F,getD_some->aa0
open Bool renaming false->E,true->Z6
open List renaming range->ab8,map_cons->ao6,map_nil->ap4,mem_cons->ar9,not_mem_nil->at5,setIfInBounds_toArray->bc4
open Go renaming step_seq->ao1,step_cond->av0,step_block->az3,step_skip->bd6,step_inLoop->bf9
open Array renaming getElem?_setIfInBounds_self_of_lt->ad8,getD_eq_getD_getElem?->al8,size_setIfInBounds->bd2
open Go.Frame renaming enter->af0
open Go.Act renaming put->at9
open List.range renaming loop->ak2
open Go.Item renaming code->bd7
namespace Go.Proofs.YteoahlieielcdaaGreat
open Go.Proofs.Tryz
open Go Go.RowKit Go.MuLone Go.Conc
abbrev zc3:=@RowKit.Below.heap_alloc
abbrev zc4:=@Nat.le_refl
abbrev zc5:=@List.getElem?_eq_getElem
abbrev zc6:=@World.cell?_of_block
abbrev zc7:=@List.mem_cons_of_mem
abbrev zc8:=@List.mem_cons
variable{k wb cap:Nat}{A n':Int}{Q:(Nat->Prop)->ak->List ak->af->Prop}{cl:ak}{c0:List ak}{t:Act}
section
structure G3(W0:af)(Sb:Nat->Prop)(τ:Nat->Tag)(v:af):Prop where
 sb:∀k,Sb k->W0.heap.size<=k/\k<v.heap.size/\(τ k).1=0
 old:∀k,k<W0.heap.size->(τ k).1=0/\v.heap[k]?=W0.heap[k]?
 size:W0.heap.size<=v.heap.size
 out:v.output=W0.output
 os:Go.ConcM.OsLater W0.os v.os
def SW(W0:af)(wb:Nat)(n:Int)(Sb:Nat->Prop)(v:af):Prop:=∃τ a M c,LW v τ wb c a M/\c<=n/\G3 W0 Sb τ v
def G2(W0:af)(wb:Nat)(n:Int)(Sb:Nat->Prop)(W:af):Prop:=∃v,cK Sb v W/\SW W0 wb n Sb v
section
variable {W0 W v v' w u:af}{Sb:Nat->Prop}{τ τ':Nat->Tag}{wb:Nat}{n c:Int}{a:LA}{M:List MS}{i:Nat}{m:MS}
def G3.left(h:G3 W0 Sb τ v)(k:vf τ v τ' v'):G3 W0 Sb τ' v':=by
 have h1:=h.size;have h2:=k.size;refine⟨λq hq=>?_,λq hq=>?_,I,k.output.trans h.out,by rw[k.os];exact h.os⟩
 ·obtain⟨g1,g2,g3⟩:=h.sb q hq;exact⟨g1,I,by rw[k.tag q g2];exact g3⟩
 ·obtain⟨g1,g2⟩:=h.old q hq;exact⟨by rw[k.tag q I];exact g1,(k.block q I g1).trans g2⟩
def G3.lone(h:G3 W0 Sb τ v)(hv:cK Sb v W)(hw:cK Sb w W):G3 W0 Sb τ w:=by have e:=j8 hv hw;exact⟨λq hq=>by rw[e];exact h.sb q hq,λq hq=>by rw[e];exact h.old q hq,by rw[e];exact h.size,(hw.out.trans hv.out.symm).trans h.out,by rw[hw.os,<-hv.os];exact h.os⟩
def LW.same(h:LW v τ wb c a M)(e:w.heap=v.heap):LW w τ wb c a M:=
 ⟨h.base.frame λk _ _=>⟨by rw[e],rfl⟩,⟨λi m hm=>(h.st.s i m hm).imp λA hA=>hA.frame λk _ _=>⟨by rw[e],rfl⟩,λi m hm=>(h.st.r i m hm).imp λA hA=>hA.frame λk _ _=>⟨by rw[e],rfl⟩⟩,h.ok,h.ll,h.c0⟩
def G2.lone(h:G2 W0 wb n Sb W)(hw:cK Sb w W):SW W0 wb n Sb w:=by obtain⟨v,hv,τ,a,M,c,h1,h2,h3⟩:=h;exact⟨τ,a,M,c,h1.same (j8 hv hw),h2,h3.lone hv hw⟩
def G3.step(h:G3 W0 Sb τ v)(hc:c<=n)(hL:kq v τ wb c w):SW W0 wb (n+1) Sb w:=by obtain⟨τ',a',M',c',h1,h2,h3,h4⟩:=hL;exact⟨τ',a',M',c',h1,I,h.left h4⟩
def Uf{s:MS}{x val:ah}(h0:k=0->val=⟨#[]⟩)(h1:∀m,k≠0->s.ws[k-1]?=Y m->gT m.items x=Y val)(hw:k≠0->∃m,s.ws[k-1]?=Y m):P5 s.ws k x=val:=by
 unfold P5;split
 ·rename_i e;exact(h0 e).symm
 ·rename_i e;obtain⟨m,hm⟩:=hw e;have:=h1 m e hm;rw[hm];unfold gT at this;simp only[valueOf];cases hf:m.items.find? (λy=>decide (y.1=x))with
  |none=>rw[hf]at this;cases this
  |some y=>rw[hf]at this;exact Option.some.inj this
def IB(τ:Nat->Tag)(ab N:Nat):Nat->Tag:=λk=>if k=ab then(1,8,N)else fresh τ ab k
def P8{r:MR}{As:SA}{ab wg xb:Nat}(h:LW w τ wb c a M)(hK:G3 W0 Sb τ w)(hm:M[i]?=Y m)(hf:dQ m A=Y r)(ha:ez r=Z6)(hS:bB w τ (2+2*i) (a.sB i) m As)(x1:w.cell? ⟨xb,1,F⟩=Y (ptr (a.rB i)))(xt:(τ xb).1=0)(o2:w.cell? ⟨xb+1,2,F⟩=Y (.int .i64 A))(ot:(τ (xb+1)).1=0)(hx0:¬Sb xb/\¬Sb (xb+1))
 (hF:OC w τ (2+2*i) (a.sB i) m As (A-1).toNat r Sb ab wg W) (hu:cK (λk=>Sb k\/k=wg) u W):
 EnX wb c a M i m (iO m (A-1).toNat r) A xb r.keys.length (.slice (Y ⟨ab,0,F⟩) r.keys.length r.keys.length) (pE m r) 0 (IB τ ab a.N) u/\G3 W0 (λk=>Sb k\/k=wg) (IB τ ab a.N) u:=by
 obtain⟨ho1,ho2,ho3⟩:=hF.abo;obtain⟨h1,h2,hr,iu⟩:=gi hf;obtain⟨k1,k8,kg,knd⟩:=hS.ok.keys _ r hr;have hfo:l7 m r:=λk y hy h0=>by obtain⟨m',e1,e2,_⟩:=hS.told.fm _ r k y hr iu hy h0;exact⟨m',e1,e2⟩
 have hca:=(h.ok i m hm).2;have hzu:=hu.size;have tk:∀k,k<w.heap.size->IB τ ab a.N k=τ k:=λk hk=>by unfold IB fresh;rw[if_neg I,if_neg I]
 have kk:∀k,k<w.heap.size->(τ k).1≠2+2*i->¬Sb k->u.heap[k]?=w.heap[k]? :=λk hk ht hs=>(hu.same k λe=>e.elim hs I).trans (hF.keep k hk ht hs);have ks:∀k,k<w.heap.size->(τ k).1≠0->¬Sb k:=λk _ ht hs=>ht (hK.sb k hs).2.2;have kc:∀{k o:Nat} {x:aj},w.cell? ⟨k,o,F⟩=Y x->(τ k).1=0->¬Sb k->u.cell? ⟨k,o,F⟩=Y x:=fun{k o x} hc ht hs=>(zc6 (kk k (World.block_lt_of_cell? _ _ hc) I hs)).trans hc;obtain⟨C,hC,hCz⟩:=hF.blk;have abX:¬(Sb ab\/ab=wg):=λe=>e.elim (λe=>by have:=(hK.sb ab e).2.1;omega) I;have hCu:aT u ab C 62:=hC.of_eq (hu.same ab abX);have tab:IB τ ab a.N ab=(1,8,a.N):=if_pos rfl;have L8:∀j,j<r.keys.length->N7 ab j (jK r j) (BF m r j:Nat) (P5 m.ws (BF m r j) (jK r j)) u:=λj hj=>by
  have hx:r.keys[j]?=Y (jK r j):=by rw[jK,List.getD_eq_getElem?_getD,zc5 hj];rfl
  obtain⟨q,val,g1,⟨g2,g3,g4⟩,g5,g6⟩:=hF.Ks hca j _ hx;obtain rfl:=g1.eq (OH hx hfo);rw[Uf g5 g6 λh0=>by obtain⟨m',e1,_⟩:=CZ (hfo j _ hx) _ h0;exact⟨m',e1⟩]
  have hc:∀o,u.cell? ⟨ab,o,F⟩=W.cell? ⟨ab,o,F⟩:=λo=>zc6 (hu.same ab abX);exact⟨(hc _).trans g2,(hc _).trans g3,(hc _).trans g4⟩
 refine⟨⟨h.base.frame λk hk ht=>⟨kk k hk I (ks k hk I),tk k hk⟩,⟨λj mj hj=>?_,λj mj hj=>?_⟩,⟨?_,hca⟩,h.ok,h.ll,h.c0,hm,⟨C.toList,?_⟩,λk hk=>?_,k8,?_,kc x1 xt hx0.1,kc o2 ot hx0.2,λB hR=>(IC hR A hf ha hfo).mono λx w' hx=>?_⟩,⟨λk hk=>?_,λk hk=>?_,by have:=hK.size;omega,hu.out.trans (hF.out.trans hK.out),?_⟩⟩
 ·rcases cS hj with⟨rfl,rfl⟩|⟨e,hj⟩
  ·refine⟨As,hF.rep.frame λk hk ht=>⟨hu.same k λe=>?_,?_⟩⟩
   ·rcases e with e|e
    ·have:=(hK.sb k e)
     unfold fresh at ht;rw[if_neg I]at ht;omega
    ·unfold fresh at ht;rw[if_pos I]at ht;simp at ht;omega
   ·unfold IB;rw[if_neg];rintro rfl;unfold fresh at ht;rw[if_pos (zc4 _)]at ht;simp at ht;omega
  ·obtain⟨B,hB⟩:=h.st.s j mj hj;exact⟨B,hB.frame λk hk ht=>⟨kk k hk I (ks k hk I),tk k hk⟩⟩
 ·obtain⟨B,hB⟩:=h.st.r j mj hj;exact⟨B,hB.frame λk hk ht=>⟨kk k hk I (ks k hk I),tk k hk⟩⟩
 ·have:=(h.ok i m hm).1;simpa[iO]using this
 ·exact⟨by simp[hCz],.inr ⟨ab,_,C,rfl,Nat.zero_le _,hCu,zc4 _,by unfold maxLen;omega,hCz,by rw[<-hCz];exact List.take_of_length_le XI⟩⟩
 ·cases hk;exact tab
 ·unfold pE;exact Nat.le_trans List.countP_le_length k8
 ·obtain⟨g,cap,rfl,q1,q2,q3⟩:=hx;obtain⟨b1,b2⟩:=WV knd hfo;refine⟨Y ⟨g,0,F⟩,cap,_,_,rfl,b1,b2,q1,q2,λj hj=>⟨ab,_,g,jK r j,P5 m.ws (BF m r j) (jK r j),(BF m r j:Nat),rfl,rfl,?_⟩⟩;obtain⟨a1,a2,a3⟩:=L8 j hj;have hc:∀o,w'.cell? ⟨ab,o,F⟩=u.cell? ⟨ab,o,F⟩:=λo=>zc6 (q2.block ab I (by rw[tab];simp;omega));exact⟨(hc _).trans a1,(hc _).trans a2,(hc _).trans a3,q3 j hj⟩
 ·rcases hk with hk|rfl
  ·obtain⟨g1,g2,g3⟩:=hK.sb k hk;exact⟨g1,I,by rw[tk k g2];exact g3⟩
  ·have:=hK.size;refine⟨I,I,?_⟩;unfold IB fresh;rw[if_neg I,if_pos I]
 ·obtain⟨g1,g2⟩:=hK.old k hk;have hz:=hK.size;exact⟨by rw[tk k I];exact g1,(kk k I I λe=>by have:=(hK.sb k e).1;omega).trans g2⟩
 ·have:=hF.os;rw[hu.os];exact hK.os.trans this
def BQ(h:LW v τ wb c a M)(hK:G3 W0 Sb τ v)(x0 x1:aj)(kd on A B:Int)(s:ah)(it ks:aj):∃τ1,LW ((v.alloc (.cells #[x0,x1] 127)).alloc (a9 kd on A B s it ks)) τ1 wb c a M/\G3 W0 Sb τ1 ((v.alloc (.cells #[x0,x1] 127)).alloc (a9 kd on A B s it ks))/\
 ((v.alloc (.cells #[x0,x1] 127)).alloc (a9 kd on A B s it ks)).cell? ⟨v.heap.size,1,F⟩=Y x1/\(τ1 v.heap.size).1=0/\((v.alloc (.cells #[x0,x1] 127)).alloc (a9 kd on A B s it ks)).cell? ⟨v.heap.size+1,2,F⟩=Y (.int .i64 A)/\(τ1 (v.heap.size+1)).1=0/\¬Sb v.heap.size/\¬Sb (v.heap.size+1):=by
 obtain⟨h1,k1⟩:=jf h (.cells #[x0,x1] 127);obtain⟨h2,k2⟩:=jf h1 (a9 kd on A B s it ks);have hz:(v.alloc (.cells #[x0,x1] 127)).heap.size=v.heap.size+1:=XI
 have hy:=aT.new (v.alloc (.cells #[x0,x1] 127)) #[.int .i64 kd,.int .i64 on,.int .i64 A,.int .i64 B,.string s,it,ks] 86;have hx:aT ((v.alloc (.cells #[x0,x1] 127)).alloc (a9 kd on A B s it ks)) v.heap.size #[x0,x1] 127:=(aT.new v _ _).of_eq (zc3 _ _ _ XI);rw[hz]at hy h2 k2;exact⟨_,h2,hK.left (k1.trans k2),hx.cell (o:=1) rfl,by rw[jv I];exact m8,hy.cell (o:=2) rfl,m8,λe=>by have:=(hK.sb _ e).2.1;omega,λe=>by have:=(hK.sb _ e).2.1;omega⟩
def ku.ends(hv:cK Sb v W)(h:LW v τ wb c a M)(hK:G3 W0 Sb τ v)(hc:c<=n)(hn:n<=1466015503690)(hm:M[i]?=Y m)(kd on A B:Int)(s:ah)(it ks:aj)(hA: -9223372036854775808<=A)(Fg:A<=9223372036854775807)
 (hnp:∀x∈cl :: c0,∀ch,x.mode≠.panicking ch) (hnf:∀u ch,(cl.finish u).mode≠.panicking ch) (hq:∀Kt W',G2 W0 wb (n+1) Kt W'->ku Q Kt (cl.finish (.bool Z6)) c0 W'):
 ku Q Sb (af0 prog 65 #[ptr wb,.agg #[ptr (a.sB i),ptr (a.rB i)],dS kd on A B s it ks] .normal) (cl :: c0) W:=by
 have hnc:∀x∈cl.finish (.bool Z6):: c0,∀ch,x.mode≠.panicking ch:=λx hx ch=>by
  rcases zc8.1 hx with rfl|hx
  ·exact hnf _ ch
  ·exact hnp x (zc7 _ hx) ch
 by_cases hacc:∃r,dQ m A=Y r/\ez r=Z6
 ·obtain⟨r,hf,ha⟩:=hacc;refine ku.walk (R:=λv1 fr c' w=>∃b t,fr=af0 prog 23 #[ptr (a.sB i),.int .i64 A] .normal/\c'=Yb b t :: cl :: c0/\b.fn=65/\b.kind=.normal/\Yc t wb v1.heap.size/\w=(v1.alloc (.cells #[ptr (a.sB i),ptr (a.rB i)] 127)).alloc (a9 kd on A B s it ks)) (λv1 fr c' w hr=>?_) (λv1 xE=>KN kd on A B s it ks λb t e1 e2 e3=>To.done ⟨b,t,rfl,rfl,e1,e2,e3,rfl⟩) (λv1 fr c' w W1 xE hr hw=>?_)
  ·obtain⟨b,t,rfl,rfl,_⟩:=hr;rw[enter_at func23 rfl];intro x hx ch;rcases zc8.1 hx with rfl|hx
   ·simp[Frame.at]
   ·rcases zc8.1 hx with rfl|hx
    ·simp[Frame.at]
    ·exact hnp x hx ch
  ·obtain⟨b,t,rfl,rfl,e1,e2,e3,rfl⟩:=hr;obtain⟨τ1,l1,l2,x1,x2,x3,x4,x5⟩:=BQ (h.same (j8 hv xE)) (hK.lone hv xE) (ptr (a.sB i)) (ptr (a.rB i)) kd on A B s it ks;obtain⟨As,hS⟩:=l1.st.s i m hm;refine ku.finishing hw hS A hA Fg r hf ha (λk hk=>by rw[(l2.sb k hk).2.2];omega) (λx hx ch=>?_) (λu ch=>?_) (λab wg W2 hF=>?_)
   ·rcases zc8.1 hx with rfl|hx
    ·simp[Frame.at]
    ·exact hnp x hx ch
   ·obtain⟨o,r1,_⟩:=P9;rw[eM r1];simp[Frame.at]
   ·refine ku.walk (R:=λu fr c' w'=>fr=cl.finish (.bool Z6)/\c'=c0/\SW W0 wb (n+1) (λk=>Sb k\/k=wg) w') (λu fr c' w' hr=>?_) (λu hu=>?_) (λu fr c' w' W3 hu hr nU=>?_)
    ·obtain⟨rfl,rfl,_⟩:=hr;exact hnc
    ·obtain⟨g1,g2⟩:=P8 l1 l2 hm hf ha hS x1 x2 x3 x4 x5 hF hu;exact BR e1 e2 e3 g1 I λfr w' hl hL=>To.leave (hl _) (To.done ⟨rfl,rfl,g2.step hc hL⟩)
    ·obtain⟨rfl,rfl,g⟩:=hr;exact hq _ W3 ⟨w',nU,g⟩
 ·obtain⟨e,cp,cr⟩:∃e:Int,(∀(w:af) (τ:Nat->Tag) (As:SA),bB w τ (2+2*i) (a.sB i) m As->Calls prog 23 #[ptr (a.sB i),.int .i64 A] w λx w'=>x=.returned (.tuple #[.slice F 0 0,.int .i64 ((0:Nat):Int),.int .i64 e])/\bB w' τ (2+2*i) (a.sB i) m As/\Stp (2+2*i) τ w τ w')/\∀(w:af) (τ:Nat->Tag) (B:RA),bh w τ (3+2*i) (a.rB i) m B->Calls prog 104 #[ptr (a.rB i),.int .i64 A] w λx w'=>x=.returned (.tuple #[.slice F 0 0,.int .i64 0,.int .i64 0,.int .i64 e])/\w'=w:=by
   cases hf:dQ m A with
   |none=>exact⟨7,λw τ As hS=>C0 hS A hA Fg hf,λw τ B hR=>C2 hR A hA Fg hf⟩
   |some r=>
    have ha:ez r=E:=(Bool.eq_false_or_eq_true _).elim (λe=>absurd ⟨r,hf,e⟩ hacc) id;exact⟨9,λw τ As hS=>A6 hS A hA Fg r hf ha,λw τ B hR=>A7 hR A hf ha⟩
  refine ku.walk (R:=λu fr c' w'=>fr=cl.finish (.bool Z6)/\c'=c0/\SW W0 wb (n+1) Sb w') (λu fr c' w' hr=>?_) (λv1 xE=>?_) (λu fr c' w' W3 hu hr nU=>?_)
  ·obtain⟨rfl,rfl,_⟩:=hr;exact hnc
  ·obtain⟨τ1,l1,l2,x1,x2,x3,x4,x5⟩:=BQ (h.same (j8 hv xE)) (hK.lone hv xE) (ptr (a.sB i)) (ptr (a.rB i)) kd on A B s it ks;obtain⟨As,hS⟩:=l1.st.s i m hm;refine KN kd on A B s it ks λb t e1 e2 e3=>To.calls (cp _ τ1 As hS) λw3 hw=>?_;obtain⟨Od,wQ⟩:=hw;have qO:∀{k o:Nat} {x:aj},((v1.alloc (.cells #[ptr (a.sB i),ptr (a.rB i)] 127)).alloc (a9 kd on A B s it ks)).cell? ⟨k,o,F⟩=Y x->(τ1 k).1=0->w3.cell? ⟨k,o,F⟩=Y x:=fun{k o x} hc ht=>(zc6 (wQ.block k (World.block_lt_of_cell? _ _ hc) I)).trans hc;refine BR (m:=m) (m':=m) (ln:=0) (τ:=τ1) (A:=A) e1 e2 e3 ⟨l1.base.pS wQ I,l1.st.KI wQ Od,l1.ok i m hm,l1.ok,l1.ll,l1.c0,hm,⟨[],World.ownsRow_nil _ _ _ _⟩,λk hk=>(by cases hk),I,I,qO x1 x2,qO x3 x4,λB' hR=>(cr _ τ1 B' hR).mono λx w' hx=>?_⟩ I λfr w' hl hL=>To.leave (hl _) (To.done ⟨rfl,rfl,(l2.left (wQ.kp I)).step hc hL⟩);obtain⟨rfl,rfl⟩:=hx;exact⟨F,0,0,0,rfl,zc4 _,zc4 _,hR,Stp.refl _ _ _,λj hj=>I⟩
  ·obtain⟨rfl,rfl,g⟩:=hr;exact hq _ W3 ⟨w',nU,g⟩
end
end
section
noncomputable def iM:Code:=f32.body.getD .skip
noncomputable def Oe:Nat->Code
 | 0=>cI (cB (cA (eZ 4 iM)))
 |k+1=>cE (cB (Oe k))
noncomputable def spZ:Code:=eZ 5 iM
noncomputable def S2:Array Oper:=opsOf (cA (cT (cB (Oe 7))))
def spC:Nat->Nat
 | 0=>46
 | 1=>72
 | 2=>78
 | 3=>97
 | 4=>116
 | 5=>131
 | 6=>137
 |_=>156
def MB:iM=.seq (cA iM) (.seq (cA (eZ 1 iM)) (.seq (cA (eZ 2 iM)) (.seq (cA (eZ 3 iM)) (.seq (.seq (cA (cA (eZ 4 iM))) (.block 0 (Oe 0))) spZ)))):=Yl
def Qe:∀k,k<8->Oe k=.seq (cA (Oe k)) (.cond (.tmp (spC k)) (if k=7 then .seq (.region 32 S2 E) .ret else cT (cB (Oe k))) (Oe (k+1))):=by
 intro k hk;match k,hk with
 | 0,_| 1,_| 2,_| 3,_| 4,_| 5,_| 6,_| 7,_=>refine Eq.symm ?_;kernel_rfl
structure MC(t:Act)(wb pb ob:Nat):Prop where
 d:t.defers= []
 s:t.tmps.size=162
 t0:t.tmps[0]?=Y (ptr wb)
 t3:t.tmps[3]?=Y (ptr pb)
 t5:t.tmps[5]?=Y (ptr ob)
def MC.lit{pb ob:Nat}(h:MC t wb pb ob):∃f:Nat->aj,t=⟨((ab8 162).map f).toArray, []⟩/\f 0=.pointer (Y ⟨wb,0,F⟩)/\f 3=.pointer (Y ⟨pb,0,F⟩)/\f 5=.pointer (Y ⟨ob,0,F⟩)/\∀i v,t.tmps[i]?=Y v->f i=v:=by obtain⟨tms,Ew⟩:=t;obtain⟨hd,hs,t0,t3,t5⟩:=h;simp only at hd hs t0 t3 t5;subst hd;obtain⟨fv,hT,aP⟩:=WT tms hs;exact⟨fv,by rw[hT],aP 0 _ t0,aP 3 _ t3,aP 5 _ t5,aP⟩
def IG:∀j,j<3->∃o,S2[j]?=Y o/\o.guard=F/\o.dst=Y (158+j)/\o.op=(match j with| 0=>.move (.tmp 0)| 1=>.load 127 (.tmp 5)|_=>.load 86 (.tmp 3)):=by
 intro j hj;refine⟨(S2[j]?).getD default,?_⟩;match j,hj with
 | 0,_| 1,_| 2,_=>refine⟨?_,?_,?_,?_⟩ <;>kernel_rfl
def Qf:∃o,S2[3]?=Y o/\o.guard=F/\o.dst=Y 161/\∃cl:Call,o.op=.call cl/\cl.callee=.value (.func 65)/\cl.args=#[.tmp 158,.tmp 159,.tmp 160]:=by refine⟨(S2[3]?).getD default,?_,?_,?_,(match ((S2[3]?).getD default).op with|.call cl=>cl|_=>default),?_,?_,?_⟩ <;>kernel_rfl
def ab2:∃o,S2[4]?=Y o/\o.guard=F/\o.dst=Y 4/\o.op=.assign (.tmp 161):=by refine⟨(S2[4]?).getD default,?_,?_,?_,?_⟩ <;>kernel_rfl
def Qg:ab8 S2.size= [0,1,2,3,4]:=Yl
noncomputable abbrev Yf(b:ak)(t:Act):ak:=b.at t [.inRegion S2 (3 :: [4]),.code .ret,.inBlock 0,.code spZ]
section
variable {v w:af}{τ:Nat->Tag}{wb:Nat}{c:Int}{a:LA}{M:List MS}{Q:ak->List ak->af->Prop}{b:ak}{t:Act}{cs:List ak}{pb ob:Nat}
def oq(hk:k<7)(hs:MC t wb pb ob)(h45:t.tmps[45]?=Y (.int .i64 9))(h:∀t',MC t' wb pb ob->t'.tmps[45]?=Y (.int .i64 9)->To prog Q (b.at t' [.code (Oe (k+1)),.inBlock 0,.code spZ]) cs w):To prog Q (b.at t [.code (Oe k),.inBlock 0,.code spZ]) cs w:=by
 have HQ:Hid _:=h;clear h;obtain⟨fv,rfl,t0,t3,t5,hf⟩:=hs.lit;replace h45:=hf 45 _ h45;simp only[ab8,ak2,ao6,ap4,t0,t3,t5,h45];clear t0 t3 t5 hf hs h45;rw[Qe k I];match k,hk with
 | 0,_| 1,_| 2,_| 3,_| 4,_| 5,_| 6,_=>
   refine To.dU λK hK=>?_;dsimp only[Oe,iM,eZ,cA,cB,cI,cE,f32,aa0];go_wp2_with fail
   refine .step (λ_=>av0 (t:=E) rfl) ?_;simp only[Bool.false_eq_true,if_false];exact HQ.out _ ⟨rfl,rfl,rfl,rfl,rfl⟩ rfl
def ab3(h:LW v τ wb c a M)(hM:0<M.length)(on A B:Int)(s:ah)(it ks:aj)(ho: -9223372036854775808<=on)(ho':on<=9223372036854775807)
 (hq:∀(b:ak) (t:Act) (p:Nat) (w':af) (τ':Nat->Tag),b.fn=32->b.kind=.normal->t.defers= []->t.tmps.size=162->p<M.length->LW w' τ' wb c a M->vf τ v τ' w'->To prog Q (af0 prog 65 #[ptr wb,.agg #[ptr (a.sB p),ptr (a.rB p)],dS 9 on A B s it ks] .normal) (Yf b t :: cs) w'):
 To prog Q (af0 prog 32 #[ptr wb,dS 9 on A B s it ks] .normal) cs v:=by
 obtain⟨p,hp,hpk⟩:=yY on M.length hM;obtain⟨SV,k1⟩:=jf h (a9 9 on A B s it ks);obtain⟨g,X3,rD,g0,g1,ZG⟩:=SV.base.store hp;have e0:=SV.base.raw.blk.cell (o:=0) (v:=a.v 0) rfl;rw[rD]at e0;have tK:aT (v.alloc (a9 9 on A B s it ks)) v.heap.size #[.int .i64 9,.int .i64 on,.int .i64 A,.int .i64 B,.string s,it,ks] 86:=aT.new _ _ _;have b1:=tK.cell (o:=1) rfl;have Ey:=SV.base.raw.blk.lt;have kR:=tK.lt;have hn8:=h.base.n8;have HQ:Hid _:=hq;have HL:Hid _:=SV;have HK:Hid _:=k1;have HB:Hid _:=tK;clear hq h SV k1 tK;unfold ptr dS;unfold a9 ptr at *;rw[enter_at (body:=iM) func32 rfl,MB];walk_nrmf ntmps32;refine To.dU λK hK=>?_;dsimp only[iM,eZ,cA,cB,f32,aa0];go_wp2_with fail
 generalize v.alloc (.cells #[.int .i64 9,.int .i64 on,.int .i64 A,.int .i64 B,.string s,it,ks] 86)=w1 at *;refine To.dU λK hK=>?_;dsimp only[iM,eZ,cA,cB,f32,aa0];have b0:=aT.cell (o:=0) (v:=.int .i64 9) HB.out rfl;go_wp2_with fail
 refine To.dU λK hK=>?_;dsimp only[iM,eZ,cA,cB,f32,aa0];have z0:((M.length:Int)== 0)=E:=by rw[beq_eq_false_iff_ne];omega
 go_wp2_with fail
 refine .step (λ_=>ao1) (To.code (R:=λt w'=>∃ob,MC t wb v.heap.size ob/\aT w' ob #[.pointer (Y ⟨a.sB p,0,F⟩),.pointer (Y ⟨a.rB p,0,F⟩)] 127/\Below w1.heap.size w1 w'/\w1.heap.size<=ob) ?_ ?_)
 ·dsimp only[iM,eZ,cA,cB,f32,aa0];go_region_held3 (λW=>W.cell? ⟨wb,0,F⟩=Y (.slice (Y ⟨g,0,F⟩) M.length X3)/\W.cell? ⟨v.heap.size,1,F⟩=Y (.int .i64 on)/\W.cell? ⟨g,p*2,F⟩=Y (.pointer (Y ⟨a.sB p,0,F⟩))/\W.cell? ⟨g,p*2+1,F⟩=Y (.pointer (Y ⟨a.rB p,0,F⟩))) (first|(simp[*];done)|(refine⟨?_,?_,?_,?_⟩ <;>(rw[zc6 (w:=w1.drew) (zc3 w1.drew _ _ (by simp only;assumption))];assumption))|(go_keep;done)) ((go_at_call 57;refine(Fj on M.length _ ho ho' I I).mono ?_;rintro e w2 ⟨rfl,rfl⟩;rw[hpk]))
  all_goals
   go_wp2_with fail
   exact⟨w1.heap.size,⟨rfl,rfl,rfl,rfl,rfl⟩,aT.new _ _ _,((Below.refl _ _).alloc (zc4 _) _).drew,zc4 _⟩
 ·rintro t w' ⟨ob,hs,Ix,Oc,hol⟩;have A1:aT w' v.heap.size _ 86:=aT.of_eq HB.out (Oc.block _ kR);have c0:=A1.cell (o:=0) (v:=.int .i64 9) rfl;have ht:∀k,k<w1.heap.size->gY (gY τ v.heap.size) ob k=gY τ v.heap.size k:=λk hk=>jv I;have HL2:Hid (LW w' (gY (gY τ v.heap.size) ob) wb c a M/\vf τ v (gY (gY τ v.heap.size) ob) w'):=⟨HL.out.new Oc ht,HK.out.trans (vf.dg Oc ht)⟩
  clear e0 b1 g0 g1 ZG HB ht Oc HL HK b0;refine .step (λ_=>ao1) ?_;refine To.then (Q:=λfr c' w2=>∃t',MC t' wb v.heap.size ob/\t'.tmps[45]?=Y (.int .i64 9)/\fr=({fn:=32,tmps:=#[],todo:= [],defers:= [],mode:=.run,kind:=.normal,roundOf:=F}:ak).at t' [.code (Oe 0),.inBlock 0,.code spZ]/\c'=cs/\w2=w') ?_ ?_
  ·obtain⟨fv,rfl,t0,t3,t5,-⟩:=hs.lit;simp only[ab8,ak2,ao6,ap4,t0,t3,t5];clear t0 t3 t5 hs;refine To.dU λK hK=>?_;dsimp only[iM,eZ,cA,cB,f32,aa0];go_wp2_with fail
   exact .step (λ_=>az3) (To.done ⟨_,⟨rfl,rfl,rfl,rfl,rfl⟩,rfl,rfl,rfl,rfl⟩)
  ·rintro _ c' w2 ⟨t1,s1,q1,rfl,ec,ew⟩;rw[ec,ew];clear ec ew hs;refine oq (k:=0) I s1 q1 λt2 s2 q2=>oq (k:=1) I s2 q2 λt3 s3 q3=>oq (k:=2) I s3 q3 λt4 s4 q4=>oq (k:=3) I s4 q4 λt5 s5 q5=>oq (k:=4) I s5 q5 λt6 s6 q6=>oq (k:=5) I s6 q6 λt7 s7 q7=>oq (k:=6) I s7 q7 λt8 s8 q8=>?_;clear s1 s2 s3 s4 s5 s6 s7 q1 q2 q3 q4 q5 q6 q7;obtain⟨fv,rfl,t0,t3,t5,hf⟩:=s8.lit;replace q8:=hf 45 _ q8;simp only[ab8,ak2,ao6,ap4,t0,t3,t5,q8];clear t0 t3 t5 hf s8 q8;rw[Qe 7 I,if_pos rfl];refine To.dU λK hK=>?_;dsimp only[Oe,iM,eZ,cA,cB,cI,cE,f32,aa0];go_wp2_with fail
   refine .step (λ_=>av0 (t:=Z6) rfl) (.step (λ_=>ao1) (.region ?_));rw[Qg];have c1:=A1.cell (o:=1) (v:=.int .i64 on) rfl;have c2:=A1.cell (o:=2) (v:=.int .i64 A) rfl;have c3:=A1.cell (o:=3) (v:=.int .i64 B) rfl;have c4:=A1.cell (o:=4) (v:=.string s) rfl;have c5:=A1.cell (o:=5) (v:=it) rfl;have c6:=A1.cell (o:=6) (v:=ks) rfl;have d0:=Ix.cell (o:=0) (v:=.pointer (Y ⟨a.sB p,0,F⟩)) rfl;have d1:=Ix.cell (o:=1) (v:=.pointer (Y ⟨a.rB p,0,F⟩)) rfl;refine To.uh (IG 0 I) ?_;refine To.uh (IG 1 I) ?_;refine To.uh (IG 2 I) ?_;obtain⟨o,r1,r2,r3,cl,r4,r5,r6⟩:=Qf;refine To.call r1 r2 r4 r5 func65 Yl rfl ?_ (HQ.out _ _ p w' _ rfl rfl rfl (by simp[at9]) hp HL2.out.1 HL2.out.2);rw[r6];simp[Act.eval,at9,dS]
def Uj(hb:b.fn=32)(hk:b.kind=.normal)(hd:t.defers= [])(hs:t.tmps.size=162)(h:∀fr:ak,(∀u,fr.leaving prog u (.returned (.bool Z6)))->To prog Q fr cs w):To prog Q ((Yf b t).finish (.bool Z6)) cs w:=by
 obtain⟨o,r1,r2,r3,-⟩:=Qf;rw[eM r1,r3];have e:=OG (v:=.bool Z6) (I:161<t.tmps.size);refine To.uh (v:=.bool Z6) (w1:=w) ab2 (To.over (.step (λ_=>step_ret) (h _ λu=>⟨rfl,hd,hk,f32,by show prog.funcs[b.fn]?=_;rw[hb];exact func32,?_⟩))) λo' e'=>?_
 ·exact(results_tmp (fn:=f32) rfl _ _ _).trans (congrArg (λx=>Result.ok x u) (by simp only[Frame.at,at9,al8];rw[ad8 (by rw[bd2];omega)];rfl))
 ·unfold execOp;rw[e'];simp only[e];rfl
end
section
variable {W0 W v:af}{Sb:Nat->Prop}{τ:Nat->Tag}{wb:Nat}{n c:Int}{a:LA}{M:List MS}
def ku.KM(hv:cK Sb v W)(h:LW v τ wb c a M)(hK:G3 W0 Sb τ v)(hc:c<=n)(hn:n<=1466015503690)(x:Iy)(hx:xG v x)(V3:x.kd<=9)(hf:∀ib io,x.ia=Y ⟨ib,io,F⟩/\x.L≠ []->(τ ib).1=0)(TY:∀ib io,x.ka=Y ⟨ib,io,F⟩/\x.Kn≠ []->(τ ib).1=0)
 (hnp:∀x∈cl :: c0,∀ch,x.mode≠.panicking ch) (hnf:∀u ch,(cl.finish u).mode≠.panicking ch) (hq:∀Kt W',G2 W0 wb (n+1) Kt W'->ku Q Kt (cl.finish (.bool Z6)) c0 W'):
 ku Q Sb (af0 prog 32 #[ptr wb,dS x.kd x.on x.A x.B x.s (.slice x.ia x.L.length x.cap) (.slice x.ka x.Kn.length x.bR)] .normal) (cl :: c0) W:=by
 have hnc:∀x∈cl.finish (.bool Z6):: c0,∀ch,x.mode≠.panicking ch:=λx hx ch=>by
  rcases zc8.1 hx with rfl|hx
  ·exact hnf _ ch
  ·exact hnp x (zc7 _ hx) ch
 by_cases h9:x.kd=9/\0<M.length
 ·obtain⟨e9,hM⟩:=h9;rw[e9];refine ku.walk (R:=λv1 fr c' w=>∃b t p τ',fr=af0 prog 65 #[ptr wb,.agg #[ptr (a.sB p),ptr (a.rB p)],dS 9 x.on x.A x.B x.s (.slice x.ia x.L.length x.cap) (.slice x.ka x.Kn.length x.bR)] .normal/\c'=Yf b t :: cl :: c0/\b.fn=32/\b.kind=.normal/\t.defers= []/\t.tmps.size=162/\p<M.length/\LW w τ' wb c a M/\G3 W0 Sb τ' w) (λv1 fr c' w hr=>?_) (λv1 xE=>ab3 (h.same (j8 hv xE)) hM x.on x.A x.B x.s _ _ hx.on1 hx.on2 λb t p w' τ' e1 e2 e3 e4 e5 e6 e7=>To.done ⟨b,t,p,τ',rfl,rfl,e1,e2,e3,e4,e5,e6,(hK.lone hv xE).left e7⟩) (λv1 fr c' w W1 xE hr hw=>?_)
  ·obtain⟨b,t,p,τ',rfl,rfl,_⟩:=hr;rw[enter_at func65 rfl];intro x hx ch;rcases zc8.1 hx with rfl|hx
   ·simp[Frame.at]
   ·rcases zc8.1 hx with rfl|hx
    ·simp[Frame.at]
    ·exact hnp x hx ch
  ·obtain⟨b,t,p,τ',rfl,rfl,e1,e2,e3,e4,e5,e6,e7⟩:=hr;refine ku.ends hw e6 e7 hc hn (zc5 e5) 9 x.on x.A x.B x.s _ _ hx.a1 hx.a2 (λx hx ch=>?_) (λu ch=>?_) λKt W2 hC=>?_
   ·rcases zc8.1 hx with rfl|hx
    ·simp[Frame.at]
    ·exact hnp x hx ch
   ·obtain⟨o,r1,_⟩:=Qf;rw[eM r1];simp[Frame.at]
   ·refine ku.walk (R:=λu fr c' w'=>fr=cl.finish (.bool Z6)/\c'=c0/\w'=u) (λu fr c' w' hr=>?_) (λu hu=>Uj e1 e2 e3 e4 λfr hl=>To.leave (hl _) (To.done ⟨rfl,rfl,rfl⟩)) (λu fr c' w' W3 hu hr nU=>?_)
    ·obtain⟨rfl,rfl,_⟩:=hr;exact hnc
    ·obtain⟨rfl,rfl,rfl⟩:=hr;exact hq _ W3 ⟨_,nU,hC.lone hu⟩
 ·refine ku.walk (R:=λu fr c' w'=>fr=cl.finish (.bool Z6)/\c'=c0/\SW W0 wb (n+1) Sb w') (λu fr c' w' hr=>?_) (λv1 xE=>?_) (λu fr c' w' W3 hu hr nU=>?_)
  ·obtain⟨rfl,rfl,_⟩:=hr;exact hnc
  ·have e:=j8 hv xE;exact To.calls (PW (h.same e) x (hx.keep (by rw[e];exact zc4 _) λk _=>by rw[e]) (λhM=>by have:x.kd≠9:=λe9=>h9 ⟨e9,hM⟩;omega) hf TY I) λw' hL=>To.done ⟨rfl,rfl,(hK.lone hv xE).step hc hL⟩
  ·obtain⟨rfl,rfl,g⟩:=hr;exact hq _ W3 ⟨w',nU,g⟩
end
end
section
noncomputable def cO:Code:=f13.body.getD .skip
noncomputable def yq:Code:=cI (cI (cB (cA (eZ 3 cO))))
noncomputable def V2:Code:=cI (cA (cB yq))
noncomputable def SZ:Array Oper:=opsOf (cB (cB (cB V2)))
noncomputable def ze:Code:=cI (cI (cB (cA (eZ 4 cO))))
noncomputable def ZI:Code:=cI (cA (cB ze))
noncomputable def S1:Array Oper:=opsOf (cA (cB ZI))
noncomputable def plV:Code:=cB (cB ZI)
noncomputable def Ye:Code:=eZ 5 cO
noncomputable abbrev ZJ:Code:=.seq (.seq (cA (cA (eZ 4 cO))) (.block 2 (.loop ze))) Ye
def Mv:cO=.seq (cA cO) (.seq (cA (eZ 1 cO)) (.seq (cA (eZ 2 cO)) (.seq (.seq (cA (cA (eZ 3 cO))) (.block 0 (.loop yq))) ZJ))):=Yl
def IE:yq=.seq (.seq (cA (cA yq)) (.cond (.tmp 19) .skip (.exit 0))) (.seq (.block 1 (.seq (.seq (cA (cA V2)) (.cond (.tmp 23) (.exit 1) .skip)) (.seq (cA (cB V2)) (.seq (cA (cB (cB V2))) (.region 10 SZ E))))) (cB (cB yq))):=Yl
def IF:ze=.seq (.seq (cA (cA ze)) (.cond (.tmp 41) .skip (.exit 2))) (.seq (.block 3 (.seq (.seq (cA (cA ZI)) (.cond (.tmp 50) (.exit 3) .skip)) (.seq (.region 15 S1 E) plV))) (cB (cB ze))):=Yl
noncomputable abbrev A5:List Item:= [.code yq,.inLoop yq,.inBlock 0,.code ZJ]
noncomputable abbrev agp:List Item:= [.inBlock 1,.code (cB (cB yq)),.inLoop yq,.inBlock 0,.code ZJ]
noncomputable abbrev A4:List Item:= [.code ze,.inLoop ze,.inBlock 2,.code Ye]
noncomputable abbrev agq:List Item:= [.inBlock 3,.code (cB (cB ze)),.inLoop ze,.inBlock 2,.code Ye]
noncomputable abbrev plS(b:ak)(t:Act):ak:=b.at t (.inRegion SZ (2 :: [3]):: agp)
noncomputable abbrev plT(b:ak)(t:Act):ak:=b.at t (.inRegion S1 (5 :: [6]):: .code plV :: agq)
def Qb:∀j,j<2->∃o,SZ[j]?=Y o/\o.guard=F/\o.dst=Y (32+j)/\o.op=(match j with| 0=>.move (.tmp 5)|_=>.load 86 (.tmp 8)):=by
 intro j hj;refine⟨(SZ[j]?).getD default,?_⟩;match j,hj with
 | 0,_| 1,_=>refine⟨?_,?_,?_,?_⟩ <;>kernel_rfl
def PY:∃o,SZ[2]?=Y o/\o.guard=F/\o.dst=Y 34/\∃cl:Call,o.op=.call cl/\cl.callee=.value (.func 32)/\cl.args=#[.tmp 32,.tmp 33]:=by refine⟨(SZ[2]?).getD default,?_,?_,?_,(match ((SZ[2]?).getD default).op with|.call cl=>cl|_=>default),?_,?_,?_⟩ <;>kernel_rfl
def abZ:∃o,SZ[3]?=Y o/\o.guard=F/\o.dst=Y 6/\o.op=.assign (.tmp 34):=by refine⟨(SZ[3]?).getD default,?_,?_,?_,?_⟩ <;>kernel_rfl
def Qc:ab8 SZ.size= [0,1,2,3]:=Yl
def zf:∀j,j<5->∃o,S1[j]?=Y o/\o.guard=F/\o.dst=Y (51+j)/\o.op=(match j with| 0=>.move (.tmp 5)| 1=>.move (.tmp 0)| 2=>.move (.tmp 9)| 3=>.indexAddr 22 (.tmp 52) (.tmp 53)|_=>.load 86 (.tmp 54)):=by
 intro j hj;refine⟨(S1[j]?).getD default,?_⟩;match j,hj with
 | 0,_| 1,_| 2,_| 3,_| 4,_=>refine⟨?_,?_,?_,?_⟩ <;>kernel_rfl
def PX:∃o,S1[5]?=Y o/\o.guard=F/\o.dst=Y 56/\∃cl:Call,o.op=.call cl/\cl.callee=.value (.func 32)/\cl.args=#[.tmp 51,.tmp 55]:=by refine⟨(S1[5]?).getD default,?_,?_,?_,(match ((S1[5]?).getD default).op with|.call cl=>cl|_=>default),?_,?_,?_⟩ <;>kernel_rfl
def ab0:∃o,S1[6]?=Y o/\o.guard=F/\o.dst=Y 10/\o.op=.assign (.tmp 56):=by refine⟨(S1[6]?).getD default,?_,?_,?_,?_⟩ <;>kernel_rfl
def Qd:ab8 S1.size= [0,1,2,3,4,5,6]:=Yl
structure jI(t:Act)(sv:aj)(wb q k:Nat):Prop where
 d:t.defers= []
 s:t.tmps.size=64
 t0:t.tmps[0]?=Y sv
 t1:t.tmps[1]?=Y (.int .i64 9)
 t5:t.tmps[5]?=Y (ptr wb)
 t6:t.tmps[6]?=Y (.bool Z6)
 tq:t.tmps[q]?=Y (.int .i64 k)
def jI.lit{sv:aj}{q:Nat}(h:jI t sv wb q k):∃f:Nat->aj,t=⟨((ab8 64).map f).toArray, []⟩/\f 0=sv/\f 1=.int .i64 9/\f 5=.pointer (Y ⟨wb,0,F⟩)/\f 6=.bool Z6/\f q=.int .i64 k:=by obtain⟨tms,Ew⟩:=t;obtain⟨hd,hs,t0,t1,t5,t6,tq⟩:=h;simp only at hd hs t0 t1 t5 t6 tq;subst hd;obtain⟨fv,hT,aP⟩:=WT tms hs;exact⟨fv,by rw[hT],aP 0 _ t0,aP 1 _ t1,aP 5 _ t5,aP 6 _ t6,aP q _ tq⟩
section
variable {w:af}{wb k i:Nat}{Q:ak->List ak->af->Prop}{b:ak}{t:Act}{cs:List ak}{sv:aj}
def Ub(hs:jI t sv wb 7 k)(h1:1<=k)(h9:k<=9)(h6:k≠6)(h:∀t',jI t' sv wb 7 k->To prog Q (af0 prog 32 #[ptr wb,dS k 0 1 (if k=1 then 1 else 0) ⟨#[97]⟩ (.slice (Y ⟨w.heap.size,0,F⟩) 1 1) (.slice (Y ⟨w.heap.size+1,0,F⟩) 1 1)] .normal) (plS b t' :: cs) (((w.alloc (.cells #[.string ⟨#[97]⟩,.string ⟨#[49]⟩] 70)).alloc (.cells #[.string ⟨#[97]⟩] 9)).alloc (a9 k 0 1 (if k=1 then 1 else 0) ⟨#[97]⟩ (.slice (Y ⟨w.heap.size,0,F⟩) 1 1) (.slice (Y ⟨w.heap.size+1,0,F⟩) 1 1)))):To prog Q (b.at t A5) cs w:=by
 have HQ:Hid _:=h;clear h;obtain⟨fv,rfl,t0,t1,t5,t6,tq⟩:=hs.lit;simp only[ab8,ak2,ao6,ap4,t0,t1,t5,t6,tq];clear t0 t1 t5 t6 tq hs;show To prog _ (b.at _ (.code yq :: [.inLoop yq,.inBlock 0,.code ZJ])) cs w;rw[congrArg bd7 IE];refine .step (λ_=>ao1) (To.dU λK hK=>?_);have q9:(k:Int)<=9:=I
 have q6:((k:Int)== 6)=E:=by rw[beq_eq_false_iff_ne];omega
 dsimp only[yq,cO,eZ,cA,cB,cI,f13,aa0];go_wp2_with fail
 refine .step (λ_=>av0 (t:=Z6) rfl) (.step (λ_=>bd6) (.step (λ_=>ao1) (.step (λ_=>az3) (.step (λ_=>ao1) (To.dU λK hK=>?_)))));dsimp only[V2,yq,cO,eZ,cA,cB,cI,f13,aa0];go_wp2_with fail
 refine .step (λ_=>av0 (t:=E) rfl) (.step (λ_=>bd6) (To.dU λK hK=>?_));dsimp only[V2,yq,cO,eZ,cA,cB,cI,f13,aa0];go_wp2_with fail
 by_cases e:k=1;case' pos=>subst e
 case' neg=>
  have q1:((k:Int)== 1)=E:=by rw[beq_eq_false_iff_ne];omega
  rw[if_neg e]at HQ
 all_goals
  refine To.dU λK hK=>?_
  dsimp only[V2,yq,cO,eZ,cA,cB,cI,f13,aa0]
  go_wp2_with fail
  refine .region ?_
  rw[Qc]
  refine To.uh (Qb 0 I) ?_
  refine To.uh (Qb 1 I) ?_
  obtain⟨o,r1,r2,r3,cl,r4,r5,r6⟩:=PY
  refine To.call r1 r2 r4 r5 func32 Yl rfl (args:=#[ptr wb,dS _ _ _ _ _ _ _]) ?_ (HQ.out _ ⟨rfl,rfl,rfl,rfl,rfl,rfl,rfl⟩)
  rw[r6]
  simp[Act.eval,at9,dS,ptr]
def X9(hs:jI t sv wb 7 6)(h:∀t',jI t' sv wb 7 7->To prog Q (b.at t' A5) cs w):To prog Q (b.at t A5) cs w:=by
 have HQ:Hid _:=h;clear h;obtain⟨fv,rfl,t0,t1,t5,t6,tq⟩:=hs.lit;simp only[ab8,ak2,ao6,ap4,t0,t1,t5,t6,tq];clear t0 t1 t5 t6 tq hs;show To prog _ (b.at _ (.code yq :: [.inLoop yq,.inBlock 0,.code ZJ])) cs w;rw[congrArg bd7 IE];refine .step (λ_=>ao1) (To.dU λK hK=>?_);dsimp only[yq,cO,eZ,cA,cB,cI,f13,aa0];go_wp2_with fail
 refine .step (λ_=>av0 (t:=Z6) rfl) (.step (λ_=>bd6) (.step (λ_=>ao1) (.step (λ_=>az3) (.step (λ_=>ao1) (To.dU λK hK=>?_)))));dsimp only[V2,yq,cO,eZ,cA,cB,cI,f13,aa0];go_wp2_with fail
 refine .step (λ_=>av0 (t:=Z6) rfl) (.step (λ_=>step_exit rfl) (To.yC λK hK=>?_));dsimp only[yq,cO,eZ,cA,cB,cI,f13,aa0];go_wp2_with fail
 exact .step (λ_=>bf9) (HQ.out _ ⟨rfl,rfl,rfl,rfl,rfl,rfl,rfl⟩)
def Uc(hs:jI t sv wb 7 k)(hk:k<=9)(h:∀t',jI t' sv wb 7 (k+1)->To prog Q (b.at t' A5) cs w):To prog Q ((plS b t).finish (.bool Z6)) cs w:=by
 obtain⟨o,r1,r2,r3,-⟩:=PY;rw[eM r1,r3];have HQ:Hid _:=h;clear h r1 r2 r3;obtain⟨fv,rfl,t0,t1,t5,t6,tq⟩:=hs.lit;simp only[ab8,ak2,ao6,ap4,t0,t1,t5,t6,tq];clear t0 t1 t5 t6 tq hs;refine To.uh abZ (To.over (.step (λ_=>step_inBlock) (To.yC λK hK=>?_)));dsimp only[yq,cO,eZ,cA,cB,cI,f13,aa0,at9];simp only[bc4,List.set_cons_succ,List.set_cons_zero];go_wp2_with fail
 exact .step (λ_=>bf9) (HQ.out _ ⟨rfl,rfl,rfl,rfl,rfl,rfl,XI⟩)
def X8(hs:jI t sv wb 7 10)(h:∀t',jI t' sv wb 9 0->To prog Q (b.at t' A4) cs w):To prog Q (b.at t A5) cs w:=by
 have HQ:Hid _:=h;clear h;obtain⟨fv,rfl,t0,t1,t5,t6,tq⟩:=hs.lit;simp only[ab8,ak2,ao6,ap4,t0,t1,t5,t6,tq];clear t0 t1 t5 t6 tq hs;show To prog _ (b.at _ (.code yq :: [.inLoop yq,.inBlock 0,.code ZJ])) cs w;rw[congrArg bd7 IE];refine .step (λ_=>ao1) (To.dU λK hK=>?_);dsimp only[yq,cO,eZ,cA,cB,cI,f13,aa0];go_wp2_with fail
 refine .step (λ_=>av0 (t:=E) rfl) (.step (λ_=>step_exit rfl) (.step (λ_=>ao1) (To.dU λK hK=>?_)));dsimp only[cO,eZ,cA,cB,cI,f13,aa0];go_wp2_with fail
 exact .step (λ_=>az3) (.step (λ_=>step_loop) (HQ.out _ ⟨rfl,rfl,rfl,rfl,rfl,rfl,rfl⟩))
variable {sa:Option aA}{ops:List Iy}{cap:Nat}{x:Iy}
def abR(hs:jI t (.slice sa ops.length cap) wb 9 i)(hO:rM w sa ops)(hx:ops[i]?=Y x)(hk:x.kd<=9)(h:∀t',jI t' (.slice sa ops.length cap) wb 9 i->To prog Q (af0 prog 32 #[ptr wb,dS x.kd x.on x.A x.B x.s (.slice x.ia x.L.length x.cap) (.slice x.ka x.Kn.length x.bR)] .normal) (plT b t' :: cs) w):To prog Q (b.at t A4) cs w:=by
 have HQ:Hid _:=h;have hi:=aH hx;obtain⟨ob,oo,rfl,-,c0,c1,c2,c3,c4,c5,c6⟩:=hO i x hx;clear h hO hx;obtain⟨fv,rfl,t0,t1,t5,t6,tq⟩:=hs.lit;simp only[ab8,ak2,ao6,ap4,t0,t1,t5,t6,tq];clear t0 t1 t5 t6 tq hs;show To prog _ (b.at _ (.code ze :: [.inLoop ze,.inBlock 2,.code Ye])) cs w;rw[congrArg bd7 IF];have q1:(i:Int)< (ops.length:Int):=I
 refine .step (λ_=>ao1) (To.dU λK hK=>?_);dsimp only[ze,cO,eZ,cA,cB,cI,f13,aa0];go_wp2_with fail
 refine .step (λ_=>av0 (t:=Z6) rfl) (.step (λ_=>bd6) (.step (λ_=>ao1) (.step (λ_=>az3) (.step (λ_=>ao1) (To.dU λK hK=>?_)))));have q2:decide ((9:Int)<x.kd)=E:=by simp;omega
 dsimp only[ZI,ze,cO,eZ,cA,cB,cI,f13,aa0];go_wp2_with fail
 refine .step (λ_=>av0 (t:=E) (by simp[Act.eval])) (.step (λ_=>bd6) (.step (λ_=>ao1) (.region ?_)));rw[Qd];refine To.uh (zf 0 I) ?_;refine To.uh (zf 1 I) ?_;refine To.uh (zf 2 I) ?_;refine To.uh (zf 3 I) ?_;refine To.uh (zf 4 I) ?_;obtain⟨o,r1,r2,r3,cl,r4,r5,r6⟩:=PX;refine To.call r1 r2 r4 r5 func32 Yl rfl (args:=#[ptr wb,dS _ _ _ _ _ _ _]) ?_ (HQ.out _ ⟨rfl,rfl,rfl,rfl,rfl,rfl,rfl⟩);rw[r6];simp[Act.eval,at9,dS,ptr]
def Ua(hs:jI t (.slice sa ops.length cap) wb 9 i)(hO:rM w sa ops)(hx:ops[i]?=Y x)(hk:¬x.kd<=9)(hl:ops.length<=1466015503660)(h:∀t',jI t' (.slice sa ops.length cap) wb 9 (i+1)->To prog Q (b.at t' A4) cs w):To prog Q (b.at t A4) cs w:=by
 have HQ:Hid _:=h;have hi:=aH hx;obtain⟨ob,oo,rfl,-,c0,-⟩:=hO i x hx;clear h hO hx;obtain⟨fv,rfl,t0,t1,t5,t6,tq⟩:=hs.lit;simp only[ab8,ak2,ao6,ap4,t0,t1,t5,t6,tq];clear t0 t1 t5 t6 tq hs;show To prog _ (b.at _ (.code ze :: [.inLoop ze,.inBlock 2,.code Ye])) cs w;rw[congrArg bd7 IF];have q1:(i:Int)< (ops.length:Int):=I
 refine .step (λ_=>ao1) (To.dU λK hK=>?_);dsimp only[ze,cO,eZ,cA,cB,cI,f13,aa0];go_wp2_with fail
 refine .step (λ_=>av0 (t:=Z6) rfl) (.step (λ_=>bd6) (.step (λ_=>ao1) (.step (λ_=>az3) (.step (λ_=>ao1) (To.dU λK hK=>?_)))));dsimp only[ZI,ze,cO,eZ,cA,cB,cI,f13,aa0];go_wp2_with fail
 refine .step (λ_=>av0 (t:=Z6) (by simp[Act.eval])) (.step (λ_=>step_exit rfl) (To.yC λK hK=>?_));dsimp only[ze,cO,eZ,cA,cB,cI,f13,aa0];go_wp2_with fail
 exact .step (λ_=>bf9) (HQ.out _ ⟨rfl,rfl,rfl,rfl,rfl,rfl,XI⟩)
def T9{R:af->Prop}(hs:jI t sv wb 9 i)(hi:i<=1466015503660)(hst:Calls prog 33 #[ptr wb] w λe w'=>e=.returned (.bool Z6)/\R w')(h:∀t' w',jI t' sv wb 9 (i+1)->R w'->To prog Q (b.at t' A4) cs w'):To prog Q ((plT b t).finish (.bool Z6)) cs w:=by
 obtain⟨o,r1,r2,r3,-⟩:=PX;rw[eM r1,r3];have HQ:Hid _:=h;clear h r1 r2 r3;unfold ptr at hst;obtain⟨fv,rfl,t0,t1,t5,t6,tq⟩:=hs.lit;simp only[ab8,ak2,ao6,ap4,t0,t1,t5,t6,tq];clear t0 t1 t5 t6 tq hs;refine To.uh ab0 (To.over (To.yC λK hK=>?_));dsimp only[plV,ZI,ze,cO,eZ,cA,cB,cI,f13,aa0,at9];simp only[bc4,List.set_cons_succ,List.set_cons_zero];go_wp2_with fail
 refine hst.mono ?_;rintro e w' ⟨rfl,hR⟩;go_wp2_with fail
 refine .step (λ_=>step_inBlock) (To.yC λK hK=>?_);dsimp only[ze,cO,eZ,cA,cB,cI,f13,aa0];go_wp2_with fail
 exact .step (λ_=>bf9) (HQ.out _ _ ⟨rfl,rfl,rfl,rfl,rfl,rfl,XI⟩ hR)
def X7(hb:b.fn=13)(hk:b.kind=.normal)(hs:jI t (.slice sa ops.length cap) wb 9 ops.length)(h:∀fr:ak,(∀u,fr.leaving prog u (.returned (.bool Z6)))->To prog Q fr cs w):To prog Q (b.at t A4) cs w:=by
 have HQ:Hid _:=h;clear h;obtain⟨fv,rfl,t0,t1,t5,t6,tq⟩:=hs.lit;simp only[ab8,ak2,ao6,ap4,t0,t1,t5,t6,tq];clear t0 t1 t5 t6 tq hs;show To prog _ (b.at _ (.code ze :: [.inLoop ze,.inBlock 2,.code Ye])) cs w;rw[congrArg bd7 IF];refine .step (λ_=>ao1) (To.dU λK hK=>?_);dsimp only[ze,cO,eZ,cA,cB,cI,f13,aa0];go_wp2_with fail
 refine .step (λ_=>av0 (t:=E) rfl) (.step (λ_=>step_exit rfl) ?_);refine To.last (R:=λa' w'=>w'=w/\a'.defers= []/\a'.tmps.getD 4 undef=.bool Z6) ?_ rfl ?_
 ·dsimp only[Ye,cO,eZ,cA,cB,f13,aa0];go_wp2_with fail
 ·rintro a' todo w' ⟨rfl,e0,q8⟩;refine HQ.out _ λu=>⟨rfl,e0,hk,f13,by show prog.funcs[b.fn]?=_;rw[hb];exact func13,?_⟩
  rw[<-q8];exact results_tmp rfl _ _ _
end
end
section
section
variable {W0 W v w:af}{Sb:Nat->Prop}{wb:Nat}{n:Int}{Q:(Nat->Prop)->ak->List ak->af->Prop}{b cl:ak}{c0:List ak}{sa:Option aA}{ops:List Iy}{cap:Nat}
def SW.below(h:SW W0 wb n Sb v)(hB:Below v.heap.size v w):SW W0 wb n Sb w:=by obtain⟨τ,a,M,c,h1,h2,h3⟩:=h;exact⟨τ,a,M,c,h1.new hB λ_ _=>rfl,h2,h3.left (vf.dg hB λ_ _=>rfl)⟩
def G2.mono(h:G2 W0 wb n Sb W)(hn:n<=n'):G2 W0 wb n' Sb W:=by obtain⟨v,hv,τ,a,M,c,h1,h2,h3⟩:=h;exact⟨v,hv,τ,a,M,c,h1,I,h3⟩
def rM.keep(h:rM W0 sa ops)(hs:W0.heap.size<=v.heap.size)(hk:∀k,k<W0.heap.size->v.heap[k]?=W0.heap[k]?):rM v sa ops:=λi x hx=>by obtain⟨b,o,e,hl,c⟩:=h i x hx;have hc:∀j,v.cell? ⟨b,j,F⟩=W0.cell? ⟨b,j,F⟩:=λj=>zc6 (hk b hl);exact⟨b,o,e,I,by simpa only[hc]using c⟩
def yZ(hb:b.fn=13)(X6:b.kind=.normal)(hO:rM W0 sa ops)(hok:∀x∈ops,xG W0 x)(hl:ops.length<=1466015503660)(hnp:∀x∈cl :: c0,∀ch,x.mode≠.panicking ch)(hnf:∀u ch,(cl.finish u).mode≠.panicking ch)(hq:∀Sb W n,G2 W0 wb n Sb W->ku Q Sb (cl.finish (.bool Z6)) c0 W):
 ∀(m:Nat) {i:Nat} {t:Act} {Sb:Nat->Prop} {W:af},ops.length=i+m->jI t (.slice sa ops.length cap) wb 9 i->G2 W0 wb (9+i) Sb W->ku Q Sb (b.at t A4) (cl :: c0) W
 | 0,i,t,Sb,W,hm,hs,hC=>by
   refine ku.walk (R:=λu fr c' w'=>fr=cl.finish (.bool Z6)/\c'=c0/\w'=u) (λu fr c' w' hr=>?_) (λu hu=>X7 (ops:=ops) hb X6 (by rw[show ops.length=i by omega]at hs⊢;exact hs) λfr hl=>To.leave (hl _) (To.done ⟨rfl,rfl,rfl⟩)) (λu fr c' w' W3 hu hr nU=>?_)
   ·obtain⟨rfl,rfl,_⟩:=hr;intro x hx ch;rcases zc8.1 hx with rfl|hx
    ·exact hnf _ ch
    ·exact hnp x (zc7 _ hx) ch
   ·obtain⟨rfl,rfl,rfl⟩:=hr;exact hq _ W3 _ ⟨_,nU,hC.lone hu⟩
 |m+1,i,t,Sb,W,hm,hs,hC=>by
  have hx:ops[i]?=Y ops[i]:=zc5 I;have IA:=hok _ (List.getElem_mem (I:i<ops.length));generalize ops[i]=x at hx IA;have T8:∀{v:af},cK Sb v W->rM v sa ops:=λhv=>by obtain⟨τ,a,M,c,h1,h2,h3⟩:=hC.lone hv;exact hO.keep h3.size λk hk=>(h3.old k hk).2
  by_cases hk:x.kd<=9
  ·refine ku.walk (R:=λv fr c' w=>∃t',jI t' (.slice sa ops.length cap) wb 9 i/\fr=af0 prog 32 #[ptr wb,dS x.kd x.on x.A x.B x.s (.slice x.ia x.L.length x.cap) (.slice x.ka x.Kn.length x.bR)] .normal/\c'=plT b t' :: cl :: c0/\w=v) (λv fr c' w hr=>?_) (λv hv=>abR hs (T8 hv) hx hk λt' h'=>To.done ⟨t',h',rfl,rfl,rfl⟩) (λv fr c' w W1 hv hr hw=>?_)
   ·obtain⟨t',_,rfl,rfl,_⟩:=hr;rw[enter_at func32 rfl];intro x hx ch;rcases zc8.1 hx with rfl|hx
    ·simp[Frame.at]
    ·rcases zc8.1 hx with rfl|hx
     ·simp[Frame.at]
     ·exact hnp x hx ch
   ·obtain⟨t',h',rfl,rfl,rfl⟩:=hr;obtain⟨τ,a,M,c,h1,h2,h3⟩:=hC.lone hv;refine ku.KM hw h1 h3 h2 I x (IA.keep h3.size λk hk=>(h3.old k hk).2) hk (λib io e=>(h3.old ib (IA.old ib io e)).1) (λib io e=>(h3.old ib (IA.T7 ib io e)).1) (λx hx ch=>?_) (λu ch=>?_) λKt W2 hC2=>?_
    ·rcases zc8.1 hx with rfl|hx
     ·simp[Frame.at]
     ·exact hnp x hx ch
    ·obtain⟨o,r1,_⟩:=PX;rw[eM r1];simp[Frame.at]
    ·refine ku.walk (R:=λu fr c' w'=>∃t2,jI t2 (.slice sa ops.length cap) wb 9 (i+1)/\fr=b.at t2 A4/\c'=cl :: c0/\SW W0 wb (9+(i+1:Nat)) Kt w') (λu fr c' w' hr=>?_) (λu hu=>?_) (λu fr c' w' W3 hu hr nU=>?_)
     ·obtain⟨t2,_,rfl,rfl,_⟩:=hr;intro x hx ch;rcases zc8.1 hx with rfl|hx
      ·simp[Frame.at]
      ·exact hnp x hx ch
     ·have hu2:=hC2.lone hu;rw[show 9+(i:Int)+1=9+((i+1:Nat):Int) by omega]at hu2;have hu3:=hu2;obtain⟨τ2,a2,M2,c2,g1,g2,g3⟩:=hu3;exact T9 h' I (Mb g1.base λq=>by have:=g1.ll q;omega) λt2 w2 e1 e2=>To.done ⟨t2,e1,rfl,rfl,hu2.below e2⟩
     ·obtain⟨t2,e1,rfl,rfl,e2⟩:=hr;exact yZ hb X6 hO hok hl hnp hnf hq m I e1 ⟨w',nU,e2⟩
  ·refine ku.walk (R:=λu fr c' w'=>∃t2,jI t2 (.slice sa ops.length cap) wb 9 (i+1)/\fr=b.at t2 A4/\c'=cl :: c0/\w'=u) (λu fr c' w' hr=>?_) (λu hu=>Ua hs (T8 hu) hx hk hl λt2 e1=>To.done ⟨t2,e1,rfl,rfl,rfl⟩) (λu fr c' w' W3 hu hr nU=>?_)
   ·obtain⟨t2,_,rfl,rfl,_⟩:=hr;intro x hx ch;rcases zc8.1 hx with rfl|hx
    ·simp[Frame.at]
    ·exact hnp x hx ch
   ·obtain⟨t2,e1,rfl,rfl,rfl⟩:=hr;exact yZ hb X6 hO hok hl hnp hnf hq m I e1 (G2.mono ⟨_,nU,hC.lone hu⟩ I)
def y7(hb:b.fn=13)(X6:b.kind=.normal)(hO:rM W0 sa ops)(hok:∀x∈ops,xG W0 x)(hl:ops.length<=1466015503660)(hnp:∀x∈cl :: c0,∀ch,x.mode≠.panicking ch)(hnf:∀u ch,(cl.finish u).mode≠.panicking ch)(hq:∀Sb W n,G2 W0 wb n Sb W->ku Q Sb (cl.finish (.bool Z6)) c0 W):
 ∀(m:Nat) {k:Nat} {t:Act} {Sb:Nat->Prop} {W:af},k+m=10->1<=k->jI t (.slice sa ops.length cap) wb 7 k->G2 W0 wb (k-1:Nat) Sb W->ku Q Sb (b.at t A5) (cl :: c0) W
 | 0,k,t,Sb,W,hm,h1,hs,hC=>by
   obtain rfl:k=10:=I
   refine ku.walk (R:=λu fr c' w'=>∃t2,jI t2 (.slice sa ops.length cap) wb 9 0/\fr=b.at t2 A4/\c'=cl :: c0/\w'=u) (λu fr c' w' hr=>?_) (λu hu=>X8 hs λt2 e1=>To.done ⟨t2,e1,rfl,rfl,rfl⟩) (λu fr c' w' W3 hu hr nU=>?_)
   ·obtain⟨t2,_,rfl,rfl,_⟩:=hr;intro x hx ch;rcases zc8.1 hx with rfl|hx
    ·simp[Frame.at]
    ·exact hnp x hx ch
   ·obtain⟨t2,e1,rfl,rfl,rfl⟩:=hr;exact yZ hb X6 hO hok hl hnp hnf hq ops.length I e1 (G2.mono ⟨_,nU,hC.lone hu⟩ I)
 |m+1,k,t,Sb,W,hm,h1,hs,hC=>by
  by_cases h6:k=6
  ·subst h6;refine ku.walk (R:=λu fr c' w'=>∃t2,jI t2 (.slice sa ops.length cap) wb 7 7/\fr=b.at t2 A5/\c'=cl :: c0/\w'=u) (λu fr c' w' hr=>?_) (λu hu=>X9 hs λt2 e1=>To.done ⟨t2,e1,rfl,rfl,rfl⟩) (λu fr c' w' W3 hu hr nU=>?_)
   ·obtain⟨t2,_,rfl,rfl,_⟩:=hr;intro x hx ch;rcases zc8.1 hx with rfl|hx
    ·simp[Frame.at]
    ·exact hnp x hx ch
   ·obtain⟨t2,e1,rfl,rfl,rfl⟩:=hr;exact y7 hb X6 hO hok hl hnp hnf hq m I I e1 (G2.mono ⟨_,nU,hC.lone hu⟩ I)
  ·refine ku.walk (R:=λv fr c' w=>∃t',jI t' (.slice sa ops.length cap) wb 7 k/\fr=af0 prog 32 #[ptr wb,dS k 0 1 (if k=1 then 1 else 0) ⟨#[97]⟩ (.slice (Y ⟨v.heap.size,0,F⟩) 1 1) (.slice (Y ⟨v.heap.size+1,0,F⟩) 1 1)] .normal/\c'=plS b t' :: cl :: c0/\w=((v.alloc (.cells #[.string ⟨#[97]⟩,.string ⟨#[49]⟩] 70)).alloc (.cells #[.string ⟨#[97]⟩] 9)).alloc (a9 k 0 1 (if k=1 then 1 else 0) ⟨#[97]⟩ (.slice (Y ⟨v.heap.size,0,F⟩) 1 1) (.slice (Y ⟨v.heap.size+1,0,F⟩) 1 1))) (λv fr c' w hr=>?_) (λv hv=>Ub hs h1 I h6 λt' h'=>To.done ⟨t',h',rfl,rfl,rfl⟩) (λv fr c' w W1 hv hr hw=>?_)
   ·obtain⟨t',_,rfl,rfl,_⟩:=hr;rw[enter_at func32 rfl];intro x hx ch;rcases zc8.1 hx with rfl|hx
    ·simp[Frame.at]
    ·rcases zc8.1 hx with rfl|hx
     ·simp[Frame.at]
     ·exact hnp x hx ch
   ·obtain⟨t',h',rfl,rfl,hwe⟩:=hr;obtain⟨τ,a,M,c,g1,g2,g3⟩:=hC.lone hv;have hB:Below v.heap.size v w:=by rw[hwe];exact(((Below.refl _ _).alloc (zc4 _) _).alloc XI _).alloc Yn _
    have ZH:aT w v.heap.size #[.string ⟨#[97]⟩,.string ⟨#[49]⟩] 70:=by rw[hwe];exact((aT.new v _ _).of_eq (zc3 _ _ _ XI)).of_eq (zc3 _ _ _ Yn)
    have hbk:aT w (v.heap.size+1) #[.string ⟨#[97]⟩] 9:=by have:=aT.new (v.alloc (.cells #[.string ⟨#[97]⟩,.string ⟨#[49]⟩] 70)) #[.string ⟨#[97]⟩] 9;rw[show (v.alloc (.cells #[.string ⟨#[97]⟩,.string ⟨#[49]⟩] 70)).heap.size=v.heap.size+1 by simp]at this;rw[hwe];exact this.of_eq (zc3 _ _ _ XI)
    have ht:∀q,q<v.heap.size->gY (gY τ v.heap.size) (v.heap.size+1) q=τ q:=λq hq=>(jv I).trans (jv I);have eB:(dI k v.heap.size).B=if k=1 then 1 else 0:=by show (if (k:Int)=1 then(1:Int)else 0)=_;split<;>split<;>omega
    have cp:=ku.KM (Q:=Q) (cl:=plS b t') (c0:=cl :: c0) hw (g1.new hB ht) (g3.left (vf.dg hB ht)) g2 I (dI k v.heap.size) (Iz ZH hbk) (by show (k:Int)<=9;omega) (λib io e=>by simp[dI]at e;rw[<-e.1,jv I];exact m8) (λib io e=>by simp[dI]at e;rw[<-e.1];exact m8) (λx hx ch=>?_) (λu ch=>?_) λKt W2 hC2=>?_
    ·rw[eB]at cp;exact cp
    ·rcases zc8.1 hx with rfl|hx
     ·simp[Frame.at]
     ·exact hnp x hx ch
    ·obtain⟨o,r1,_⟩:=PY;rw[eM r1];simp[Frame.at]
    ·refine ku.walk (R:=λu fr c' w'=>∃t2,jI t2 (.slice sa ops.length cap) wb 7 (k+1)/\fr=b.at t2 A5/\c'=cl :: c0/\w'=u) (λu fr c' w' hr=>?_) (λu hu=>Uc h' I λt2 e1=>To.done ⟨t2,e1,rfl,rfl,rfl⟩) (λu fr c' w' W3 hu hr nU=>?_)
     ·obtain⟨t2,_,rfl,rfl,_⟩:=hr;intro x hx ch;rcases zc8.1 hx with rfl|hx
      ·simp[Frame.at]
      ·exact hnp x hx ch
     ·obtain⟨t2,e1,rfl,rfl,rfl⟩:=hr;exact y7 hb X6 hO hok hl hnp hnf hq m I I e1 (G2.mono ⟨_,nU,hC2.lone hu⟩ I)
end
noncomputable def y8:Code:=Tryz.f5.body.getD .skip
noncomputable def SX:Array Oper:=opsOf (cA (cB y8))
def Mt:y8=.seq (cA y8) (.seq (.region 1 SX E) .ret):=Yl
def PZ:ab8 SX.size= [0,1,2]:=Yl
def abS:∃o,SX[0]?=Y o/\o.guard=F/\o.dst=Y 3/\o.op=.move (.tmp 0):=by refine⟨(SX[0]?).getD default,?_,?_,?_,?_⟩ <;>kernel_rfl
def P2:∃o,SX[1]?=Y o/\o.guard=F/\o.dst=Y 4/\∃cl:Call,o.op=.call cl/\cl.callee=.value (.func 13)/\cl.args=#[.tmp 3,.const (.int .i64 9)]:=by refine⟨(SX[1]?).getD default,?_,?_,?_,(match ((SX[1]?).getD default).op with|.call cl=>cl|_=>default),?_,?_,?_⟩ <;>kernel_rfl
def abT:∃o,SX[2]?=Y o/\o.guard=F/\o.dst=Y 2/\o.op=.assign (.tmp 4):=by refine⟨(SX[2]?).getD default,?_,?_,?_,?_⟩ <;>kernel_rfl
noncomputable abbrev Ya(b:ak)(t:Act):ak:=b.at t [.inRegion SX (1 :: [2]),.code .ret]
section
variable {w:af}{Q:ak->List ak->af->Prop}{b:ak}{t:Act}{cs:List ak}{sv:aj}
def abU(h:∀(b:ak) (t:Act),b.fn=5->b.kind=.normal->t.defers= []->t.tmps.size=5->To prog Q (af0 prog 13 #[sv,.int .i64 9] .normal) (Ya b t :: cs) w):To prog Q (af0 prog 5 #[sv] .normal) cs w:=by
 have HQ:Hid _:=h;clear h;rw[enter_at (body:=y8) func5 rfl,Mt];walk_nrmf ntmps5;refine To.dU λK hK=>?_;dsimp only[y8,cA,cB,Tryz.f5,aa0];go_wp2_with fail
 refine .step (λ_=>ao1) (.region ?_);rw[PZ];refine To.uh abS ?_;obtain⟨o,r1,r2,r3,cl,r4,r5,r6⟩:=P2;refine To.call r1 r2 r4 r5 func13 Yl rfl ?_ (HQ.out _ _ rfl rfl rfl (by simp[at9]));rw[r6];simp[Act.eval,at9]
def Ud(hb:b.fn=5)(hk:b.kind=.normal)(hd:t.defers= [])(hs:t.tmps.size=5)(h:∀fr:ak,fr.fn=5->(∀u,fr.leaving prog u (.returned (.bool Z6)))->To prog Q fr cs w):To prog Q ((Ya b t).finish (.bool Z6)) cs w:=by
 obtain⟨o,r1,r2,r3,-⟩:=P2;rw[eM r1,r3];have e:=OG (v:=.bool Z6) (I:4<t.tmps.size);refine To.uh (v:=.bool Z6) (w1:=w) abT (To.over (.step (λ_=>step_ret) (h _ hb λu=>⟨rfl,hd,hk,Tryz.f5,by show prog.funcs[b.fn]?=_;rw[hb];exact func5,?_⟩))) λo' e'=>?_
 ·exact(results_tmp (fn:=Tryz.f5) rfl _ _ _).trans (congrArg (λx=>Result.ok x u) (by simp only[Frame.at,at9,al8];rw[ad8 (by rw[bd2];omega)];rfl))
 ·unfold execOp;rw[e'];simp only[e];rfl
def P3(h:∀(b:ak) (t:Act),b.fn=13->b.kind=.normal->jI t sv w.heap.size 7 1->To prog Q (b.at t A5) cs (w.alloc jS)):To prog Q (af0 prog 13 #[sv,.int .i64 9] .normal) cs w:=by
 have HQ:Hid _:=h;clear h;unfold jS at *;rw[enter_at (body:=cO) func13 rfl,Mv];walk_nrmf ntmps13;refine To.dU λK hK=>?_;dsimp only[cO,eZ,cA,cB,f13,aa0];go_wp2_with fail
 refine To.dU λK hK=>?_;dsimp only[cO,eZ,cA,cB,f13,aa0];go_wp2_with fail
 refine To.dU λK hK=>?_;dsimp only[cO,eZ,cA,cB,f13,aa0];go_wp2_with fail
 refine .step (λ_=>ao1) (To.dU λK hK=>?_);dsimp only[cO,eZ,cA,cB,f13,aa0];go_wp2_with fail
 exact .step (λ_=>az3) (.step (λ_=>step_loop) (HQ.out _ _ rfl rfl ⟨rfl,rfl,rfl,rfl,rfl,rfl,rfl⟩))
end
def Ue{W:af}{sa:Option aA}{ops:List Iy}(hl:ops.length<=1466015503660)(hO:rM W sa ops)(hok:∀x∈ops,xG W x):
 ku (aaf 5 W) (λ_=>False) (af0 prog 5 #[.slice sa ops.length cap] .normal) [] W:=by
 refine ku.walk (R:=λv fr c w=>∃(b:ak) (t:Act) (b':ak) (t':Act),b.fn=5/\b.kind=.normal/\t.defers= []/\t.tmps.size=5/\b'.fn=13/\b'.kind=.normal/\jI t' (.slice sa ops.length cap) v.heap.size 7 1/\fr=b'.at t' A5/\c= [Ya b t]/\w=v.alloc jS) (λv fr c w hr=>?_) (λv hv=>abU λb t e1 e2 e3 e4=>P3 λb' t' g1 g2 g3=>To.done ⟨b,t,b',t',e1,e2,e3,e4,g1,g2,g3,rfl,rfl,rfl⟩) (λv fr c w W1 hv hr hw=>?_)
 ·obtain⟨b,t,b',t',_,_,_,_,_,_,_,rfl,rfl,_⟩:=hr;intro x hx ch;simp only[ar9,at5,or_false]at hx;rcases hx with rfl|rfl<;>simp[Frame.at]
 ·obtain⟨b,t,b',t',e1,e2,e3,e4,g1,g2,g3,rfl,rfl,rfl⟩:=hr;have eh:=P4 hv;have hz:v.heap.size=W.heap.size:=by rw[eh]
  have hB:Below v.heap.size v (v.alloc jS):=(Below.refl _ _).alloc (zc4 _) _;have hA:G2 W v.heap.size (1-1:Nat) (λ_=>False) W1:=⟨_,hw,_,_,_,_,LW.begin v,I,⟨λk hk=>hk.elim,λk hk=>⟨by unfold X5;rw[if_neg I],(hB.block k I).trans (by rw[eh])⟩,by have:=hB.size;omega,hv.out,by rw[show (v.alloc jS).os=v.os from rfl,hv.os];exact .refl _⟩⟩
  refine y7 g1 g2 hO hok hl (λx hx ch=>?_) (λu ch=>?_) (λSb W2 n hC=>?_) 9 I (zc4 _) g3 hA
  ·simp only[ar9,at5,or_false]at hx;subst hx;simp[Frame.at]
  ·obtain⟨o,r1,_⟩:=P2;rw[eM r1];simp[Frame.at]
  ·refine ku.walk (R:=λu fr c w'=>fr.fn=5/\fr.mode=.returning/\(∀x,fr.leaving prog x (.returned (.bool Z6)))/\c= []/\w'=u) (λu fr c w' hr=>?_) (λu hu=>Ud e1 e2 e3 e4 λfr e hl=>To.done ⟨e,(hl u).1,hl,rfl,rfl⟩) (λu fr c w' W3 hu hr nU=>?_)
   ·obtain⟨_,e,_,rfl,_⟩:=hr;intro x hx ch;simp only[ar9,at5,or_false]at hx;subst hx;rw[e];simp
   ·obtain⟨h1,_,h2,rfl,rfl⟩:=hr;refine ku.done ⟨rfl,h1,h2,?_⟩;obtain⟨τ,a,M,c,k1,k2,k3⟩:=hC.lone hu;exact⟨λk hk=>(nU.same k λe=>by have:=(k3.sb k e).1;omega).symm.trans (k3.old k hk).2,by rw[<-nU.size];exact k3.size,nU.out.symm.trans k3.out,by rw[<-nU.os];exact k3.os⟩
def Mw:prog.inits.idxOf? 5=F:=Yl
end
end Go.Proofs.YteoahlieielcdaaGreat
