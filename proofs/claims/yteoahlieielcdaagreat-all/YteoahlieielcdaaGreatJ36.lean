import Derived.Test.YteoahlieielcdaaGreatJ26
import Derived.Test.YteoahlieielcdaaGreatJ10
import Derived.Test.YteoahlieielcdaaGreatJ14
import Derived.Test.YteoahlieielcdaaGreatY1
import Derived.Test.YteoahlieielcdaaGreatJ8
set_option linter.all false
set_option maxHeartbeats 8000000
set_option maxRecDepth 100000
open Option renaming some->Y,none->F,getD_some->aa0
open Bool renaming false->E,true->Z6
open Exists renaming intro->aa1
open List renaming getElem?_map->ai8,length_filter_le->az2
open Array renaming getD_eq_getD_getElem?->al8
open Nat renaming zero_le->ak8,le_of_eq->as9
namespace Go.Proofs.YteoahlieielcdaaGreat
open Go.Proofs.Tryz
abbrev zcq:=@Nat.le_refl
abbrev zcr:=@Nat.lt_of_lt_of_le
abbrev zcs:=@Nat.le_trans
abbrev zct:=@List.drop_of_length_le
abbrev zcu:=@Nat.not_lt_zero
variable{i n off N0 g' sz j:Nat}{x:ah}{J:Jm}{w w₁ W u:af}{v:aj}{O:aL}{a:Act}{P:aB}{b cl fF:ak}{cs c:List ak}{k:List Item}{o:Oper}{Q:ak->List ak->af->Prop}
section
open Go Go.Conc Go.ConcM Go.RowKit Go.MuLone Go.Maps
variable {L:eI}{bT:Nat->au->af->(Nat->Prop)->(Nat->Prop)->Prop}
def XC(b0 b1 bc ba b4:Nat):Array aj:=#[.pointer (Y ⟨b0,0,F⟩),.pointer (Y ⟨b1,0,F⟩),.pointer (Y ⟨bc,0,F⟩),.pointer (Y ⟨ba,0,F⟩),.pointer (Y ⟨b4,0,F⟩)]
def aa3:∃n,∀(pr ba bc asked kb N bR i b1 b4 b0 r:Nat) (O1:aL) (W:af) (O:aL) (a:Act) (w:af) (Q:eK),
 1<=r->asked<=1000->Tu L->O.pos=.mn (.sp r)->¬O.own L.Wg->Ep L.tw L.Wg w->
 yT a pr ba bc L.Wg asked->EX a kb N bR i->a.tmps[8]?=Y (.pointer (Y ⟨b4,0,F⟩))->a.tmps[9]?=Y (.pointer (Y ⟨b1,0,F⟩))->a.tmps[10]?=Y (.pointer (Y ⟨b0,0,F⟩))->bJ L O1 W O w->
 Hid (∀(w1:af),RX L O w w1->∀(O2:aL) (w2:af) (bw bf:Nat),dZ L O w1 O.fu (.go r) O2 w2->w1.heap.size<=bw->w1.heap.size<=bf->bw≠bf->OB bw (.cells #[.pointer (Y ⟨L.Wg,0,F⟩)] 215) O2 w2->OB bf (.cells #[.func (.func 80) #[] (XC b0 b1 bc ba b4)] 1) O2 w2->bT r (born prog (yD bw bf)) w2 O2.own (λ_=>False))->
 cZ prog Z6 (jc prog L.tw L.Wg bT) (RX L) (DX L) 44 (cB (cB (cB EZ))) n (bn (λO' a' w'=>yT a' pr ba bc L.Wg (asked+1)/\EX a' kb N bR i/\(∀b,¬O'.own b)/\O'.pos=.mn (.sp (r-1))/\O'.fu<=O.fu/\Ep L.tw L.Wg w'/\RX L O' w w') Q) O a w:=by
 obtain⟨ng,hgo⟩:=ae9 (L:=L) (bT:=bT);co_apply aa1;intro pr ba bc asked kb N bR i b1 b4 b0 r O1 W O a w Q hr ha1 hok hpos hno wK hl mS g8 g9 L5 hF EN;dsimp only[EZ,BM,yh,mJ,cA,cB,cI,cT,cE,f44,aa0];obtain⟨hd,hsz,g0,g4,g5,g6,g7⟩:=hl;obtain⟨AX,AY,yd⟩:=mS;obtain⟨fv,hT,aP⟩:=tX hd hsz;subst hT;simp only[aP 0 _ g0,aP 4 _ g4,aP 5 _ g5,aP 6 _ g6,aP 7 _ g7,aP 8 _ g8,aP 9 _ g9,aP 10 _ L5,aP 22 _ AX,aP 23 _ AY,aP 24 _ yd];clear hd hsz aP g0 g4 g5 g6 g7 g8 g9 L5 AX AY yd;have hm1:=mH prog;have hm2:=oa prog;have hS:RX L O w w/\dZ L O w O.fu (.sp r) O w:=⟨RX.refl _ _,⟨rA.refl hF.top,hok,hpos,hno,zcq _,wK⟩⟩
 clear hF;have rl:∀{Wa Wb:af},(RX L O w Wa/\dZ L O w O.fu (.sp r) O Wa)->RX L O Wa Wb->(RX L O w Wb/\dZ L O w O.fu (.sp r) O Wb):=λh x=>⟨h.1.trans x,h.2.rely x⟩
 have AR:IntKind.i64.wrap ((asked:Int)+1)=((asked+1:Nat):Int):=by rw[IntKind.wrap_i64];omega
 co_apply (iw);(co_apply (vu);intro _ hR;replace hS:=rl hS hR;clear hR;refine⟨YU,λK z=>?_⟩;go_simp;refine z _ ?_;clear z K;try walk_nrm);(co_apply (vu);intro _ hR;replace hS:=rl hS hR;clear hR;refine⟨YU,λK z=>?_⟩;go_simp;refine z _ ?_;clear z K;try walk_nrm);(co_apply (vu);intro _ hR;replace hS:=rl hS hR;clear hR;refine⟨YU,λK z=>?_⟩;go_simp;refine z _ ?_;clear z K;try walk_nrm);co_apply (iw);(co_apply aO rfl Ym;intro _ hR K hK;replace hS:=rl hS hR;clear hR;(skip);go_simp;refine hK _ ⟨?_,?_⟩;(focus(rw[listed_nil (by simp[go_sem,hm2])];exact DX.idle _ _));clear hK K;try walk_nrm);co_apply bX (aF L) rfl Ym rfl (by walk_nrm;exact hgo (.func 80) (XC b0 b1 bc ba b4) O _ O.fu r (λ_=>False) _ _ hr ⟨rA.refl hS.2.fr.top,hok,hpos,hno,zcq _,hS.2.live⟩ (λ_ h=>h.elim) (EN.out _ hS.1));rintro O2 x W2 ⟨rfl,hown,gN⟩;have hoe:∀b,¬O2.own b:=λb h=>by rw[hown]at h;exact h
 have Pk:RX L O2 w W2:=(hS.1.anti (λi h=>(hoe i h).elim)).trans (gN.fr.rel.anti (λi h=>(hoe i h).elim));clear hS;walk_nrm;co_apply (iw);exact⟨⟨rfl,rfl,rfl,rfl,rfl,by simp[AR],rfl⟩,⟨rfl,rfl,rfl⟩,hoe,gN.pos,gN.fu,gN.live,Pk⟩
end
section
open Go Go.Conc Go.ConcM Go.RowKit Go.MuLone Go.Maps
structure fR where
 pr:Nat
 ba:Nat
 bc:Nat
 kb:Nat
 N:Nat
 bR:Nat
 ab:Nat
 lY:Nat
 qm:Nat
 keys:List ah
 f:Lit->Option aj
 qb:ah->Nat
 p:ah->Prop
 wn:ah->Nat
 hv:ah->Bool
 tv:ah->ah
 ts:ah->aj
 fm:ah->ah->Bool
abbrev fR.En(d:fR)(x:ByteArray):Prop:=yS d.p d.wn d.hv d.fm x
structure pP(L:eI)(W:af)(d:fR):Prop where
 qs:N9 L W d.pr d.qm d.f d.qb d.p d.wn d.hv d.tv d.ts d.fm
 h8:∀(u:af) (n:Nat) (D:DataW aj),u.ownsMap prog 9 aY d.qm n D->Says D d.f->Maps.size D<=8
 isq:∀x,d.p x->(d.f (.string x.data.toList)).isSome=Z6
 len:d.keys.length=d.N
 n8:d.N<=8
 kc:W.cell? ⟨d.pr,3,F⟩=.some (.slice (.some ⟨d.kb,0,F⟩) d.N d.bR)
 kf:L.Fx d.kb
 key:∀(i:Nat) (x:ah),d.keys[i]?=.some x->W.cell? ⟨d.kb,i,F⟩=.some (.string x)/\x.size<=1000/\d.p x/\d.f (.string x.data.toList)=.some (.pointer (.some ⟨d.qb x,0,F⟩))
 XD:L.Fx d.ba
 bac:W.cell? ⟨d.ba,0,F⟩=.some (.slice (.some ⟨d.ab,0,F⟩) d.N d.lY)
 tvs:∀x,d.p x->(d.tv x).size<=1000
 abf:¬L.Fx d.ab
 abc:∀a,L.og a->a.block≠d.ab
 abw:L.Wg≠d.ab
 abs:L.Sh d.ab
 abb:∃c e,W.heap[d.ab]?=.some (.cells c e)/\c.size=d.N*3
 abn:d.ab<L.N
 mn:∀(i:Nat) (x:ah),d.keys[i]?=.some x->d.En x->∀j,j<3->L.Mn ⟨d.ab,i*3+j,F⟩
 wg:Tu L
 top:L.N<=W.heap.size
open Classical in
noncomputable def fR.rem(d:fR)(i:Nat):Nat:=((d.keys.drop i).filter λx=>decide (¬d.En x)).length
open Classical in
noncomputable def fR.oY(d:fR)(i:Nat):Nat:=((d.keys.take i).filter λx=>decide (¬d.En x)).length
open Classical in
def fR.pQ(d:fR)(h:d.keys[i]?=Y x):(d.En x->d.rem i=d.rem (i+1)/\d.oY (i+1)=d.oY i)/\(¬d.En x->d.rem i=d.rem (i+1)+1/\d.oY (i+1)=d.oY i+1):=by
 obtain⟨hlt,rfl⟩:=List.getElem?_eq_some_iff.1 h;have e1:d.keys.drop i=d.keys[i] :: d.keys.drop (i+1):=List.drop_eq_getElem_cons hlt;have e2:d.keys.take (i+1)=d.keys.take i++ [d.keys[i]]:=List.take_succ_eq_append_getElem hlt;unfold fR.rem fR.oY;rw[e1,e2];clear e1 e2 h;generalize d.keys[i]=y;generalize List.drop (i+1) d.keys=A;generalize List.take i d.keys=B;constructor
 ·intro hE;simp[hE]
 ·intro hE;simp[hE]
def fR.TH(d:fR)(h:d.keys.length=d.N):d.rem d.N=0:=by unfold fR.rem;rw[zct I];simp
def fR.TI(d:fR)(i:Nat):d.oY i<=d.keys.length:=by unfold fR.oY;refine zcs (az2 _ _) ?_;rw[List.length_take];omega
variable {L:eI}{bT:Nat->au->af->(Nat->Prop)->(Nat->Prop)->Prop}
def XE(L:eI)(bT:Nat->au->af->(Nat->Prop)->(Nat->Prop)->Prop)(W:af)(d:fR):Prop:=
 ∀(i:Nat) (x:ah) (b0 b1 b4 bw bf:Nat) (O2:aL) (w2:af),d.keys[i]?=Y x->¬d.En x->(∀b,O2.own b->W.heap.size<=b)->RS L W w2->Ep L.tw L.Wg w2->
  OB b0 (.cells #[.pointer (Y ⟨d.qb x,0,F⟩)] 139) O2 w2->OB b1 (.cells #[.string x] 9) O2 w2->OB b4 (.cells #[.int .i64 i] 3) O2 w2->
  OB bw (.cells #[.pointer (Y ⟨L.Wg,0,F⟩)] 215) O2 w2->OB bf (.cells #[.func (.func 80) #[] (XC b0 b1 d.bc d.ba b4)] 1) O2 w2->
  bT (d.rem i) (born prog (yD bw bf)) w2 O2.own (λ_=>False)
structure ZB(L:eI)(W:af)(d:fR)(k i:Nat)(O:aL)(a:Act)(w:af):Prop where
 l:yT a d.pr d.ba d.bc L.Wg (d.oY i)
 ii:EX a d.kb d.N d.bR i
 iN:i<=d.N
 pos:O.pos=.mn (.sp (d.rem i))
 own:∀b,O.own b->W.heap.size<=b
 fu:O.fu<=k
 rs:RS L W w
 live:Ep L.tw L.Wg w
 Ks:∀(j:Nat) (x:ah),j<i->d.keys[j]?=Y x->d.En x->N7 d.ab j x (d.wn x) (d.tv x) w
def aa4{main:Bool}:∃n,∀(pr ba bc wg asked kb N bR i:Nat) (O1:aL) (W:af) (O:aL) (a:Act) (w:af) (Q:eK),
 i<=8->yT a pr ba bc wg asked->EX a kb N bR i->bJ L O1 W O w->
 cZ prog main J (RX L) (DX L) 44 (cB (cB (cB BM))) n (bn (λO' a' w'=>yT a' pr ba bc wg asked/\EX a' kb N bR (i+1)/\O'=O/\bJ L O1 W O' w') Q) O a w:=by
 co_apply aa1;intro pr ba bc wg asked kb N bR i O1 W O a w Q hi8 hl mS hF;dsimp only[BM,yh,mJ,cA,cB,cI,cT,cE,f44,aa0];obtain⟨hd,hsz,g0,g4,g5,g6,g7⟩:=hl;obtain⟨AX,AY,yd⟩:=mS;obtain⟨fv,hT,aP⟩:=tX hd hsz;subst hT;simp only[aP 0 _ g0,aP 4 _ g4,aP 5 _ g5,aP 6 _ g6,aP 7 _ g7,aP 22 _ AX,aP 23 _ AY,aP 24 _ yd];clear hd hsz aP g0 g4 g5 g6 g7 AX AY yd;have AR:IntKind.i64.wrap ((i:Int)+1)=((i+1:Nat):Int):=by rw[IntKind.wrap_i64];omega
 co_apply (iw);co_apply (kJ);intro _ hF;co_apply (kJ);intro _ hF;co_apply (iw);exact⟨⟨rfl,rfl,rfl,rfl,rfl,rfl,rfl⟩,⟨rfl,rfl,by simp[AR]⟩,Z5,hF⟩
def afH{main:Bool}:∃n,∀(pr ba bc wg asked kb N bR i:Nat) (O1:aL) (W:af) (O:aL) (a:Act) (w:af) (Q:eK),
 yT a pr ba bc wg asked->EX a kb N bR i->bJ L O1 W O w->
 cZ prog main J (RX L) (DX L) 44 (cA BM) n (bn (λO' a' w'=>yT a' pr ba bc wg asked/\EX a' kb N bR i/\a'.tmps[25]?=Y (.bool (decide (i<N)))/\O'=O/\bJ L O1 W O' w') Q) O a w:=by co_apply aa1;intro pr ba bc wg asked kb N bR i O1 W O a w Q hl mS hF;dsimp only[BM,yh,mJ,cA,cB,cI,cT,cE,f44,aa0];obtain⟨hd,hsz,g0,g4,g5,g6,g7⟩:=hl;obtain⟨AX,AY,yd⟩:=mS;obtain⟨fv,hT,aP⟩:=tX hd hsz;subst hT;simp only[aP 0 _ g0,aP 4 _ g4,aP 5 _ g5,aP 6 _ g6,aP 7 _ g7,aP 22 _ AX,aP 23 _ AY,aP 24 _ yd];clear hd hsz aP g0 g4 g5 g6 g7 AX AY yd;co_apply (iw);co_apply (kJ);intro _ hF;co_apply (iw);exact⟨⟨rfl,rfl,rfl,rfl,rfl,rfl,rfl⟩,⟨rfl,rfl,rfl⟩,XI,Z5,hF⟩
end
section
open Go Go.Conc Go.ConcM Go.RowKit Go.MuLone Go.Maps
variable {L:eI}{bT:Nat->au->af->(Nat->Prop)->(Nat->Prop)->Prop}
def RS.bg{W w:af}(h:RS L W w){a:aA}{v:aj}(hc:W.cell? a=Y v)(hx:L.Fx a.block):w.cell? a=Y v:=h.fxs.bg hc hx
def sH.rs{g:ah->Bool}(h:sH L w v g)(x:RS L w w₁):sH L w₁ v g:=by
 cases h with
 |none=>exact .none
 |keys a Ls cap h8 hc=>exact .keys a Ls cap h8 λk y hy=>by obtain⟨g,hg,e,hh⟩:=hc k y hy;exact⟨g,hg,e,x.bg hh hg⟩
 |mask m=>exact .mask m
def N9.rs{w w₁:af}{pr qm:Nat}{f:Lit->Option aj}{qb:ah->Nat}{p:ah->Prop}{wn:ah->Nat}{hv:ah->Bool}{tv:ah->ah}{ts:ah->aj}{fm:ah->ah->Bool}(h:N9 L w pr qm f qb p wn hv tv ts fm)(x:RS L w w₁):N9 L w₁ pr qm f qb p wn hv tv ts fm:=
 ⟨h.fp,x.bg h.cell h.fp,h.fq,yU h.map h.fq x.fxs,h.meets,h.fx,λy hy=>x.bg (h.c2 y hy) (h.fx y hy),λy hy=>x.bg (h.c3 y hy) (h.fx y hy),λy hy=>x.bg (h.c4 y hy) (h.fx y hy),λy hy=>x.bg (h.c5 y hy) (h.fx y hy),λy hy=>(h.L2 y hy).rs x,h.bd⟩
def pP.cells{d:fR}(h:pP L W d)(x:RS L W w)(hi:i<d.N):∀j,j<3->(∃v,w.cell? ⟨d.ab,i*3+j,F⟩=Y v)/\w.frozen? ⟨d.ab,i*3+j,F⟩=E:=by
 intro j hj;obtain⟨c,e,hb,hsz⟩:=h.abb;obtain⟨c',hb',hs'⟩:=x.sh d.ab c e _ h.abs hb;have hlt:i*3+j<c'.size:=by rw[hs',hsz];omega
 exact⟨⟨c'[i*3+j],by simp[World.cell?,hb',hlt]⟩,by simp[World.frozen?,hb']⟩
def Pm:∃n,∀(W:af) (d:fR) (k:Nat) (Q:eK),pP L W d->XE L bT W d->(∀O a w,ZB L W d k d.N O a w->Q O (.exit 0) a w)->
 ∀(j:Nat) (O:aL) (a:Act) (w:af),(∃i,d.N-i<=j/\ZB L W d k i O a w)->
 cZ prog Z6 (jc prog L.tw L.Wg bT) (RX L) (DX L) 44 BM n (bn (λO' a' w'=>∃j',j'<j/\∃i,d.N-i<=j'/\ZB L W d k i O' a' w') Q) O a w:=by
 obtain⟨n6,h6⟩:=afH (L:=L) (main:=Z6) (J:=jc prog L.tw L.Wg bT);obtain⟨n7,h7⟩:=afw (L:=L) (main:=Z6) (J:=jc prog L.tw L.Wg bT);obtain⟨n8,h8⟩:=afz (L:=L) (main:=Z6) (J:=jc prog L.tw L.Wg bT);obtain⟨n9,h9⟩:=afB (L:=L) (main:=Z6) (J:=jc prog L.tw L.Wg bT);obtain⟨n10,KC⟩:=aa2 (L:=L) (main:=Z6) (J:=jc prog L.tw L.Wg bT);obtain⟨n12,h12⟩:=aa3 (L:=L) (bT:=bT);obtain⟨n13,h13⟩:=aa4 (L:=L) (main:=Z6) (J:=jc prog L.tw L.Wg bT);co_apply aa1;intro W d k Q hD EN hE j O a wi hI;obtain⟨i,hij,hI⟩:=hI;have Pn:L.N<=wi.heap.size:=zcs hD.top hI.rs.le;co_apply aM (aF L) (x:=cA BM) (y:=cB BM) _;focus exact h6 _ _ _ _ _ _ _ _ i O wi O a wi _ hI.l hI.ii (bJ.refl Pn)
 rintro O' a' w' ⟨hl,mS,g25,rfl,hF⟩;co_apply pN (aF L) (x:=cA (cB BM)) (y:=cB (cB BM));co_apply aW (aF L) (t:=decide (i<d.N))
 ·simp[Act.eval,g25]
 rotate_left
 ·intro hge;have GX:i=d.N:=by have:=hI.iN;simp at hge;omega
  co_apply tV (aF L);refine hE O' a' w' ?_;rw[GX]at hI hl mS;exact⟨hl,mS,zcq _,hI.pos,hI.own,hI.fu,hI.rs.trans hF.rel.rs,hF.rel.live hI.live,λj' x hj hx Ex=>by have hm:=hD.mn j' x hx Ex;obtain⟨q1,q2,q3⟩:=hI.Ks j' x hj hx Ex;exact⟨(hF.rel.mn _ (hm 0 I)).1.trans q1,(hF.rel.mn _ (hm 1 I)).1.trans q2,(hF.rel.mn _ (hm 2 I)).1.trans q3⟩⟩
 intro hlt;have GX:i<d.N:=by simpa using hlt
 co_apply jr (aF L);co_then;obtain⟨x,hx⟩:∃x,d.keys[i]?=Y x:=⟨d.keys[i]'(by rw[hD.len];exact GX),List.getElem?_eq_getElem _⟩
 obtain⟨r1,r2⟩:=d.pQ hx;obtain⟨k1,k2,k3,k4⟩:=hD.key i x hx;have yg:=hD.qs.rs hI.rs;have hrs:=hI.rs;co_apply aM (aF L) (x:=cA (cB (cB BM))) (y:=cB (cB (cB BM))) (λO'' a'' w''=>yT a'' d.pr d.ba d.bc L.Wg (d.oY (i+1))/\EX a'' d.kb d.N d.bR i/\O''.pos=.mn (.sp (d.rem (i+1)))/\(∀b,O''.own b->W.heap.size<=b)/\O''.fu<=k/\RS L W w''/\Ep L.tw L.Wg w''/\∀(j:Nat) (x:ah),j<i+1->d.keys[j]?=Y x->d.En x->N7 d.ab j x (d.wn x) (d.tv x) w'');rotate_left
 ·rintro O2 a2 w2 ⟨q1,q2,q3,q4,q5,q6,q7,q8⟩;refine pO (h13 _ _ _ _ _ _ _ _ i O2 w2 O2 a2 w2 Q (by have:=hD.n8;omega) q1 q2 (bJ.refl (zcs hD.top q6.le))) λO3 e a3 w3 q=>?_;cases e with
  |normal=>
   obtain⟨p1,p2,rfl,p4⟩:=q;exact⟨d.N-(i+1),I,i+1,zcq _,p1,p2,I,q3,q4,q5,q6.trans p4.rel.rs,p4.rel.live q7,λj' y hj hy Ex=>by have hm:=hD.mn j' y hy Ex;obtain⟨s1,s2,s3⟩:=q8 j' y hj hy Ex;exact⟨(p4.rel.mn _ (hm 0 I)).1.trans s1,(p4.rel.mn _ (hm 1 I)).1.trans s2,(p4.rel.mn _ (hm 2 I)).1.trans s3⟩⟩
  |_=>exact q
 co_apply fP (aF L) (c:=EZ);co_apply aM (aF L) (x:=cA EZ) (y:=cB EZ) _;focus exact h7 _ _ _ _ _ _ _ _ i x O' wi O' a' w' _ hD.kf GX hD.n8 (hrs.bg k1 hD.kf) hl mS hF
 rintro O2 a2 w2 ⟨hl,mS,b1,b4,jd,KF,g8,g9,hF,mg,sI⟩;co_apply aM (aF L) (x:=cA (cB EZ)) (y:=cB (cB EZ)) _;focus exact h8 _ _ _ _ _ _ _ _ i d.qm (d.qb x) b1 b4 d.f x O' wi O2 a2 w2 _ hD.qs.fp yg.cell hD.qs.fq yg.map k4 k2 hl mS g8 g9 hF mg sI
 rintro O3 a3 w3 ⟨hl,mS,g8,g9,b0,hb0,L5,hF,qQ,mg,sI⟩;co_apply pN (aF L) (x:=cA (cB (cB EZ))) (y:=cB (cB (cB EZ)));co_apply aM (aF L) (x:=cA (cA (cB (cB EZ)))) (y:=cB (cA (cB (cB EZ)))) _;focus exact h9 _ _ _ _ _ _ _ _ i d.qm b1 b4 b0 (d.qb x) d.f d.qb d.p d.wn d.hv d.tv d.ts d.fm x O' wi O3 a3 w3 _ yg hD.h8 hD.isq k2 k4 k3 hl mS g8 g9 L5 hF qQ mg sI
 rintro O4 a4 w4 ⟨hl,mS,g8,g9,L5,⟨b,g37,hb⟩,hF,qQ,mg,sI⟩;have hsame:∀{O5:aL} {w5:af},RX L O5 w4 w5->∀(j':Nat) (y:ah),j'<i->d.keys[j']?=Y y->d.En y->N7 d.ab j' y (d.wn y) (d.tv y) w5:=λhR j' y hj hy Ex=>by have hm:=hD.mn j' y hy Ex;obtain⟨s1,s2,s3⟩:=hI.Ks j' y hj hy Ex;exact⟨((hR.mn _ (hm 0 I)).1.trans (hF.rel.mn _ (hm 0 I)).1).trans s1,((hR.mn _ (hm 1 I)).1.trans (hF.rel.mn _ (hm 1 I)).1).trans s2,((hR.mn _ (hm 2 I)).1.trans (hF.rel.mn _ (hm 2 I)).1).trans s3⟩
 have VX:∀b,O4.own b->W.heap.size<=b:=λb hb=>(hF.new b hb).elim (hI.own b) λh=>zcs hrs.le h;co_apply aW (aF L) (t:=b)
 ·simp[Act.eval,g37]
 ·intro Ob;have BN:d.En x:=hb.1 Ob;obtain⟨e1,e2⟩:=r1 BN;have hmn:=hD.mn i x hx BN;co_apply aM (aF L) (x:=cA (cT (cB (cA (cB (cB EZ)))))) (y:=cB (cT (cB (cA (cB (cB EZ)))))) _;focus exact KC _ _ _ _ _ _ _ _ i b1 b4 b0 (d.qb x) d.ab d.lY (d.wn x) (d.tv x) x (λo=>wi.cell? ⟨d.ab,o,F⟩) O' wi O4 a4 w4 _ hD.XD (hrs.bg hD.bac hD.XD) GX hD.n8 (hD.qs.fx x k3) (yg.c2 x k3) (yg.c4 x k3) (hD.tvs x k3) hD.abf hD.abc hD.abw (zcr hD.abn Pn) (λh=>by have:=hI.own _ h;have:=hD.abn;have:=hD.top;omega) (λj' hj=>⟨hmn j' hj,hD.cells hrs GX j' hj⟩) (λo v ho _=>ho) hl mS g8 g9 L5 hF qQ mg sI
  rintro O5 a5 w5 ⟨hl,mS,hgh,hnew,aa5,L8,dY⟩;co_apply tV (aF L);co_then;refine⟨by rw[e2];exact hl,mS,by rw[hgh.1,hI.pos,e1],λb hb=>(hnew b hb).elim (hI.own b) λh=>zcs hrs.le h,by rw[hgh.2];exact hI.fu,hrs.trans aa5,aa5.live hI.live,λj' y hj hy Ex=>?_⟩;by_cases e:j'=i
  ·subst e;rw[hx]at hy;cases hy;exact L8
  ·have hm:=hD.mn j' y hy Ex;obtain⟨s1,s2,s3⟩:=hI.Ks j' y I hy Ex;exact⟨dY _ _ s1 (hm 0 I) (.inl I),dY _ _ s2 (hm 1 I) (.inl I),dY _ _ s3 (hm 2 I) (.inl I)⟩
 ·intro XF;have BN:¬d.En x:=λh=>by rw[hb.2 h]at XF;cases XF
  obtain⟨e1,e2⟩:=r2 BN;co_apply jr (aF L);co_then;have aky:=d.TI i;have hn8:=hD.n8;have hlen:=hD.len;refine pO (h12 _ _ _ _ _ _ _ i b1 b4 b0 (d.rem i) O' wi O4 a4 w4 (ju 1 (bn (λ_ _ _=>False) Q)) I I hD.wg (by rw[hF.gh.1,hI.pos]) (λh=>by have:=VX _ h;have:=hD.wg.lo;have:=hD.top;omega) (hF.rel.live hI.live) hl mS g8 g9 L5 hF ?_) λO6 e a6 w6 q=>?_
  ·intro w1 hR O2' w2' bw bf hS hbw XF _ hBw ZC;refine EN i x b0 b1 b4 bw bf O2' w2' hx BN (λb hb=>(hS.fr.new b hb).elim (VX b) λh=>zcs (zcs (zcs hrs.le hF.rel.le) hR.le) h) (((hrs.trans hF.rel.rs).trans hR.rs).trans hS.fr.rel.rs) hS.live ((qQ.rely hR).SN hS.fr) ((mg.rely hR).SN hS.fr) ((sI.rely hR).SN hS.fr) hBw ZC
  ·cases e with
   |normal=>
    obtain⟨p1,p2,p3,p4,p5,p6,p7⟩:=q;have EY:d.rem i-1=d.rem (i+1):=I
    rw[EY]at p4;refine⟨by rw[e2];exact p1,p2,p4,λb hb=>(p3 b hb).elim,zcs p5 (by rw[hF.gh.2];exact hI.fu),(hrs.trans hF.rel.rs).trans p7.rs,p6,λj' y hj hy Ex=>?_⟩;by_cases e:j'=i
    ·subst e;rw[hx]at hy;cases hy;exact absurd Ex BN
    ·exact hsame p7 j' y I hy Ex
   |exit id=>
    simp only[bn,ju,Exit.then,Exit.inBlock]at q⊢;split at q
    ·exact q.elim
    ·rename_i hid;rw[if_neg hid];exact q
   |_=>exact q
structure TJ(L:eI)(W:af)(d:fR)(O:aL)(a:Act)(w:af):Prop where
 d0:a.defers= []
 r2:a.tmps[2]?=Y (.slice (Y ⟨d.ab,0,F⟩) d.N d.lY)
 r3:a.tmps[3]?=Y (.int .i64 (d.oY d.N))
 pos:O.pos=.mn .rt
 rs:RS L W w
 Ks:∀(j:Nat) (x:ah),d.keys[j]?=Y x->d.En x->N7 d.ab j x (d.wn x) (d.tv x) w
def TJ.rely{d:fR}(hD:pP L W d)(h:TJ L W d O a w)(r:RX L O w w₁):TJ L W d O a w₁:=
 ⟨h.d0,h.r2,h.r3,h.pos,h.rs.trans r.rs,λj x hx hE=>by have hm:=hD.mn j x hx hE;obtain⟨s1,s2,s3⟩:=h.Ks j x hx hE;exact⟨(r.mn _ (hm 0 I)).1.trans s1,(r.mn _ (hm 1 I)).1.trans s2,(r.mn _ (hm 2 I)).1.trans s3⟩⟩
def aa7:∃n,∀(W:af) (d:fR) (k:Nat) (O:aL) (a:Act) (w:af) (Q:eK),pP L W d->ZB L W d k d.N O a w->(∀O' a' w',TJ L W d O' a' w'->Q O' .ret a' w')->
 cZ prog Z6 (jc prog L.tw L.Wg bT) (RX L) (DX L) 44 (cB yh) n Q O a w:=by
 obtain⟨nw,hwt⟩:=Xn (L:=L) (bT:=bT);co_apply aa1;intro W d k O a w Q hD hI hQ;have hQ':Hid (∀O' a' w',TJ L W d O' a' w'->Q O' .ret a' w'):=hQ;clear hQ;obtain⟨hl,mS,GX,hpos,hown,hfu,hrs,wK,L8⟩:=hI;rw[d.TH hD.len]at hpos;dsimp only[yh,mJ,cA,cB,cI,cT,cE,f44,aa0];obtain⟨hd,hsz,g0,g4,g5,g6,g7⟩:=hl;obtain⟨fv,hT,aP⟩:=tX hd hsz;subst hT;simp only[aP 0 _ g0,aP 4 _ g4,aP 5 _ g5,aP 6 _ g6,aP 7 _ g7];clear hd hsz aP mS g0 g4 g5 g6 g7;have Pn:L.N<=w.heap.size:=zcs hD.top hrs.le;have hno:¬O.own L.Wg:=λh=>by have:=hown _ h;have:=hD.wg.lo;have:=hD.top;omega
 co_apply (iw);co_apply bX (aF L) rfl Ym rfl (by walk_nrm;exact hwt O w O.fu _ _ ⟨rA.refl Pn,hD.wg,hpos,hno,zcq _,wK⟩);rintro O2 x W2 ⟨rfl,hS⟩;have aa8:=hrs.trans hS.fr.rel.rs;have aa9:Hid (∀(j:Nat) (x:ah),d.keys[j]?=Y x->d.En x->N7 d.ab j x (d.wn x) (d.tv x) W2):=λj x hx hE=>by have hm:=hD.mn j x hx hE;obtain⟨s1,s2,s3⟩:=L8 j x (by have:=(List.getElem?_eq_some_iff.1 hx).1;rw[hD.len]at this;exact this) hx hE;exact⟨(hS.fr.rel.mn _ (hm 0 I)).1.trans s1,(hS.fr.rel.mn _ (hm 1 I)).1.trans s2,(hS.fr.rel.mn _ (hm 2 I)).1.trans s3⟩
 have Po:=hS.pos;have hF:bJ L O2 W2 O2 W2:=bJ.refl (zcs Pn hS.fr.rel.le);clear hS L8 wK hno hpos hrs;have hba:=aa8.bg hD.bac hD.XD;walk_nrm;co_apply (iw);(co_apply aO rfl Ym;intro _ hR K hK;replace hF:=bJ.rely hF hR;clear hR;(have hc:=hF.bg hba hD.XD);go_simp;refine hK _ ⟨?_,?_⟩;(focus(refine DX.still _ _ (cL (a:=⟨d.ba,0,F⟩) (.inl hD.XD) λe he=>?_);have hm:=mem_listed he;simp[go_sem,hc]at hm;exact hm));clear hK K;try walk_nrm);clear hc;co_apply (kJ);intro _ hF;co_apply (kJ);intro _ hF;co_apply (kJ);intro _ hF;co_apply (iw);refine hQ'.out _ _ _ ⟨rfl,rfl,rfl,Po,aa8.trans hF.rel.rs,λj x hx hE=>?_⟩;have hm:=hD.mn j x hx hE;obtain⟨s1,s2,s3⟩:=aa9.out j x hx hE;exact⟨(hF.rel.mn _ (hm 0 I)).1.trans s1,(hF.rel.mn _ (hm 1 I)).1.trans s2,(hF.rel.mn _ (hm 2 I)).1.trans s3⟩
def abd:∃n,∀(W:af) (d:fR) (O:aL) (a:Act) (Q:eK),pP L W d->XE L bT W d->yT a d.pr d.ba d.bc L.Wg 0->O.pos=.mn (.sp (d.rem 0))->(∀b,O.own b->W.heap.size<=b)->Ep L.tw L.Wg W->(∀O' a' w',TJ L W d O' a' w'->Q O' .ret a' w')->
 cZ prog Z6 (jc prog L.tw L.Wg bT) (RX L) (DX L) 44 yh n Q O a W:=by
 obtain⟨n5,h5⟩:=afv (L:=L) (main:=Z6) (J:=jc prog L.tw L.Wg bT);obtain⟨nr,hr⟩:=Pm (L:=L) (bT:=bT);obtain⟨n14,Xo⟩:=aa7 (L:=L) (bT:=bT);co_apply aa1;intro W d O a Q hD EN hl hpos hown wK hQ;co_apply aM (aF L) (x:=cA yh) (y:=cB yh) (λO' a' w'=>ZB L W d O.fu d.N O' a' w')
 ·co_apply aM (aF L) (x:=cA (cA yh)) (y:=cB (cA yh)) _;focus exact h5 d.pr d.ba d.bc L.Wg 0 d.kb d.N d.bR O W O a W _ hD.qs.fp hD.kc hD.n8 hl (bJ.refl hD.top)
  rintro O' a' w' ⟨hl,mS,hF⟩;co_apply fP (aF L) (c:=cI (cB (cA yh)));co_apply mY (aF L) (c:=BM) (N:=8) (λj O' a' w'=>∃i,d.N-i<=j/\ZB L W d O.fu i O' a' w') nr
  ·refine⟨0,by have:=hD.n8;omega,?_⟩;have e0:d.oY 0=0:=by unfold fR.oY;simp
   exact⟨by rw[e0];exact hl,mS,ak8 _,by rw[hF.gh.1];exact hpos,λb hb=>(hF.new b hb).elim (hown b) id,by rw[hF.gh.2];exact zcq _,hF.rel.rs,hF.rel.live wK,λj x hj=>absurd hj (zcu _)⟩
  ·intro j O1 a1 w1 hI;exact hr W d O.fu _ hD EN (λO2 a2 w2 h=>by co_then;exact h) j O1 a1 w1 hI
 ·intro O' a' w' hI;exact Xo W d O.fu O' a' w' Q hD hI hQ
end
section
open Go Go.Conc Go.ConcN Go.RowKit Go.MuLone Go.Maps
open Go.ConcR (KK wgBlock WgAt stA smA rd wr mk Payload Aside2 DC0)
def cN.weaken{main:Bool}{R:vn}{D:vo}{Stop Stop':yE}(hs:∀O g w,Stop O g w->Stop' O g w){g:au}(h:cN P main J R D Stop n O g w):cN P main J R D Stop' n O g w:=by
 have key:∀(k n:Nat) (O:aL) (g:au) (w:af),Z0 P main J R D Stop k n O g w->Z0 P main J R D Stop' k n O g w:=by
  intro k;induction k with
  |zero=>intro n O g w _;trivial
  |succ k ih=>
   intro n O g w h;refine R7.imp (λO' g' w' _ b=>?_) h;rcases b with b|⟨b1,b2⟩
   ·exact .inl λw₁ h₁=>hs _ _ _ (b w₁ h₁)
   ·exact .inr ⟨b1,λw₁ h₁=>J.mono (λown p g w ⟨n',x⟩=>⟨n',ih n' _ g w x⟩) (b2 w₁ h₁)⟩
 exact key _ _ _ _ _ h
structure Ur where
 np:Nat
 pt:Nat->Nat
 kbp:Nat->Nat
 fk:Nat->Lit->Option aj
 vl:Nat->Int->List KV
 pq:ah->Nat
 cb:Option aA
 gX:Nat
 ms:List Int
 Wg:Nat
 Sb:Nat->Prop
def agC(W:af)(d:fR)(e:Ur)(hab:d.ab<W.heap.size)(Oh:∀q,q<e.np->e.pt q<W.heap.size):eI where
 Fx b:=b<W.heap.size/\b≠d.ab/\b≠e.Wg/\(∀q,q<e.np->b≠e.pt q)/\¬e.Sb b
 og a:=a.spot=F/\2<=a.off/\∃q,q<e.np/\a.block=e.pt q
 Mn a:=∃i x,d.keys[i]?=Y x/\d.En x/\∃j,j<3/\a=⟨d.ab,i*3+j,F⟩
 Sh b:=b=d.ab\/b=e.Wg\/(∃q,q<e.np/\b=e.pt q)\/e.Sb b
 Wg:=e.Wg
 tw:=155
 N:=W.heap.size
 low:=by rintro a ⟨_,_,q,hq,h⟩;rw[h];exact Oh q hq
 J4:=by rintro a ⟨i,x,_,_,j,_,rfl⟩;exact hab
structure Qr(L:eI)(W:af)(d:fR)(e:Ur):Prop where
 pqn:∀x,d.p x->e.pq x<e.np
 part:∀q,q<e.np->lq L (e.pt q) (e.kbp q) (e.fk q) (e.vl q) W
 cq:∀x,d.p x->W.cell? ⟨d.qb x,0,F⟩=Y (.pointer (Y ⟨e.pt (e.pq x),0,F⟩))
 bcf:L.Fx d.bc
 bcc:W.cell? ⟨d.bc,0,F⟩=Y (.slice e.cb e.ms.length e.gX)
 ms8:e.ms.length<=8
 msb:∀m∈e.ms,0<=m/\m<=1000
 msc:∀(k:Nat) (m:Int),e.ms[k]?=Y m->∃g,L.Fx g/\e.cb=Y ⟨g,0,F⟩/\W.cell? ⟨g,k,F⟩=Y (.int .i64 m)
 vsz:∀x,d.p x->(valueOf (e.vl (e.pq x) (fI (e.vl (e.pq x)) x e.ms)) x).size<=1000
 inj:∀q q',q<e.np->q'<e.np->e.pt q=e.pt q'->q=q'
 WB:∀q,q<e.np->e.pt q≠e.Wg
 pta:∀q,q<e.np->e.pt q≠d.ab
 psb:∀q,q<e.np->¬e.Sb (e.pt q)
 Z2:¬e.Sb e.Wg
 asb:¬e.Sb d.ab
 mnn:∀a,L.Mn a->∃i x,d.keys[i]?=Y x/\d.En x/\∃j,j<3/\a=⟨d.ab,i*3+j,F⟩
 fcn:∀a,L.og a->a.spot=F/\2<=a.off/\∃q,q<e.np/\a.block=e.pt q
 shn:∀q,q<e.np->L.Sh (e.pt q)
 Us:∀b,L.Fx b->b<W.heap.size/\b≠d.ab/\b≠e.Wg/\(∀q,q<e.np->b≠e.pt q)/\¬e.Sb b
 wg:L.Wg=e.Wg/\L.tw=155/\L.N=W.heap.size
 ptl:∀q,q<e.np->e.pt q<W.heap.size
def VxF(d:fR)(e:Ur)(i:Nat)(x:ah)(a:aA)(u:aj):Prop:=
 (a=⟨d.ab,i*3,F⟩/\u=.string x)\/(a=⟨d.ab,i*3+1,F⟩/\u=.int .i64 (fI (e.vl (e.pq x)) x e.ms))\/(a=⟨d.ab,i*3+2,F⟩/\u=.string (valueOf (e.vl (e.pq x) (fI (e.vl (e.pq x)) x e.ms)) x))
noncomputable def Vm(L:eI)(W:af)(d:fR)(e:Ur)(off N0:Nat)(Stop:yE):Ph where
 P:=prog
 S:=⟨e.np,e.pt,e.Wg,155,e.Sb⟩
 n:=d.rem 0
 off:=off
 N0:=N0
 v0:=.pointer (Y ⟨e.Wg,0,F⟩)
 L0:=L
 IX:=λr a=>∃i x,d.keys[i]?=Y x/\¬d.En x/\d.rem i=r/\∃j,j<3/\a=⟨d.ab,i*3+j,F⟩
 Vx:=λr a u=>∃i x,d.keys[i]?=Y x/\¬d.En x/\d.rem i=r/\VxF d e i x a u
 w0:=W
 uY:=Stop
def ahS(L:eI)(w2:af)(hw:L.N<=w2.heap.size)(b0 b1 b4 bw bf ab i:Nat)(hab:ab<w2.heap.size):eI where
 Fx b:=L.Fx b\/b=b0\/b=b1\/b=b4\/b=bw\/b=bf
 og:=L.og
 Mn a:=∃j,j<3/\a=⟨ab,i*3+j,F⟩
 Sh:=L.Sh
 Wg:=L.Wg
 tw:=L.tw
 N:=w2.heap.size
 low:=λa h=>zcr (L.low a h) hw
 J4:=by rintro a ⟨j,_,rfl⟩;exact hab
def fR.Lf(d:fR):∀{i i':Nat} {x:ah},i<i'->d.keys[i]?=Y x->¬d.En x->d.rem i'<d.rem i:=by
 intro i i' x hlt hx hE;have h1:=((d.pQ hx).2 hE).1;have mono:∀k j,j<=k->d.rem k<=d.rem j:=by
  intro k;induction k with
  |zero=>intro j hj;obtain rfl:j=0:=I
         exact zcq _
  |succ k ih=>
   intro j hj;rcases Nat.lt_or_ge k j with h|h
   ·obtain rfl:j=k+1:=I
    exact zcq _
   ·refine zcs ?_ (ih j h);rcases hk:d.keys[k]? with _|y
    ·have hl:d.keys.length<=k:=by simpa using hk
     unfold fR.rem;rw[zct I,zct hl];exact zcq _
    ·by_cases hy:d.En y
     ·exact as9 ((d.pQ hk).1 hy).1.symm
     ·have:=((d.pQ hk).2 hy).1;omega
 have:=mono i' (i+1) I;omega
def lq.more{L L':eI}{pb kb:Nat}{f:Lit->Option aj}{vl:Int->List KV}(h:lq L pb kb f vl W)(x:RS L W w)(hf:∀b,L.Fx b->L'.Fx b)(hc:∀a,L.og a->L'.og a):lq L' pb kb f vl w:=
 ⟨hc _ h.fc,hf _ h.fk,(x.Hw _ h.fc).trans h.cell,yU h.map h.fk x.fxs,λm h1 h2=>by obtain⟨ad,cap,sv,e,h8,hr⟩:=h.row m h1 h2;refine⟨ad,cap,sv,e,h8,λk y hy=>?_⟩;obtain⟨g,hg,ha,c1,c2⟩:=hr k y hy;exact⟨g,hf g hg,ha,x.bg c1 hg,x.bg c2 hg⟩⟩
def Sf{L:eI}{d:fR}{e:Ur}{Stop:yE}(hD:pP L W d)(hE:Qr L W d e):XE L (@Ph.bT OO (Vm L W d e off N0 Stop)) W d:=by
 letI:=OO;intro i x b0 b1 b4 bw bf O2 w2 hx BN hown hrs wK qQ mg sI hBw ZC;obtain⟨k1,k2,k3,k4⟩:=hD.key i x hx;obtain⟨Oq,WA,wg3⟩:=hE.wg;have GX:i<d.N:=by have:=(List.getElem?_eq_some_iff.1 hx).1;rw[hD.len]at this;exact this
 have Ie:L.N<=w2.heap.size:=zcs hD.top hrs.le;have hab:d.ab<w2.heap.size:=zcr hD.abn Ie;have hq:=hE.pqn x k3;have hpl:=hE.ptl _ hq;have big:∀b,O2.own b->b≠d.ab/\b≠e.pt (e.pq x)/\¬L.Fx b:=λb hb=>by have h1:=hown b hb;have h2:=hD.abn;exact⟨I,I,λh=>by have:=(hE.Us b h).1;omega⟩
 let Lk:eI:=ahS L w2 Ie b0 b1 b4 bw bf d.ab i hab;have hPb:TC Lk (e.pt (e.pq x)):=by
  refine⟨?_,λa ha _=>(hE.fcn a ha).2.1,?_,hE.shn _ hq,zcr hpl hrs.le,by show L.Wg≠_;rw[Oq];exact Ne.symm (hE.WB _ hq)⟩
  ·rintro(h|h|h|h|h|h)
   ·exact(hE.Us _ h).2.2.2.1 _ hq rfl
   ·exact(big b0 qQ.own).2.1 h.symm
   ·exact(big b1 mg.own).2.1 h.symm
   ·exact(big b4 sI.own).2.1 h.symm
   ·exact(big bw hBw.own).2.1 h.symm
   ·exact(big bf ZC.own).2.1 h.symm
  ·rintro a ⟨j,_,rfl⟩;exact Ne.symm (hE.pta _ hq)
 obtain⟨nl,hlk⟩:=abE (main:=E) hPb;obtain⟨n,hgo⟩:=aal (J:=jo prog E (e.pt (e.pq x))) (L:=Lk) nl;have hnf:¬Lk.Fx d.ab:=by
  rintro(h|h|h|h|h|h)
  ·exact hD.abf h
  ·exact(big b0 qQ.own).1 h.symm
  ·exact(big b1 mg.own).1 h.symm
  ·exact(big b4 sI.own).1 h.symm
  ·exact(big bw hBw.own).1 h.symm
  ·exact(big bf ZC.own).1 h.symm
 have hcell:∀{b:Nat} {v:aj} {t:az},OB b (.cells #[v] t) O2 w2->w2.cell? ⟨b,0,F⟩=Y v:=λh=>by simp[World.cell?,h.heap]
 have tK:Ky Lk b0 b1 d.bc d.ba b4 (d.qb x) (e.pt (e.pq x)) d.ab x e.ms e.cb e.gX d.N d.lY i w2:=
  ⟨.inr (.inl rfl),.inr (.inr (.inl rfl)),.inl hE.bcf,.inl hD.XD,.inr (.inr (.inr (.inl rfl))),.inl (hD.qs.fx x k3),hcell qQ,hcell mg,hrs.bg hE.bcc hE.bcf,hrs.bg hD.bac hD.XD,hcell sI,hrs.bg (hE.cq x k3) (hD.qs.fx x k3)⟩
 refine⟨⟨Lk,e.pq x,bw,VxF d e i x,λ_=>False,.vk,1,8,n,0⟩,rfl,⟨λb h=>h.elim,⟨rfl,rfl,rfl,rfl,λ_ h=>h⟩,hq,⟨Oq,WA⟩,zcq _,?_,λ_ h=>h,?_,λ_ h=>h,⟨.inr (.inr (.inr (.inr (.inl rfl)))),hBw.own,λh=>h⟩,?_,?_⟩,λfu=>?_⟩
 ·rintro b (h|rfl|rfl|rfl|rfl|rfl)
  ·exact .inl h
  ·exact .inr ⟨qQ.own,λh=>h⟩
  ·exact .inr ⟨mg.own,λh=>h⟩
  ·exact .inr ⟨sI.own,λh=>h⟩
  ·exact .inr ⟨hBw.own,λh=>h⟩
  ·exact .inr ⟨ZC.own,λh=>h⟩
 ·rintro a ⟨j,hj,rfl⟩;exact⟨i,x,hx,BN,rfl,j,hj,rfl⟩
 ·rintro a u (⟨rfl,_⟩|⟨rfl,_⟩|⟨rfl,_⟩)
  ·exact⟨0,I,rfl⟩
  ·exact⟨1,I,rfl⟩
  ·exact⟨2,I,rfl⟩
 ·rintro a u ⟨i',x',hx',Ex,hr,hV⟩;have mS:i'=i:=by
   rcases Nat.lt_trichotomy i' i with h|h|h
   ·have:=d.Lf h hx' Ex;omega
   ·exact h
   ·have:=d.Lf h hx BN;omega
  subst mS;rw[hx]at hx';cases hx';exact hV
 ·have h:=hgo e.Wg bw bf b0 b1 d.bc d.ba b4 (d.qb x) (e.pt (e.pq x)) d.ab (e.kbp (e.pq x)) (e.fk (e.pq x)) (e.vl (e.pq x)) x e.ms e.cb e.gX d.N d.lY i ⟨λ_=>False,.lk .vk 1,fu⟩ w2 (zcq _) ((hE.part _ hq).more hrs (λ_ h=>.inl h) (λ_ h=>h)) GX hD.n8 hnf hD.abw (hE.vsz x k3)
   (λj hj=>⟨⟨j,hj,rfl⟩,hD.cells hrs GX j hj⟩) tK hE.ms8 hE.msb (λk m hk=>by obtain⟨g,hg,h1,h2⟩:=hE.msc k m hk;exact⟨g,.inl hg,h1,hrs.bg h2 hg⟩) hlk rfl (λh=>h) (.inr (.inr (.inr (.inr (.inr rfl))))) (hcell ZC) Oq WA (.inr (.inr (.inr (.inr (.inl rfl))))) (by rw[<-Oq];exact hcell hBw) wK
  refine h.weaken λO g w hs=>?_;obtain⟨h1,⟨c1,c2,c3⟩,r,h2⟩:=hs;refine⟨h1,?_,r,h2⟩;rintro a u (⟨rfl,rfl⟩|⟨rfl,rfl⟩|⟨rfl,rfl⟩)
  ·exact c1
  ·exact c2
  ·exact c3
def Sg(L:eI)(W:af)(d:fR)(b:ak)(cs:List ak)(O:aL)(g:au)(w:af):Prop:=
 ∃a todo,g=G {b.at a todo with mode:=.returning} cs/\TJ L W d O a w
def Ze{L:eI}{d:fR}{e:Ur}(hD:pP L W d)(hE:Qr L W d e):rJ (Vm L W d e off N0 (Sg L W d b cs)):=by
 obtain⟨Oq,WA,wg3⟩:=hE.wg;refine⟨hE.inj,hE.WB,hE.psb,hE.Z2,?_,?_,?_,?_,?_⟩
 ·rintro r a ⟨i,x,hx,BN,_,j,hj,rfl⟩;refine⟨rfl,hD.abs,λh=>?_,λh=>hD.abc _ h rfl,by rw[show (Vm L W d e off N0 (Sg L W d b cs)).S.Wg=e.Wg from rfl,<-Oq];exact Ne.symm hD.abw,hE.asb,λq hq h=>hE.pta q hq h.symm⟩;obtain⟨i',x',hx',Ex,j',hj',h'⟩:=hE.mnn _ h;have:i*3+j=i'*3+j':=by injection h'
  obtain rfl:i=i':=I
  rw[hx]at hx';cases hx';exact BN Ex
 ·rintro r r' a ⟨i,x,hx,BN,h1,j,hj,rfl⟩ ⟨i',x',hx',amS,h1',j',hj',h'⟩;have:i*3+j=i'*3+j':=by injection h'
  obtain rfl:i=i':=I
  rw[<-h1,h1']
 ·show d.rem 0<=900;have h1:d.rem 0<=d.keys.length:=by unfold fR.rem;exact zcs (az2 _ _) XI
  have:=hD.len;have:=hD.n8;omega
 ·rintro O g w ⟨a,todo,rfl,h⟩;exact⟨h.pos,rfl⟩
 ·rintro O g w w' ⟨a,todo,rfl,h⟩ hr;exact⟨a,todo,rfl,h.rely hD hr⟩
def NC{L:eI}{d:fR}{e:Ur}{c:Nat}{Stop:yE}(hD:pP L W d)(hE:Qr L W d e)(Ey:e.Wg<W.heap.size)(hsb:∀b,e.Sb b->b<W.heap.size)(hsh:∀b,L.Sh b->b<W.heap.size/\¬L.Fx b)(D:Nat->Wk):
 Geo (Vm L W d e off N0 Stop).S 0 (Hd (Vm L W d e off N0 Stop) ⟨λ_=>False,.sp c,n⟩ D) W:=by
 obtain⟨Oq,WA,wg3⟩:=hE.wg;have z:∀{i:Nat},i<=0->i=0:=λh=>I
 have eL:(Hd (Vm L W d e off N0 Stop) ⟨λ_=>False,.sp c,n⟩ D 0).L=L:=rfl;have eO:∀b,¬(Hd (Vm L W d e off N0 Stop) ⟨λ_=>False,.sp c,n⟩ D 0).own b:=λ_ h=>h;refine⟨λi hi=>?_,λi hi=>?_,λi b hi h=>?_,λi b hi h=>?_,λb hb=>?_,λi k b hi hk h=>?_,λi k b hi hk h=>?_,λi k a hi hk h=>?_,λi k a hi hk h=>?_,λi k a hi hk _ _=>?_,λi a hi h=>?_,λi k a hi hk h=>?_,λi b hi hb=>?_,λi a hi h=>?_,λi k b hi hk h=>?_⟩
 ·rw[z hi];exact⟨Oq,WA⟩
 ·rw[z hi];exact hD.top
 ·rw[z hi]at h;exact(eO b h).elim
 ·rw[z hi]at h;exact(hE.Us b h).1
 ·rcases hb with(⟨q,hq,rfl⟩|rfl)|hb
  ·exact hE.ptl q hq
  ·exact Ey
  ·exact hsb b hb
 ·rw[z hi]at h;exact(eO b h).elim
 ·rw[z hi]at h;exact(eO b h).elim
 ·rw[z hk];exact eO _
 ·rw[z hi]at h;rw[z hk];obtain⟨i',x,hx,BN,j,hj,rfl⟩:=hE.mnn a h;exact⟨hD.abf,λh=>hD.abc _ h rfl⟩
 ·rw[z hi,z hk]
 ·rw[z hi]at h;rcases h with h|h
  ·obtain⟨i',x,hx,BN,j,hj,rfl⟩:=hE.mnn a h;rfl
  ·exact(hE.fcn a h).1
 ·rw[z hi]at h;rw[z hk];obtain⟨_,_,q,hq,hb⟩:=hE.fcn a h;exact⟨eO _,λhf=>(hE.Us _ hf).2.2.2.1 q hq hb⟩
 ·rw[z hi];refine⟨eO _,λhf=>?_⟩;have h:=hE.Us b hf;rcases hb with(⟨q,hq,hb⟩|hb)|hb
  ·exact h.2.2.2.1 q hq hb
  ·exact h.2.2.1 hb
  ·exact h.2.2.2.2 hb
 ·rw[z hi]at h;rcases h with h|h
  ·obtain⟨_,h2,q,hq,hb⟩:=hE.fcn a h;exact⟨by rw[hb];exact hE.WB q hq,by rw[hb];exact hE.psb q hq,λ_ _ _=>h2⟩
  ·obtain⟨i',x,hx,BN,j,hj,rfl⟩:=hE.mnn a h;exact⟨by rw[show (Vm L W d e off N0 Stop).S.Wg=e.Wg from rfl,<-Oq];exact Ne.symm hD.abw,hE.asb,λq hq hb=>absurd hb.symm (hE.pta q hq)⟩
 ·rw[z hi]at h;rw[z hk];exact⟨(hsh b h).1,eO _,(hsh b h).2⟩
def Db{L:eI}{d:fR}{e:Ur}{gs:Array au}{sl:Option (Nat×Nat)}{t:Trace}{q:Nat->Nat}(hD:pP L W d)(hE:Qr L W d e)(hsb:∀b,e.Sb b->b<W.heap.size)(hsh:∀b,L.Sh b->b<W.heap.size/\¬L.Fx b)
 (hb:b.fn=44) (hbk:b.kind≠.early) (hl:yT a d.pr d.ba d.bc L.Wg 0) (va:bZ 155 e.Wg ⟨0,E,0⟩ W) (Zf:∀p,p<e.np->eE (e.pt p) ⟨E,E,E,0⟩ 0 W)
 (h0:gs[0]?=Y (G (b.at a (.code yh :: k)) cs)) (hL:Leavers prog t gs q) (hP:uu (λl=>∃a,l=.cell a/\e.Sb a.block) t) (hg:∀(i:Nat) (op:MemOp),t[i]?=Y op->op.g<gs.size):
 ∃N gs' w' sl' t' a' todo q' O,runNT prog N (crowd gs W sl) t=(.next (crowd gs' w' sl'),t')/\gs'.size=gs.size+d.rem 0/\gs'[0]?=Y (G {b.at a' todo with mode:=.returning} cs)/\TJ L W d O a' w'/\Leavers prog t' gs' q'/\uu (λl=>∃a,l=.cell a/\(e.Sb a.block\/a.block=e.Wg)) t'/\(∀(i:Nat) (op:MemOp),t'[i]?=Y op->op.g<gs'.size)/\
  (∀p,p<e.np->eE (e.pt p) ⟨E,E,E,0⟩ 0 w')/\bZ 155 e.Wg ⟨0,E,0⟩ w'/\(∀(i:Nat) (x:ah),d.keys[i]?=Y x->¬d.En x->N7 d.ab i x (fI (e.vl (e.pq x)) x e.ms) (valueOf (e.vl (e.pq x) (fI (e.vl (e.pq x)) x e.ms)) x) w')/\Fy W w':=by
 letI:=OO
 obtain⟨Oq,WA,wg3⟩:=hE.wg
 have hsz:0<gs.size:=(Array.getElem?_eq_some_iff.1 h0).1
 let X:Ph:=Vm L W d e (gs.size-1) t.size (Sg L W d b cs)
 have hX:rJ X:=Ze hD hE
 obtain⟨n,iu⟩:=abd (L:=L) (bT:=X.bT)
 have hwp:=λf=>iu W d ⟨λ_=>False,.mn (.sp (d.rem 0)),f⟩ a (λO' e a' w'=>e=.ret/\TJ L W d O' a' w') hD (Sf hD hE) hl rfl (λ_ h=>h.elim) (by rw[Oq,WA];exact va.live) (λO' a' w' h=>⟨rfl,h⟩) b k cs X.uY (λ_=>0) hb hbk (λO' e a' w' hq=>by obtain⟨rfl,hq⟩:=hq;exact λtodo=>cN.stop λw₁ h₁=>⟨a',todo,rfl,hq.rely hD h₁⟩)
 have Ey:e.Wg<W.heap.size:=(Array.getElem?_eq_some_iff.1 va).1
 let D:Nat->Wk:=λ_=>⟨L,0,0,λ_ _=>False,λ_=>False,.out,0,0,0,0⟩
 let M:Md:=⟨λ_=>False,.sp (d.rem 0),0+n⟩
 have hoff:X.off=gs.size-1:=rfl
 have hno:X.off+0+1=gs.size:=by rw[hoff];omega
 have hth:∀p i,iS D 0 p i=.out:=λp i=>by simp[iS]
 have hI:Vn X (lX X 0 M D (λ_=>⟨E,E,E,0⟩) (λ_=>0),G7 X 0 M D (λ_=>E) q) gs W t:=by
  refine⟨lX X 0 M D (λ_=>⟨E,E,E,0⟩) (λ_=>0)+1,0,M,D,λ_=>E,λ_=>⟨E,E,E,0⟩,λ_=>0,⟨0,E,0⟩,q,I,⟨I,⟨_,h0,.run _ (zcq _) ?_⟩,λi h1 h2=>?_,λi hi=>absurd hi (zcu _),?_⟩,rfl⟩
  ·have h:=hwp (lX X 0 M D (λ_=>⟨E,E,E,0⟩) (λ_=>0)+1);rw[Oq,WA]at h;exact h
  ·have hlt:i<gs.size:=I
   exact⟨gs[i],Array.getElem?_eq_getElem hlt,hL.old i _ I (Array.getElem?_eq_getElem hlt)⟩
  ·refine⟨ak8 _,λi hi=>absurd hi (zcu _),λi k hi=>absurd hi (zcu _),λi a hi=>absurd hi (zcu _),λi hi=>absurd hi (zcu _),NC hD hE Ey hsb hsh D,λp hp=>⟨Zf p hp,IJ λi _=>.inl (hth p i)⟩,⟨va,JX _ λi _=>by simp[lR]⟩,λi hi=>absurd hi (zcu _),(λh=>by cases h),?_,hP.hears,λi hi=>absurd hi (zcu _),λj hj=>hL.above j I,λi a hi ha=>?_,λj hj h=>?_,λi hi=>absurd hi (zcu _),(λh=>by cases h),Nat.lt_succ_self _,Fy.refl W⟩
   ·exact M9 hP λi op h=>by have:=hg i op h;omega
   ·obtain⟨op,ho,_⟩:=touch_of ha;have:=lt_size_of_getElem? ho;have h2:t.size<=i:=hi;omega
   ·have:=lt_of_act? h;have h2:t.size<=j:=hj;omega
 obtain⟨N,gs',w',sl',t',hrun,KE⟩:=ND hX _ gs W sl t hI
 obtain⟨a0,f,own,q',f1,f2,⟨a',todo,f3,f4⟩,f5,f6,f7,f8,f9,f10,f11,f12⟩:=KE.facts hX
 subst f3
 have hn:X.n=d.rem 0:=rfl
 refine⟨N,gs',w',sl',t',a',todo,q',_,hrun,I,f2,f4,f5,?_,λi op h=>by have:=f10 i op h;omega,f7,f8,λi x hx BN=>?_,f11⟩
 ·have e1:(λl=>lQ X.S l\/F6 X.S.Wg l)=λl=>∃a,l=.cell a/\(e.Sb a.block\/a.block=e.Wg):=by
   funext l;apply propext;constructor
   ·rintro(⟨a,h1,h2⟩|⟨a,h1,h2⟩)
    ·exact⟨a,h1,.inl h2⟩
    ·exact⟨a,h1,.inr h2⟩
   ·rintro⟨a,h1,h2|h2⟩
    ·exact .inl ⟨a,h1,h2⟩
    ·exact .inr ⟨a,h1,h2⟩
  rw[<-e1]
  exact f6
 ·have CO:1<=d.rem i:=by have:=((d.pQ hx).2 BN).1;omega
  have OY:d.rem i<=d.rem 0:=by
   rcases Nat.eq_zero_or_pos i with h|h
   ·rw[h];exact zcq _
   ·have mono:∀j,d.rem j<=d.rem 0:=by intro j;unfold fR.rem;exact(List.Sublist.filter _ (List.drop_sublist j _)).length_le
    exact mono i
  have hv:=f9 (d.rem i) CO OY
  exact⟨hv _ _ ⟨i,x,hx,BN,rfl,.inl ⟨rfl,rfl⟩⟩,hv _ _ ⟨i,x,hx,BN,rfl,.inr (.inl ⟨rfl,rfl⟩)⟩,hv _ _ ⟨i,x,hx,BN,rfl,.inr (.inr ⟨rfl,rfl⟩)⟩⟩
end
section
open Go Go.RowKit Go.MuLone Go.Conc
open Go.Maps (Keyed)
def G8(s:MS)(A:SA)(i:Nat)(r:MR)(x:ah):ah->Bool:=
 if A.R.hv i (bC r.keys x)=Z6 then
  (match s.ws[r.found (bC r.keys x)-1]? with
  |some m=>if s.mode=1 then fN (m.items.map Prod.fst)else if s.mode=3 then wE (mV (m.items.map Prod.fst))else λ_=>Z6
  |none=>λ_=>Z6)
 else λ_=>Z6
def jN(s:MS)(q:Nat)(n:Int):List KV:=match bL s n with
 |some m=>if m.cC q then bp s.parts m.items q else []
 |none=> []
def Dc:aj->Option aA
 |.slice a _ _=>a
 |_=>F
def Dd:aj->Nat
 |.slice _ _ c=>c
 |_=>0
def jk(s:MS)(A:SA)(i:Nat)(r:MR)(ab ba bc:Nat):fR where
 pr:=A.R.pr i
 ba:=ba
 bc:=bc
 kb:=((Dc (A.R.ks i)).map (·.block)).getD 0
 N:=r.keys.length
 bR:=Dd (A.R.ks i)
 ab:=ab
 lY:=r.keys.length
 qm:=A.R.qm i
 keys:=r.keys
 f:=dr A.R i r
 qb x:=A.R.qb i (bC r.keys x)
 p x:=bC r.keys x<r.keys.length/\r.keys[bC r.keys x]?=Y x
 wn x:=r.found (bC r.keys x)
 hv x:=A.R.hv i (bC r.keys x)
 tv x:=A.R.tv i (bC r.keys x)
 ts x:=A.R.ts i (bC r.keys x)
 fm:=G8 s A i r
def ZK(s:MS)(A:SA)(wg:Nat)(ms:List Int)(cv:aj)(Sb:Nat->Prop):Ur where
 np:=s.parts
 pt:=A.pb
 kbp:=A.kb
 fk:=bP s A
 vl:=jN s
 pq x:=(partOf s.parts x).toNat
 cb:=Dc cv
 gX:=Dd cv
 ms:=ms
 Wg:=wg
 Sb:=Sb
section
variable {w0 W:af}{τ:Nat->Tag}{aJ b:Nat}{s:MS}{A:SA}{i:Nat}{r:MR}{ab ba bc wg:Nat}{ms:List Int}{cv:aj}{Sb:Nat->Prop}
structure bu(w0 W:af)(τ:Nat->Tag)(aJ b:Nat)(s:MS)(A:SA)(i:Nat)(r:MR)(ab ba bc wg:Nat)(ms:List Int)(cv:aj)(Sb:Nat->Prop):Prop where
 rep:bB w0 τ aJ b s A
 hr:s.rs[i]?=Y r
 fin:r.fin=E
 same:∀k,k<w0.heap.size->k≠A.R.rm->W.heap[k]?=w0.heap[k]?
 Ks:∃C,aT W ab C 62/\C.size=r.keys.length*3
 Tc:aT W ba #[.slice (Y ⟨ab,0,F⟩) r.keys.length r.keys.length] 42
 Td:aT W bc #[cv] 58
 cand:C6 r ms
 row:W.ownsRow w0.heap.size 3 1 cv ms.length (ms.map (Value.int .i64))
 G9:aT W wg #[.int .u64 0,.int .u32 0] 155
 ord:w0.heap.size<=ab/\ab<ba/\ba<bc/\bc<wg
 Oz:∀k,cv.ownBlock=Y k->ba<k/\k<bc
 old:∀k,Sb k->k<w0.heap.size/\(τ k).1≠aJ
def bu.blk(h:bu w0 W τ aJ b s A i r ab ba bc wg ms cv Sb){k g:Nat}{c:Array aj}{t:az}(hb:aT w0 k c t)(ht:τ k=(aJ,g,g'))(hg:g≠10):aT W k c t:=
 hb.of_eq (h.same k hb.lt λe=>by rw[e,h.rep.reads.iQ]at ht;simp at ht;omega)
def bu.map(h:bu w0 W τ aJ b s A i r ab ba bc wg ms cv Sb){k g:Nat}{t:az}{f:Lit->Option aj}(hb:aS w0 prog t k f)(ht:τ k=(aJ,g,g'))(hg:g≠10):aS W prog t k f:=
 hb.of_eq (h.same k hb.lt λe=>by rw[e,h.rep.reads.iQ]at ht;simp at ht;omega)
def bu.row'(h:bu w0 W τ aJ b s A i r ab ba bc wg ms cv Sb){g:Nat}{e:az}{xs:List aj}(hb:w0.ownsRow 0 e sz v n xs)(ht:∀k,v.ownBlock=Y k->τ k=(aJ,g,g'))(hg:g≠10):W.ownsRow 0 e sz v n xs:=
 aI hb λk hk=>h.same k (aQ hb k hk).2 λe=>by have:=ht k hk;rw[e,h.rep.reads.iQ]at this;simp at this;omega
def bu.size(h:bu w0 W τ aJ b s A i r ab ba bc wg ms cv Sb):w0.heap.size<=ab/\wg<W.heap.size:=⟨h.ord.1,h.G9.lt⟩
def bu.pt(h:bu w0 W τ aJ b s A i r ab ba bc wg ms cv Sb){q:Nat}(hq:q<s.parts):A.pb q<w0.heap.size:=(h.rep.part q hq).lt
def bu.hab(h:bu w0 W τ aJ b s A i r ab ba bc wg ms cv Sb):(jk s A i r ab ba bc).ab<W.heap.size:=by have:=h.ord;have:=h.G9.lt;show ab<_;omega
def bu.Oh(h:bu w0 W τ aJ b s A i r ab ba bc wg ms cv Sb):∀q,q< (ZK s A wg ms cv Sb).np->(ZK s A wg ms cv Sb).pt q<W.heap.size:=λq hq=>by have:=h.pt hq;have:=h.ord;have:=h.G9.lt;show A.pb q<_;omega
abbrev bu.L(h:bu w0 W τ aJ b s A i r ab ba bc wg ms cv Sb):eI:=agC W (jk s A i r ab ba bc) (ZK s A wg ms cv Sb) h.hab h.Oh
def bu.fx(h:bu w0 W τ aJ b s A i r ab ba bc wg ms cv Sb){k g:Nat}(ht:τ k=(aJ,g,g'))(hg:g≠2)(hk:k<w0.heap.size):h.L.Fx k:=by
 have h1:=h.ord;have h2:=h.G9.lt;refine⟨I,λe=>?_,λe=>?_,λq hq e=>?_,λhs=>?_⟩
 ·have e':k=ab:=e;omega
 ·have e':k=wg:=e;omega
 ·have:=h.rep.dA q hq;have e':k=A.pb q:=e;rw[<-e',ht]at this;simp at this;omega
 ·exact(h.old k hs).2 (by rw[ht])
def bu.Us(h:bu w0 W τ aJ b s A i r ab ba bc wg ms cv Sb){k:Nat}(h1:ab<k)(h2:k<wg):h.L.Fx k:=by
 have h3:=h.ord;have h4:=h.G9.lt;refine⟨I,λe=>?_,λe=>?_,λq hq e=>?_,λhs=>?_⟩
 ·have e':k=ab:=e;omega
 ·have e':k=wg:=e;omega
 ·have:=h.pt hq;have e':k=A.pb q:=e;omega
 ·have:=(h.old k hs).1;omega
def bu.q(h:bu w0 W τ aJ b s A i r ab ba bc wg ms cv Sb){x:ah}(hx:(jk s A i r ab ba bc).p x):aT W (A.R.qb i (bC r.keys x)) #[ptr (A.pb (partOf s.parts x).toNat),.bool (r.asked (bC r.keys x)),.int .i64 (r.found (bC r.keys x)),.bool (A.R.hv i (bC r.keys x)),.string (A.R.tv i (bC r.keys x)),A.R.ts i (bC r.keys x)] 146:=
 h.blk (h.rep.reads.q i r _ x h.hr h.fin hx.2) (h.rep.reads.l6 i r _ x h.hr h.fin hx.2) I
def bu.found(h:bu w0 W τ aJ b s A i r ab ba bc wg ms cv Sb){j:Nat}{x:ah}(hx:r.keys[j]?=Y x):r.found j<=200:=by
 by_cases e:r.found j=0
 ·omega
 ·obtain⟨m,hm,_⟩:=h.rep.told.fm i r j x h.hr h.fin hx e;have:=aH hm;have:=h.rep.ok.len;omega
def bu.L2(h:bu w0 W τ aJ b s A i r ab ba bc wg ms cv Sb){x:ah}(hx:(jk s A i r ab ba bc).p x):sH h.L W (A.R.ts i (bC r.keys x)) (G8 s A i r x):=by
 unfold G8;cases hv:A.R.hv i (bC r.keys x)with
 |false=>
  rw[(h.rep.told.t0 i r _ x h.hr h.fin hx.2 hv).2];simp only[Bool.false_eq_true,if_false];exact .none
 |true=>
  obtain⟨m,hm,_,h2⟩:=h.rep.told.tv i r _ x h.hr h.fin hx.2 hv;rw[h2,hm];simp only[if_true];have hl:=(h.rep.ok.items _ m hm).1;have hs:=h.rep.L2 _ m hm;generalize A.sv (r.found (bC r.keys x)-1)=sv at hs;generalize r.found (bC r.keys x)-1=n at hs;generalize hmo:s.mode=mode at hs;cases hs with
  |keys v h3 h4=>
   simp only[if_true];have h5:=h.row' h3 h4 I;obtain⟨a,cap,rfl⟩:=bI h5;refine .keys a (m.items.map Prod.fst) cap (by simpa using hl) λk y hy=>?_;have hk:=aH hy;obtain⟨g,cap',e,_,_,hc,_⟩:=aZ h5 I;cases e;refine⟨g,h.fx (h4 g rfl) I (aQ h3 g rfl).2,rfl,?_⟩;rw[hc k I,ai8,hy];rfl
  |mask=>
   simp only[show ¬((3:Int)=1) by omega,if_false,if_true];exact .mask _
  |none e1 e3=>
   simp only[e1,e3,if_false];exact .none
def Ut{k:az}{b:Nat}{D:DataW aj}{f:Lit->Option aj}(h:u.ownsMap P k aY b n D)(hs:Says D f)(K:Keyed P k){L:List Lit}(hnd:L.Pairwise (λa b=>a≠b))(hL:∀kl,f kl≠F↔kl∈L):Maps.size D=L.length:=by
 obtain⟨n2,D2,⟨yu,IK,fG,_,_,S3⟩,hsz⟩:=aS.size ⟨n,D,h,hs⟩ K hnd hL;obtain⟨es,clock,hb,wv,hn,hD⟩:=h;obtain⟨rfl,rfl⟩:yu=es/\IK=clock:=by rw[hb]at fG;injection fG with e;injection e with e1 e2;exact⟨e1.symm,e2.symm⟩
 rw[hD,<-S3];exact hsz
def bu.acf(h:bu w0 W τ aJ b s A i r ab ba bc wg ms cv Sb):∃g cap,A.R.ks i=.slice (Y ⟨g,0,F⟩) r.keys.length cap/\h.L.Fx g/\∀(j:Nat) (x:ah),r.keys[j]?=Y x->W.cell? ⟨g,j,F⟩=Y (.string x):=by have h1:=(h.rep.ok.keys i r h.hr).1;have hk:=h.rep.reads.ky i r h.hr h.fin;obtain⟨g,cap,e,_,_,hc,_⟩:=aZ (h.row' hk (λk=>h.rep.reads.dV i r k h.hr h.fin) I) I;refine⟨g,cap,e,h.fx (h.rep.reads.dV i r g h.hr h.fin (by rw[e];rfl)) I (aQ hk g (by rw[e];rfl)).2,λj x hx=>?_⟩;have hj:=aH hx;rw[hc j I,ai8,hx];rfl
def bu.tvz(h:bu w0 W τ aJ b s A i r ab ba bc wg ms cv Sb)(hx:r.keys[j]?=Y x):(A.R.tv i j).size<=64:=by
 cases hv:A.R.hv i j with
 |false=>rw[(h.rep.told.t0 i r j x h.hr h.fin hx hv).1];exact ak8 _
 |true=>
  obtain⟨m,hm,t1,_⟩:=h.rep.told.tv i r j x h.hr h.fin hx hv;exact IL (h.rep.ok.items _ m hm).2 t1
def bu.yA(h:bu w0 W τ aJ b s A i r ab ba bc wg ms cv Sb)(hx:r.keys[j]?=Y x):bC r.keys x=j/\(jk s A i r ab ba bc).p x:=by have e:=gD (h.rep.ok.keys i r h.hr).2.2.2 hx;have hj:=aH hx;exact⟨e,by show bC r.keys x<_/\_;rw[e];exact⟨hj,hx⟩⟩
def bu.acd(h:bu w0 W τ aJ b s A i r ab ba bc wg ms cv Sb):pP h.L W (jk s A i r ab ba bc):=by
 have ho:=h.ord;have hg:=h.G9.lt;obtain⟨k1,k8,kg,knd⟩:=h.rep.ok.keys i r h.hr;obtain⟨g,cap,ek,hgf,hgc⟩:=h.acf;have hrd:=h.blk (h.rep.reads.rd i r h.hr h.fin) (h.rep.reads.eP i r h.hr h.fin) I;have hrl:=(h.rep.reads.rd i r h.hr h.fin).lt;have hql:=(h.rep.reads.xI i r h.hr h.fin).lt;have ekb:(jk s A i r ab ba bc).kb=g:=by show ((Dc (A.R.ks i)).map (·.block)).getD 0=g;rw[ek];rfl
 have ekc:(jk s A i r ab ba bc).bR=cap:=by show Dd (A.R.ks i)=cap;rw[ek];rfl
 refine⟨⟨h.fx (h.rep.reads.eP i r h.hr h.fin) I hrl,hrd.cell (o:=4) rfl,h.fx (h.rep.reads.nB i r h.hr h.fin) I hql,h.map (h.rep.reads.xI i r h.hr h.fin) (h.rep.reads.nB i r h.hr h.fin) I,qg A.R i r,
  λx hx=>h.fx (h.rep.reads.l6 i r _ x h.hr h.fin hx.2) I (h.rep.reads.q i r _ x h.hr h.fin hx.2).lt,λx hx=>(h.q hx).cell (o:=2) rfl,λx hx=>(h.q hx).cell (o:=3) rfl,λx hx=>(h.q hx).cell (o:=4) rfl,λx hx=>(h.q hx).cell (o:=5) rfl,λx hx=>h.L2 hx,λx hx=>by have:=h.found hx.2;show r.found _<=1000;omega⟩,
  λu n D hu hs=>?_,λx hx=>?_,rfl,k8,?_,by rw[ekb];exact hgf,λj x hx=>?_,h.Us (k:=ba) ho.2.1 I,h.Tc.cell (o:=0) rfl,λx hx=>?_,λhf=>hf.2.1 rfl,λa ha e=>?_,λe=>?_,.inl rfl,?_,h.hab,λj x hx hE jj hjj=>⟨j,x,hx,hE,jj,hjj,rfl⟩,⟨λhf=>hf.2.2.1 rfl,λa ha e=>?_,λa ha e=>?_,.inr (.inl rfl),hg⟩,zcq _⟩
 ·rw[Ut hu hs gx (uo knd) BX];simpa[jT]using k8
 ·obtain⟨hj,_⟩:=hx;simp[jk,dr,vE,hj]
 ·rw[ekb,ekc];have:=hrd.cell (o:=3) (v:=A.R.ks i) rfl;rw[ek]at this;exact this
 ·obtain⟨e,hp⟩:=h.yA hx;have hxm:=kg x (List.mem_of_getElem? hx);refine⟨by rw[ekb];exact hgc j x hx,by have:=(jz hxm).2;omega,hp,?_⟩;have hj:=hp.1;simp only[jk,dr,vE,hj,if_true];rfl
 ·have:=h.tvz hx.2;show (A.R.tv i _).size<=1000;omega
 ·obtain⟨_,_,q,hq,hb⟩:=ha;have:=h.pt hq;have e1:a.block=A.pb q:=hb;have e2:a.block=ab:=e;omega
 ·have e1:wg=ab:=e;omega
 ·obtain⟨C,hC,hs⟩:=h.Ks;exact⟨C,_,hC,hs⟩
 ·obtain⟨_,_,q,hq,hb⟩:=ha;have:=h.pt hq;have e1:a.block=A.pb q:=hb;have e2:a.block=wg:=e;omega
 ·obtain⟨j,x,_,_,jj,_,rfl⟩:=ha;have e2:ab=wg:=e;omega
def bu.keeps(h:bu w0 W τ aJ b s A i r ab ba bc wg ms cv Sb)(q:Nat)(m:Int):∃ad cap sv,(bP s A q (.int .i64 m)).getD (.agg #[.slice F 0 0,.nilIface])=.agg #[.slice ad (jN s q m).length cap,sv]/\(jN s q m).length<=8/\
 ∀(k:Nat) (x:KV),(jN s q m)[k]?=Y x->∃g,h.L.Fx g/\ad=Y ⟨g,0,F⟩/\W.cell? ⟨g,k*2,F⟩=Y (.string x.1)/\W.cell? ⟨g,k*2+1,F⟩=Y (.string x.2):=by
 cases hf:bL s m with
 |none=>
  have e:jN s q m= []:=by unfold jN;rw[hf]
  rw[e];exact⟨F,0,.nilIface,by simp[bP,hf],XI,λk x hx=>by simp at hx⟩
 |some mw=>
  cases hp:mw.cC q with
  |false=>
   have e:jN s q m= []:=by unfold jN;rw[hf];simp[hp]
   rw[e];exact⟨F,0,.nilIface,by simp[bP,hf,hp],XI,λk x hx=>by simp at hx⟩
  |true=>
   have e:jN s q m=bp s.parts mw.items q:=by unfold jN;rw[hf];simp[hp]
   rw[e];obtain⟨_,_,hm,hc⟩:=fy hf;have lU:=h.rep.inv.po _ mw q hm hp;have hrow:=h.rep.it _ mw q hm hc lU;obtain⟨g,cap,hiv,_,_,hcell,_⟩:=aZ (h.row' hrow (λk=>h.rep.cY _ mw q k hm hc lU) I) (qh lU);refine⟨Y ⟨g,0,F⟩,cap,A.sv (m-1).toNat,by simp only[bP,hf,hp,if_true,aa0];rw[hiv],zcs (oz _ _ _) (h.rep.ok.items _ mw hm).1,λk x hx=>?_⟩;obtain⟨e1,e2⟩:=oy _ k x hx;have hk:=aH hx;exact⟨g,h.fx (h.rep.cY _ mw q g hm hc lU (by rw[hiv];rfl)) I (aQ hrow g (by rw[hiv];rfl)).2,rfl,by rw[hcell (k*2) I,e1],by rw[hcell (k*2+1) I,e2]⟩
def bu.vsz(h:bu w0 W τ aJ b s A i r ab ba bc wg ms cv Sb)(q:Nat)(n:Int)(x:ah):(valueOf (jN s q n) x).size<=64:=by
 unfold valueOf;cases hf:(jN s q n).find? (λy=>decide (y.1=x))with
 |none=>exact ak8 _
 |some y=>
  have hy:=List.mem_of_find?_eq_some hf;unfold jN at hy;split at hy
  ·rename_i mw hm;split at hy
   ·have hy2:y∈mw.items:=(List.mem_filter.1 hy).1;obtain⟨_,_,hm',_⟩:=fy hm;exact(gl ((h.rep.ok.items _ mw hm').2 y hy2)).2.2
   ·cases hy
  ·cases hy
def bu.agz(h:bu w0 W τ aJ b s A i r ab ba bc wg ms cv Sb):Qr h.L W (jk s A i r ab ba bc) (ZK s A wg ms cv Sb):=by
 have ho:=h.ord;have hg:=h.G9.lt;have hp1:=h.rep.ok.p1;have hw0:wg≠ab:=I
 obtain⟨ca,gX,ecv⟩:=bI h.row;have ecb:(ZK s A wg ms cv Sb).cb=ca:=by show Dc cv=ca;rw[ecv];rfl
 have ecc:(ZK s A wg ms cv Sb).gX=gX:=by show Dd cv=gX;rw[ecv];rfl
 refine⟨λx _=>?_,λq hq=>⟨⟨rfl,zcq _,q,hq,rfl⟩,h.fx (h.rep.cQ q hq) I (h.rep.kept q hq).lt,(h.blk (h.rep.part q hq) (h.rep.dA q hq) I).cell (o:=2) rfl,h.map (h.rep.kept q hq) (h.rep.cQ q hq) I,λm _ _=>?_⟩,λx hx=>(h.q hx).cell (o:=0) rfl,h.Us (k:=bc) I I,?_,h.cand.le,λm hm=>?_,λk m hk=>?_,λx hx=>?_,λq q' hq fX e=>?_,λq hq e=>?_,λq hq e=>?_,λq hq hs=>?_,λhs=>?_,λhs=>?_,λa ha=>ha,λa ha=>ha,λq hq=>.inr (.inr (.inl ⟨q,hq,rfl⟩)),λk hk=>hk,⟨rfl,rfl,rfl⟩,h.Oh⟩
 ·have:=iK (s.parts:Int) x I;show (partOf s.parts x).toNat<s.parts;omega
 ·exact h.keeps q m
 ·rw[ecb,ecc];have:=h.Td.cell (o:=0) (v:=cv) rfl;rw[ecv]at this;exact this
 ·obtain⟨j,x,hx,rfl⟩:=h.cand.of m hm;have:=h.found hx;omega
 ·have hk':ms[k]?=Y m:=hk;have wN:=aH hk';obtain⟨g,cap',e,_,_,hc,_⟩:=aZ h.row I;have h3:=h.Oz g (by rw[e];rfl);refine⟨g,h.Us I I,by rw[ecb];rw[ecv]at e;cases e;rfl,?_⟩;rw[hc k I,ai8,hk'];rfl
 ·have:=h.vsz (partOf s.parts x).toNat (fI (jN s (partOf s.parts x).toNat) x ms) x;show (valueOf (jN s (partOf s.parts x).toNat (fI (jN s (partOf s.parts x).toNat) x ms)) x).size<=1000;omega
 ·have h1:=h.rep.dA q hq;have h2:=h.rep.dA q' fX;have e':A.pb q=A.pb q':=e;rw[e',h2]at h1;simpa using h1.symm
 ·have:=h.pt hq;have e1:A.pb q=wg:=e;omega
 ·have:=h.pt hq;have e1:A.pb q=ab:=e;omega
 ·exact(h.old _ hs).2 (by show (τ (A.pb q)).1=aJ;rw[h.rep.dA q hq])
 ·have:=(h.old _ hs).1;have:wg<w0.heap.size:=this;omega
 ·have:=(h.old _ hs).1;have:ab<w0.heap.size:=this;omega
end
noncomputable def fnBody:Code:=f23.body.getD .skip
noncomputable def Fz:Code:=cB (cB (cB (cB (cB fnBody))))
def opsOf:Code->Array Oper
 |.region _ ops _=>ops
 |_=>#[]
def Te(fr:ak):Prop:=∃(b:ak) (a:Act),fr=b.at a [.inRegion (opsOf (cA Fz)) (1 :: [2,3,4,5,6]),.code (cB Fz)]/\b.fn=23/\b.kind=.normal/\a.defers= []/\a.tmps.size=33
def Yk:Fz=.seq (.region 8 (opsOf (cA Fz)) E) (cB Fz):=Yl
def Qs:List.range (opsOf (cA Fz)).size= [0,1,2,3,4,5,6]:=Yl
def acg:∃o,(opsOf (cA Fz))[0]?=Y o/\o.guard=F/\o.dst=Y 27/\o.op=.move (.tmp 7):=by refine⟨((opsOf (cA Fz))[0]?).getD default,?_,?_,?_,?_⟩ <;>kernel_rfl
def We:∃o,(opsOf (cA Fz))[1]?=Y o/\o.guard=F/\o.dst=Y 28/\∃cl:Call,o.op=.call cl/\cl.callee=.value (.func 44)/\cl.args=#[.tmp 27]:=by refine⟨((opsOf (cA Fz))[1]?).getD default,?_,?_,?_,(match (((opsOf (cA Fz))[1]?).getD default).op with|.call cl=>cl|_=>default),?_,?_,?_⟩ <;>kernel_rfl
def run_move{x:aD}(h:o.op=.move x)(w:af):(execOp a.eval o).run P w=.ok (.value (a.eval x)) w:=by unfold execOp;rw[h];rfl
def BD{f:ay}{fn:Func}{c:Code}{cl:Call}(h1:o.op=.call cl)(h2:cl.callee=.value (.func f))(g1:P.funcs[f]?=Y fn)(g2:(fn.name == "runtime.NumGoroutine")=E)(g3:fn.body=Y c)(w:af):(execOp a.eval o).run P w=.ok (.enter f (cl.args.map a.eval)) w:=by
 have e:execOp a.eval o=callFunc f (cl.args.map a.eval):=by unfold execOp;rw[h1];simp only[resolve,h2,Act.eval,Deferred.ofValue];show invoke (.fn (.func f) #[]) (#[]++cl.args.map _)=_;simp[invoke]
 rw[e,<-Sem.runT_fst P _ w #[],fT g1 g2 g3]
def Uu(h7:a.tmps[7]?=Y v)(hs:a.tmps.size=33)(h:To prog Q (Frame.enter prog 44 #[v] .normal) (b.at (a.put (Y 27) v) [.inRegion (opsOf (cA Fz)) (1 :: [2,3,4,5,6]),.code (cB Fz)] :: c) w):To prog Q (b.at a [.code Fz]) c w:=by
 rw[Yk];refine .step (λ_=>step_seq) (.region ?_);rw[Qs];obtain⟨o0,q1,q2,q3,q4⟩:=acg;obtain⟨o1,r1,r2,r3,cl,r4,r5,r6⟩:=We;refine To.op q1 (qK q2 _) (run_move q4 _) ?_;rw[q3];have e7:a.eval (.tmp 7)=v:=by simp[Act.eval,al8,h7]
 rw[e7];refine To.enter r1 (qK r2 _) (BD r4 r5 func44 Yl rfl _) ?_;have e27:cl.args.map (a.put (Y 27) v).eval=#[v]:=by rw[r6];simp[Act.eval,Act.put,al8,hs]
 rw[e27];exact h
section
variable {w:af}{τ:Nat->Tag}{aJ b:Nat}{s:MS}{A:SA}
structure CE(w:af)(τ:Nat->Tag)(aJ b:Nat)(s:MS)(A:SA)(i:Nat)(r:MR)(Sb:Nat->Prop)(c:List ak)(fr:ak)(c':List ak)(w':af):Prop where
 intro ::
 ex:∃(bf:ak) (a:Act) (ab ba bc wg:Nat) (ms:List Int) (cv:aj) (fF:ak),fr=bf.at a [.code yh]/\bf.fn=44/\bf.kind=.normal/\c'=fF :: c/\Te fF/\yT a (A.R.pr i) ba bc wg 0/\bu w w' τ aJ b s A i r ab ba bc wg ms cv Sb/\(∃w3,bB w3 τ aJ b (iO s i r) A/\w3.heap.size<=ab/\∀k,k<w3.heap.size->w'.heap[k]?=w3.heap[k]?)/\Stp aJ τ w τ w'
def Lz(h:bB w τ aJ b s A)(n:Int)(hn: -9223372036854775808<=n)(hn':n<=9223372036854775807)(r:MR)(hf:dQ s n=Y r)(ha:ez r=Z6)(Sb:Nat->Prop)(hSb:∀k,Sb k->k<w.heap.size/\(τ k).1≠aJ)(c:List ak):
 To prog (CE w τ aJ b s A (n-1).toNat r Sb c) (Frame.enter prog 23 #[ptr b,.int .i64 n] .normal) c w:=by
 have ZL:=kT h n hn hn';obtain⟨h1,h2,hr,hc⟩:=gi hf;have hv:eT s A n=(ptr (A.R.pr (n-1).toNat),Z6):=by unfold eT;rw[hf]
 rw[hv]at ZL;obtain⟨i,hi⟩:∃i:Nat,(n-1).toNat=i:=⟨_,rfl⟩
 have hni:n=(i:Int)+1:=I
 subst hni;rw[hi]at hr ZL⊢;have c2:∀w1,vF w w1->Calls prog 42 #[ptr (A.R.pr i)] w1 λe w'=>e=.returned (.bool Z6)/\Below w1.heap.size w1 w':=λw1 hS=>by have:=qi (h.same hS) hr hc;rw[ha]at this;exact this
 have hrn:dW s.rs A.R (.int .i64 ((i:Int)+1))=Y (ptr (A.R.pr i)):=by have h9:gj s.rs ((i:Int)+1)=Y r:=hf;simp only[dW,h9,hi]
 have ach:∀(j:Nat) (x:ah),r.keys[j]?=Y x->AW (A.R.ts i j):=λj x hx=>by
  cases hv:A.R.hv i j with
  |false=>rw[(h.told.t0 i r j x hr hc hx hv).2];exact .inl rfl
  |true=>
   obtain⟨m,hm,_,t2⟩:=h.told.tv i r j x hr hc hx hv;rw[t2];exact h.told.sv _ m hm
 have c3:∀w2:af,bB w2 τ aJ b s A->Calls prog 43 #[ptr b,.int .i64 ((i:Int)+1)] w2 λe w'=>e=.returned (.bool Z6)/\bB w' τ aJ b (iO s i r) A/\Stp aJ τ w2 τ w'/\Seen w' A i r/\(∀k,k≠A.R.rm->w'.heap[k]?=w2.heap[k]?)/\w'.heap.size=w2.heap.size:=λw2 h2'=>by
  have:=zm b A.R.rm _ _ h2'.blk rfl rfl h2'.reads.sL ((i:Int)+1) hn hn';rw[hrn]at this;refine this.mono ?_;rintro e w3 ⟨rfl,KS,lV⟩;have hne:∀{k g g':Nat},τ k=(aJ,g,g')->g≠10->w3.heap[k]?=w2.heap[k]? :=λht hg=>lV.block _ (λe=>by rw[e,h2'.reads.iQ]at ht;simp at ht;omega);obtain⟨k1,k2,k3,k4⟩:=h2'.ok.keys i r hr;refine⟨rfl,h2'.fin hr hc lV.block KS,⟨lV.os,lV.tape,lV.output,as9 lV.size.symm,λ_ _=>rfl,λk _ hk=>lV.block k (λe=>hk (by rw[e,h2'.reads.iQ]))⟩,⟨k4,k1,k2,λx hx=>(jz (k3 x hx)).2,?_,?_,λj x hx=>⟨ptr (A.pb (partOf s.parts x).toNat),?_⟩,?_,ach⟩,lV.block,lV.size⟩
  ·exact(h2'.reads.rd i r hr hc).of_eq (hne (h2'.reads.eP i r hr hc) I)
  ·exact(h2'.reads.xI i r hr hc).of_eq (hne (h2'.reads.nB i r hr hc) I)
  ·exact(h2'.reads.q i r j x hr hc hx).of_eq (hne (h2'.reads.l6 i r j x hr hc hx) I)
  ·exact aI (h2'.reads.ky i r hr hc) (λk hk=>hne (h2'.reads.dV i r k hr hc hk) I)
 have H0:Hid (bB w τ aJ b s A):=h;have HR:Hid (s.rs[i]?=Y r):=hr;have HSB:Hid (∀k,Sb k->k<w.heap.size/\(τ k).1≠aJ):=hSb;unfold ptr at ZL c2 c3⊢;clear hf hv ha hrn h hi h1 h2 hr ach hSb;have HN:∃m:Int,(i:Int)+1=m:=⟨_,rfl⟩
 obtain⟨m,hm⟩:=HN;rw[hm]at ZL c3 hn hn'⊢;clear hm;rw[enter_at func23 rfl];walk_nrmf ntmps23;refine To.dU λK hK=>?_;go_wp2_with fail
 refine To.dU λK hK=>?_;go_wp2_with fail
 refine ZL.mono ?_;rintro e w1 ⟨rfl,hS⟩;have d2:=c2 w1 hS;have HR1:Hid (bB w1 τ aJ b s A):=H0.out.same hS;clear ZL c2;go_wp2_with fail
 refine To.dU λK hK=>?_;go_wp2_with fail
 refine To.dU λK hK=>?_;go_wp2_with fail
 refine d2.mono ?_;rintro e w2 ⟨rfl,hB⟩;have HR2:Hid (bB w2 τ aJ b s A):=HR1.out.below hB;have d3:=c3 w2 HR2.out;clear d2 c3;go_wp2_with fail
 refine To.dU λK hK=>?_;go_wp2_with fail
 refine d3.mono ?_;rintro e w3 ⟨rfl,Z8,wQ,Od,hE3,hz3⟩;clear d3;go_wp2_with fail
 refine Uu (v:=.pointer (Y ⟨A.R.pr i,0,F⟩)) rfl rfl ?_;refine(ME Od _).then ?_
 rintro fr c' w' ⟨rfl,bf,a,ab,ba,bc,wg,ms,cv,rfl,jd,fG,hl,hF⟩;refine To.done ⟨bf,a,ab,ba,bc,wg,ms,cv,_,rfl,jd,fG,rfl,⟨_,_,rfl,rfl,rfl,rfl,?_⟩,hl,?_,⟨w3,Z8,hF.ord.1,hF.below.block⟩,?_⟩
 ·rfl
 ·have vD:w1.heap.size=w.heap.size:=by rw[hS.heap]
  have A8:=hB.size;have ho:=hF.ord;refine⟨H0.out,HR.out,hc,λk hk hne=>?_,hF.Ks,hF.Tc,hF.Td,hF.cand,zk hF.row I,hF.G9,⟨I,ho.2⟩,hF.Oz,HSB.out⟩;rw[hF.below.block k I,hE3 k hne,hB.block k I,hS.heap]
 ·exact((hS.pS _ _).trans (lf hB)).trans (wQ.trans (lf hF.below))
end
def Uv(T:Array aj)(h:T.size=33):∃f:Nat->aj,T=#[f 0,f 1,f 2,f 3,f 4,f 5,f 6,f 7,f 8,f 9,f 10,f 11,f 12,f 13,f 14,f 15,f 16,f 17,f 18,f 19,f 20,f 21,f 22,f 23,f 24,f 25,f 26,f 27,f 28,f 29,f 30,f 31,f 32]:=⟨λi=>T.toList.getD i undef,pG T 33 h⟩
def Uw:List.range' 2 ((opsOf (cA Fz)).toList.drop 2).length= [2,3,4,5,6]:=Yl
def Ti(hF:Te fF){sl:aj}{n:Int}(h:∀fr:ak,fr.fn=23->fr.leaving prog w (.returned (.tuple #[sl,.int .i64 n,.int .i64 0]))->To prog Q fr c w):To prog Q (fF.finish (.tuple #[sl,.int .i64 n])) c w:=by
 obtain⟨b,⟨tms,Ew⟩,rfl,hb,hk,hd,hs⟩:=hF;simp only at hd hs;subst hd;obtain⟨o1,r1,r2,r3,cl,r4,r5,r6⟩:=We;rw[eM r1,r3,<-Uw];refine To.VZ λK hK=>?_;rw[y9];obtain⟨f,rfl⟩:=Uv tms hs;dsimp only[Fz,fnBody,cA,cB,opsOf,f23,aa0,Act.put];simp only[List.drop];go_wp2_with fail
 clear r1 r2 r3 r4 r5 r6 hs;refine To.last (R:=λa' w'=>w'=w/\a'.defers= []/\a'.tmps.getD 4 undef=sl/\a'.tmps.getD 5 undef=.int .i64 n/\a'.tmps.getD 6 undef=.int .i64 0) ?_ rfl ?_
 ·dsimp only[Fz,fnBody,cA,cB,opsOf,f23,aa0];go_wp2_with fail
 ·rintro a' todo w' ⟨rfl,d0,q4,q5,q6⟩;refine h _ hb ⟨rfl,d0,hk,f23,by show prog.funcs[b.fn]?=_;rw[hb];exact func23,?_⟩;rw[<-q4,<-q5,<-q6];simp[results,Frame.at]
end
section
open Go Go.Conc
def eZ:Nat->Code->Code
 | 0,c=>c
 |n+1,c=>eZ n (cB c)
def To.yC{x:Code}(h:∀K:Act->af->Prop,(∀a w,To P Q (b.at a k) c w->K a w)->x.wp P (Exit.then K λ_ _ _=>False) a w):To P Q (b.at a (.code x :: k)) c w:=.code (h _ λ_ _ h=>h) λ_ _ h=>h
def To.call{P:aB}{Q:ak->List ak->af->Prop}{b:ak}{k:List Item}{c:List ak}{ops:Array Oper}{is:List Nat}{i:Nat}{a:Act}{w:af}{o:Oper}{f:ay}{fn:Func}{body:Code}{cl:Call}{args:Array aj}(ho:ops[i]?=Y o)(hw:o.guard=F)(h1:o.op=.call cl)(h2:cl.callee=.value (.func f))(g1:P.funcs[f]?=Y fn)(g2:(fn.name == "runtime.NumGoroutine")=E)(g3:fn.body=Y body)(ha:cl.args.map a.eval=args)
 (h:To P Q (Frame.enter P f args .normal) (b.at a (.inRegion ops (i :: is):: k):: c) w):To P Q (b.at a (.inRegion ops (i :: is):: k)) c w:=by subst ha;exact To.enter ho (qK hw _) (BD h1 h2 g1 g2 g3 _) h
def WT(T:Array aj)(h:T.size=n):∃f:Nat->aj,T=((List.range n).map f).toArray/\∀i v,T[i]?=Y v->f i=v:=⟨λi=>T.toList.getD i undef,pG T n h,λi v hv=>by simp[hv]⟩
def To.calls{f:ay}{args:Array aj}{u:aj}{R:af->Prop}(h:Calls P f args w λe w'=>e=.returned u/\R w')(hq:∀w',R w'->To P Q (cl.finish u) c w'):To P Q (Frame.enter P f args .normal) (cl :: c) w:=λcs=>by obtain⟨e,w',fr,⟨rfl,hr⟩,hs,_,hl⟩:=h (cl :: c++cs);obtain⟨f2,c2,w2,h2,s2⟩:=To.leave hl (hq w' hr) cs;exact⟨f2,c2,w2,h2,Steps.trans hs s2⟩
def OG(h:j<a.tmps.size):(a.put (Y j) v).eval (.tmp j)=v:=by simp[Act.eval,Act.put,al8,h]
end
end Go.Proofs.YteoahlieielcdaaGreat
