import Derived.Test.YteoahlieielcdaaGreatJ26
import Derived.Test.YteoahlieielcdaaGreatJ10
import Derived.Test.YteoahlieielcdaaGreatJ13
set_option linter.all false
set_option maxHeartbeats 8000000
set_option maxRecDepth 100000
namespace Go.Proofs.YteoahlieielcdaaGreat
open Go.Proofs.Tryz
open Go Go.Conc Go.ConcM Go.RowKit Go.MuLone Go.Maps
abbrev zb8:=@Nat.le_refl
abbrev zb9:=@Nat.le_trans
variable{i:Nat}{J:Jm}{w w₁ W:af}
section
variable {L:dY}{bO:Nat->au->af->(Nat->Prop)->(Nat->Prop)->Prop}
def Xj(b0 b1 bc ba b4:Nat):Array aj:=#[.pointer (some ⟨b0,0,none⟩),.pointer (some ⟨b1,0,none⟩),.pointer (some ⟨bc,0,none⟩),.pointer (some ⟨ba,0,none⟩),.pointer (some ⟨b4,0,none⟩)]
def aaO:∃n,∀(pr ba bc asked kb N bX i b1 b4 b0 r:Nat) (O1:aI) (W:af) (O:aI) (a:Act) (w:af) (Q:ep),
 1<=r->asked<=1000->SJ L->O.pos=.mn (.sp r)->¬O.own L.Wg->Dt L.tw L.Wg w->
 xU a pr ba bc L.Wg asked->Er a kb N bX i->a.tmps[8]?=some (.pointer (some ⟨b4,0,none⟩))->a.tmps[9]?=some (.pointer (some ⟨b1,0,none⟩))->a.tmps[10]?=some (.pointer (some ⟨b0,0,none⟩))->bG L O1 W O w->
 Hid (∀(w1:af),RX L O w w1->∀(O2:aI) (w2:af) (bw bf:Nat),dM L O w1 O.fu (.go r) O2 w2->w1.heap.size<=bw->w1.heap.size<=bf->bw≠bf->OB bw (.cells #[.pointer (some ⟨L.Wg,0,none⟩)] 215) O2 w2->OB bf (.cells #[.func (.func 80) #[] (Xj b0 b1 bc ba b4)] 1) O2 w2->bO r (born prog (xB bw bf)) w2 O2.own (fun _=>False))->
 cR prog true (iG prog L.tw L.Wg bO) (RX L) (DX L) 44 (cB (cB (cB Es))) n (bh (fun O' a' w'=>xU a' pr ba bc L.Wg (asked+1)/\Er a' kb N bX i/\(∀b,¬O'.own b)/\O'.pos=.mn (.sp (r-1))/\O'.fu<=O.fu/\Dt L.tw L.Wg w'/\RX L O' w w') Q) O a w:=by
 obtain⟨ng,hgo⟩:=ae8 (L:=L) (bO:=bO);co_apply Exists.intro;intro pr ba bc asked kb N bX i b1 b4 b0 r O1 W O a w Q hr ha1 hok hpos hno vp hl oB g8 g9 K3 hF Ef;dsimp only[Es,AU,wS,lO,cA,cB,cI,cT,cE,f44,Option.getD_some];obtain⟨hd,hsz,g0,g4,g5,g6,g7⟩:=hl;obtain⟨zP,zQ,wP⟩:=oB;obtain⟨fv,hT,aL⟩:=sW hd hsz;subst hT;simp only[aL 0 _ g0,aL 4 _ g4,aL 5 _ g5,aL 6 _ g6,aL 7 _ g7,aL 8 _ g8,aL 9 _ g9,aL 10 _ K3,aL 22 _ zP,aL 23 _ zQ,aL 24 _ wP];clear hd hsz aL g0 g4 g5 g6 g7 g8 g9 K3 zP zQ wP;have hm1:=lK prog;have hm2:=nh prog;have hS:RX L O w w/\dM L O w O.fu (.sp r) O w:=⟨RX.refl _ _,⟨qn.refl hF.top,hok,hpos,hno,zb8 _,vp⟩⟩
 clear hF;have rl:∀{Wa Wb:af},(RX L O w Wa/\dM L O w O.fu (.sp r) O Wa)->RX L O Wa Wb->(RX L O w Wb/\dM L O w O.fu (.sp r) O Wb):=fun h x=>⟨h.1.trans x,h.2.rely x⟩
 have xM:IntKind.i64.wrap ((asked:Int)+1)=((asked+1:Nat):Int):=by rw[IntKind.wrap_i64];omega
 co_apply (gJ);(co_apply (uE);intro _ hR;replace hS:=rl hS hR;clear hR;refine⟨by simp[go_sem],fun K z=>?_⟩;go_simp;refine z _ ?_;clear z K;try walk_nrm);(co_apply (uE);intro _ hR;replace hS:=rl hS hR;clear hR;refine⟨by simp[go_sem],fun K z=>?_⟩;go_simp;refine z _ ?_;clear z K;try walk_nrm);(co_apply (uE);intro _ hR;replace hS:=rl hS hR;clear hR;refine⟨by simp[go_sem],fun K z=>?_⟩;go_simp;refine z _ ?_;clear z K;try walk_nrm);co_apply (gJ);(co_apply aN rfl (by rfl);intro _ hR K hK;replace hS:=rl hS hR;clear hR;(skip);go_simp;refine hK _ ⟨?_,?_⟩;(focus(rw[listed_nil (by simp[go_sem,hm2])];exact DX.idle _ _));clear hK K;try walk_nrm);co_apply bS (aF L) rfl (by rfl) rfl (by walk_nrm;exact hgo (.func 80) (Xj b0 b1 bc ba b4) O _ O.fu r (fun _=>False) _ _ hr ⟨qn.refl hS.2.fr.top,hok,hpos,hno,zb8 _,hS.2.live⟩ (fun _ h=>h.elim) (Ef.out _ hS.1));rintro O2 x W2 ⟨rfl,hown,gI⟩;have hoe:∀b,¬O2.own b:=fun b h=>by rw[hown]at h;exact h
 have OM:RX L O2 w W2:=(hS.1.anti (fun i h=>(hoe i h).elim)).trans (gI.fr.rel.anti (fun i h=>(hoe i h).elim));clear hS;walk_nrm;co_apply (gJ);exact⟨⟨rfl,rfl,rfl,rfl,rfl,by simp[xM],rfl⟩,⟨rfl,rfl,rfl⟩,hoe,gI.pos,gI.fu,gI.live,OM⟩
end
section
structure fH where
 pr:Nat
 ba:Nat
 bc:Nat
 kb:Nat
 N:Nat
 bX:Nat
 ab:Nat
 iP:Nat
 qm:Nat
 keys:List ah
 f:Lit->Option aj
 qb:ah->Nat
 p:ah->Prop
 wn:ah->Nat
 hv:ah->Bool
 tv:ah->ah
 ts:ah->aj
 fm:ah->ah->Bool
abbrev fH.En(d:fH)(x:ByteArray):Prop:=xT d.p d.wn d.hv d.fm x
structure oT(L:dY)(W:af)(d:fH):Prop where
 qs:MP L W d.pr d.qm d.f d.qb d.p d.wn d.hv d.tv d.ts d.fm
 h8:∀(u:af) (n:Nat) (D:DataW aj),u.ownsMap prog 9 aV d.qm n D->Says D d.f->Maps.size D<=8
 isq:∀x,d.p x->(d.f (.string x.data.toList)).isSome=true
 len:d.keys.length=d.N
 n8:d.N<=8
 kc:W.cell? ⟨d.pr,3,none⟩=.some (.slice (.some ⟨d.kb,0,none⟩) d.N d.bX)
 kf:L.Fx d.kb
 key:∀(i:Nat) (x:ah),d.keys[i]?=.some x->W.cell? ⟨d.kb,i,none⟩=.some (.string x)/\x.size<=1000/\d.p x/\d.f (.string x.data.toList)=.some (.pointer (.some ⟨d.qb x,0,none⟩))
 Xk:L.Fx d.ba
 bac:W.cell? ⟨d.ba,0,none⟩=.some (.slice (.some ⟨d.ab,0,none⟩) d.N d.iP)
 tvs:∀x,d.p x->(d.tv x).size<=1000
 abf:¬L.Fx d.ab
 abc:∀a,L.ny a->a.block≠d.ab
 abw:L.Wg≠d.ab
 abs:L.Sh d.ab
 abb:∃c e,W.heap[d.ab]?=.some (.cells c e)/\c.size=d.N*3
 abn:d.ab<L.N
 mn:∀(i:Nat) (x:ah),d.keys[i]?=.some x->d.En x->∀j,j<3->L.Mn ⟨d.ab,i*3+j,none⟩
 wg:SJ L
 top:L.N<=W.heap.size
open Classical in
noncomputable def fH.rem(d:fH)(i:Nat):Nat:=((d.keys.drop i).filter fun x=>decide (¬d.En x)).length
open Classical in
noncomputable def fH.om(d:fH)(i:Nat):Nat:=((d.keys.take i).filter fun x=>decide (¬d.En x)).length
open Classical in
def fH.oU(d:fH){x:ah}(h:d.keys[i]?=some x):(d.En x->d.rem i=d.rem (i+1)/\d.om (i+1)=d.om i)/\(¬d.En x->d.rem i=d.rem (i+1)+1/\d.om (i+1)=d.om i+1):=by
 obtain⟨hlt,rfl⟩:=List.getElem?_eq_some_iff.1 h;have e1:d.keys.drop i=d.keys[i] :: d.keys.drop (i+1):=List.drop_eq_getElem_cons hlt;have e2:d.keys.take (i+1)=d.keys.take i++ [d.keys[i]]:=List.take_succ_eq_append_getElem hlt;unfold fH.rem fH.om;rw[e1,e2];clear e1 e2 h;generalize d.keys[i]=y;generalize List.drop (i+1) d.keys=A;generalize List.take i d.keys=B;constructor
 ·intro hE;simp[hE]
 ·intro hE;simp[hE]
def fH.SY(d:fH)(h:d.keys.length=d.N):d.rem d.N=0:=by unfold fH.rem;rw[List.drop_of_length_le (by omega)];simp
def fH.SZ(d:fH)(i:Nat):d.om i<=d.keys.length:=by unfold fH.om;refine zb9 (List.length_filter_le _ _) ?_;rw[List.length_take];omega
variable {L:dY}{bO:Nat->au->af->(Nat->Prop)->(Nat->Prop)->Prop}
def Xl(L:dY)(bO:Nat->au->af->(Nat->Prop)->(Nat->Prop)->Prop)(W:af)(d:fH):Prop:=
 ∀(i:Nat) (x:ah) (b0 b1 b4 bw bf:Nat) (O2:aI) (w2:af),d.keys[i]?=some x->¬d.En x->(∀b,O2.own b->W.heap.size<=b)->RS L W w2->Dt L.tw L.Wg w2->
  OB b0 (.cells #[.pointer (some ⟨d.qb x,0,none⟩)] 139) O2 w2->OB b1 (.cells #[.string x] 9) O2 w2->OB b4 (.cells #[.int .i64 i] 3) O2 w2->
  OB bw (.cells #[.pointer (some ⟨L.Wg,0,none⟩)] 215) O2 w2->OB bf (.cells #[.func (.func 80) #[] (Xj b0 b1 d.bc d.ba b4)] 1) O2 w2->
  bO (d.rem i) (born prog (xB bw bf)) w2 O2.own (fun _=>False)
structure YT(L:dY)(W:af)(d:fH)(k i:Nat)(O:aI)(a:Act)(w:af):Prop where
 l:xU a d.pr d.ba d.bc L.Wg (d.om i)
 ii:Er a d.kb d.N d.bX i
 iN:i<=d.N
 pos:O.pos=.mn (.sp (d.rem i))
 own:∀b,O.own b->W.heap.size<=b
 fu:O.fu<=k
 rs:RS L W w
 live:Dt L.tw L.Wg w
 AA:∀(j:Nat) (x:ah),j<i->d.keys[j]?=some x->d.En x->Ge d.ab j x (d.wn x) (d.tv x) w
def aaP{main:Bool}:∃n,∀(pr ba bc wg asked kb N bX i:Nat) (O1:aI) (W:af) (O:aI) (a:Act) (w:af) (Q:ep),
 i<=8->xU a pr ba bc wg asked->Er a kb N bX i->bG L O1 W O w->
 cR prog main J (RX L) (DX L) 44 (cB (cB (cB AU))) n (bh (fun O' a' w'=>xU a' pr ba bc wg asked/\Er a' kb N bX (i+1)/\O'=O/\bG L O1 W O' w') Q) O a w:=by
 co_apply Exists.intro;intro pr ba bc wg asked kb N bX i O1 W O a w Q hi8 hl oB hF;dsimp only[AU,wS,lO,cA,cB,cI,cT,cE,f44,Option.getD_some];obtain⟨hd,hsz,g0,g4,g5,g6,g7⟩:=hl;obtain⟨zP,zQ,wP⟩:=oB;obtain⟨fv,hT,aL⟩:=sW hd hsz;subst hT;simp only[aL 0 _ g0,aL 4 _ g4,aL 5 _ g5,aL 6 _ g6,aL 7 _ g7,aL 22 _ zP,aL 23 _ zQ,aL 24 _ wP];clear hd hsz aL g0 g4 g5 g6 g7 zP zQ wP;have xM:IntKind.i64.wrap ((i:Int)+1)=((i+1:Nat):Int):=by rw[IntKind.wrap_i64];omega
 co_apply (gJ);co_apply (jY);intro _ hF;co_apply (jY);intro _ hF;co_apply (gJ);exact⟨⟨rfl,rfl,rfl,rfl,rfl,rfl,rfl⟩,⟨rfl,rfl,by simp[xM]⟩,by trivial,hF⟩
def afF{main:Bool}:∃n,∀(pr ba bc wg asked kb N bX i:Nat) (O1:aI) (W:af) (O:aI) (a:Act) (w:af) (Q:ep),
 xU a pr ba bc wg asked->Er a kb N bX i->bG L O1 W O w->
 cR prog main J (RX L) (DX L) 44 (cA AU) n (bh (fun O' a' w'=>xU a' pr ba bc wg asked/\Er a' kb N bX i/\a'.tmps[25]?=some (.bool (decide (i<N)))/\O'=O/\bG L O1 W O' w') Q) O a w:=by co_apply Exists.intro;intro pr ba bc wg asked kb N bX i O1 W O a w Q hl oB hF;dsimp only[AU,wS,lO,cA,cB,cI,cT,cE,f44,Option.getD_some];obtain⟨hd,hsz,g0,g4,g5,g6,g7⟩:=hl;obtain⟨zP,zQ,wP⟩:=oB;obtain⟨fv,hT,aL⟩:=sW hd hsz;subst hT;simp only[aL 0 _ g0,aL 4 _ g4,aL 5 _ g5,aL 6 _ g6,aL 7 _ g7,aL 22 _ zP,aL 23 _ zQ,aL 24 _ wP];clear hd hsz aL g0 g4 g5 g6 g7 zP zQ wP;co_apply (gJ);co_apply (jY);intro _ hF;co_apply (gJ);exact⟨⟨rfl,rfl,rfl,rfl,rfl,rfl,rfl⟩,⟨rfl,rfl,rfl⟩,by simp,by trivial,hF⟩
end
section
variable {L:dY}{bO:Nat->au->af->(Nat->Prop)->(Nat->Prop)->Prop}
def RS.aZ{W w:af}(h:RS L W w){a:aA}{v:aj}(hc:W.cell? a=some v)(hx:L.Fx a.block):w.cell? a=some v:=h.fxs.aZ hc hx
def rA.rs{v:aj}{g:ah->Bool}(h:rA L w v g)(x:RS L w w₁):rA L w₁ v g:=by
 cases h with
 |none=>exact .none
 |keys a Ls cap h8 hc=>exact .keys a Ls cap h8 fun k y hy=>by obtain⟨g,hg,e,hh⟩:=hc k y hy;exact⟨g,hg,e,x.aZ hh hg⟩
 |mask m=>exact .mask m
def MP.rs{w w₁:af}{pr qm:Nat}{f:Lit->Option aj}{qb:ah->Nat}{p:ah->Prop}{wn:ah->Nat}{hv:ah->Bool}{tv:ah->ah}{ts:ah->aj}{fm:ah->ah->Bool}(h:MP L w pr qm f qb p wn hv tv ts fm)(x:RS L w w₁):MP L w₁ pr qm f qb p wn hv tv ts fm:=
 ⟨h.fp,x.aZ h.cell h.fp,h.fq,xV h.map h.fq x.fxs,h.meets,h.fx,fun y hy=>x.aZ (h.c2 y hy) (h.fx y hy),fun y hy=>x.aZ (h.c3 y hy) (h.fx y hy),fun y hy=>x.aZ (h.c4 y hy) (h.fx y hy),fun y hy=>x.aZ (h.c5 y hy) (h.fx y hy),fun y hy=>(h.KY y hy).rs x,h.bd⟩
def oT.cells{d:fH}(h:oT L W d)(x:RS L W w)(hi:i<d.N):∀j,j<3->(∃v,w.cell? ⟨d.ab,i*3+j,none⟩=some v)/\w.frozen? ⟨d.ab,i*3+j,none⟩=false:=by
 intro j hj;obtain⟨c,e,hb,hsz⟩:=h.abb;obtain⟨c',hb',hs'⟩:=x.sh d.ab c e _ h.abs hb;have hlt:i*3+j<c'.size:=by rw[hs',hsz];omega
 exact⟨⟨c'[i*3+j],by simp[World.cell?,hb',hlt]⟩,by simp[World.frozen?,hb']⟩
def OO:∃n,∀(W:af) (d:fH) (k:Nat) (Q:ep),oT L W d->Xl L bO W d->(∀O a w,YT L W d k d.N O a w->Q O (.exit 0) a w)->
 ∀(j:Nat) (O:aI) (a:Act) (w:af),(∃i,d.N-i<=j/\YT L W d k i O a w)->
 cR prog true (iG prog L.tw L.Wg bO) (RX L) (DX L) 44 AU n (bh (fun O' a' w'=>∃j',j'<j/\∃i,d.N-i<=j'/\YT L W d k i O' a' w') Q) O a w:=by
 obtain⟨n6,h6⟩:=afF (L:=L) (main:=true) (J:=iG prog L.tw L.Wg bO);obtain⟨n7,h7⟩:=afv (L:=L) (main:=true) (J:=iG prog L.tw L.Wg bO);obtain⟨n8,h8⟩:=afx (L:=L) (main:=true) (J:=iG prog L.tw L.Wg bO);obtain⟨n9,h9⟩:=afz (L:=L) (main:=true) (J:=iG prog L.tw L.Wg bO);obtain⟨n10,Jr⟩:=aaM (L:=L) (main:=true) (J:=iG prog L.tw L.Wg bO);obtain⟨n12,h12⟩:=aaO (L:=L) (bO:=bO);obtain⟨n13,h13⟩:=aaP (L:=L) (main:=true) (J:=iG prog L.tw L.Wg bO);co_apply Exists.intro;intro W d k Q hD Ef hE j O a wi hI;obtain⟨i,hij,hI⟩:=hI;have OP:L.N<=wi.heap.size:=zb9 hD.top hI.rs.le;co_apply aK (aF L) (x:=cA AU) (y:=cB AU) _;focus exact h6 _ _ _ _ _ _ _ _ i O wi O a wi _ hI.l hI.ii (bG.refl OP)
 rintro O' a' w' ⟨hl,oB,g25,rfl,hF⟩;co_apply oQ (aF L) (x:=cA (cB AU)) (y:=cB (cB AU));co_apply aU (aF L) (t:=decide (i<d.N))
 ·simp[Act.eval,g25]
 rotate_left
 ·intro hge;have FY:i=d.N:=by have:=hI.iN;simp at hge;omega
  co_apply sV (aF L);refine hE O' a' w' ?_;rw[FY]at hI hl oB;exact⟨hl,oB,zb8 _,hI.pos,hI.own,hI.fu,hI.rs.trans hF.rel.rs,hF.rel.live hI.live,fun j' x hj hx Dy=>by have hm:=hD.mn j' x hx Dy;obtain⟨q1,q2,q3⟩:=hI.AA j' x hj hx Dy;exact⟨(hF.rel.mn _ (hm 0 (by omega))).1.trans q1,(hF.rel.mn _ (hm 1 (by omega))).1.trans q2,(hF.rel.mn _ (hm 2 (by omega))).1.trans q3⟩⟩
 intro hlt;have FY:i<d.N:=by simpa using hlt
 co_apply iT (aF L);co_then;obtain⟨x,hx⟩:∃x,d.keys[i]?=some x:=⟨d.keys[i]'(by rw[hD.len];exact FY),List.getElem?_eq_getElem _⟩
 obtain⟨r1,r2⟩:=d.oU hx;obtain⟨k1,k2,k3,k4⟩:=hD.key i x hx;have wR:=hD.qs.rs hI.rs;have hrs:=hI.rs;co_apply aK (aF L) (x:=cA (cB (cB AU))) (y:=cB (cB (cB AU))) (fun O'' a'' w''=>xU a'' d.pr d.ba d.bc L.Wg (d.om (i+1))/\Er a'' d.kb d.N d.bX i/\O''.pos=.mn (.sp (d.rem (i+1)))/\(∀b,O''.own b->W.heap.size<=b)/\O''.fu<=k/\RS L W w''/\Dt L.tw L.Wg w''/\∀(j:Nat) (x:ah),j<i+1->d.keys[j]?=some x->d.En x->Ge d.ab j x (d.wn x) (d.tv x) w'');rotate_left
 ·rintro O2 a2 w2 ⟨q1,q2,q3,q4,q5,q6,q7,q8⟩;refine oR (h13 _ _ _ _ _ _ _ _ i O2 w2 O2 a2 w2 Q (by have:=hD.n8;omega) q1 q2 (bG.refl (zb9 hD.top q6.le))) fun O3 e a3 w3 q=>?_;cases e with
  |normal=>
   obtain⟨p1,p2,rfl,p4⟩:=q;exact⟨d.N-(i+1),by omega,i+1,zb8 _,p1,p2,by omega,q3,q4,q5,q6.trans p4.rel.rs,p4.rel.live q7,fun j' y hj hy Dy=>by have hm:=hD.mn j' y hy Dy;obtain⟨s1,s2,s3⟩:=q8 j' y hj hy Dy;exact⟨(p4.rel.mn _ (hm 0 (by omega))).1.trans s1,(p4.rel.mn _ (hm 1 (by omega))).1.trans s2,(p4.rel.mn _ (hm 2 (by omega))).1.trans s3⟩⟩
  |_=>exact q
 co_apply fE (aF L) (c:=Es);co_apply aK (aF L) (x:=cA Es) (y:=cB Es) _;focus exact h7 _ _ _ _ _ _ _ _ i x O' wi O' a' w' _ hD.kf FY hD.n8 (hrs.aZ k1 hD.kf) hl oB hF
 rintro O2 a2 w2 ⟨hl,oB,b1,b4,iz,hb4,g8,g9,hF,je,sN⟩;co_apply aK (aF L) (x:=cA (cB Es)) (y:=cB (cB Es)) _;focus exact h8 _ _ _ _ _ _ _ _ i d.qm (d.qb x) b1 b4 d.f x O' wi O2 a2 w2 _ hD.qs.fp wR.cell hD.qs.fq wR.map k4 k2 hl oB g8 g9 hF je sN
 rintro O3 a3 w3 ⟨hl,oB,g8,g9,b0,hb0,K3,hF,sK,je,sN⟩;co_apply oQ (aF L) (x:=cA (cB (cB Es))) (y:=cB (cB (cB Es)));co_apply aK (aF L) (x:=cA (cA (cB (cB Es)))) (y:=cB (cA (cB (cB Es)))) _;focus exact h9 _ _ _ _ _ _ _ _ i d.qm b1 b4 b0 (d.qb x) d.f d.qb d.p d.wn d.hv d.tv d.ts d.fm x O' wi O3 a3 w3 _ wR hD.h8 hD.isq k2 k4 k3 hl oB g8 g9 K3 hF sK je sN
 rintro O4 a4 w4 ⟨hl,oB,g8,g9,K3,⟨b,g37,hb⟩,hF,sK,je,sN⟩;have hsame:∀{O5:aI} {w5:af},RX L O5 w4 w5->∀(j':Nat) (y:ah),j'<i->d.keys[j']?=some y->d.En y->Ge d.ab j' y (d.wn y) (d.tv y) w5:=fun hR j' y hj hy Dy=>by have hm:=hD.mn j' y hy Dy;obtain⟨s1,s2,s3⟩:=hI.AA j' y hj hy Dy;exact⟨((hR.mn _ (hm 0 (by omega))).1.trans (hF.rel.mn _ (hm 0 (by omega))).1).trans s1,((hR.mn _ (hm 1 (by omega))).1.trans (hF.rel.mn _ (hm 1 (by omega))).1).trans s2,((hR.mn _ (hm 2 (by omega))).1.trans (hF.rel.mn _ (hm 2 (by omega))).1).trans s3⟩
 have U4:∀b,O4.own b->W.heap.size<=b:=fun b hb=>(hF.new b hb).elim (hI.own b) fun h=>zb9 hrs.le h;co_apply aU (aF L) (t:=b)
 ·simp[Act.eval,g37]
 ·intro Dz;have AV:d.En x:=hb.1 Dz;obtain⟨e1,e2⟩:=r1 AV;have hmn:=hD.mn i x hx AV;co_apply aK (aF L) (x:=cA (cT (cB (cA (cB (cB Es)))))) (y:=cB (cT (cB (cA (cB (cB Es)))))) _;focus exact Jr _ _ _ _ _ _ _ _ i b1 b4 b0 (d.qb x) d.ab d.iP (d.wn x) (d.tv x) x (fun o=>wi.cell? ⟨d.ab,o,none⟩) O' wi O4 a4 w4 _ hD.Xk (hrs.aZ hD.bac hD.Xk) FY hD.n8 (hD.qs.fx x k3) (wR.c2 x k3) (wR.c4 x k3) (hD.tvs x k3) hD.abf hD.abc hD.abw (Nat.lt_of_lt_of_le hD.abn OP) (fun h=>by have:=hI.own _ h;have:=hD.abn;have:=hD.top;omega) (fun j' hj=>⟨hmn j' hj,hD.cells hrs FY j' hj⟩) (fun o v ho _=>ho) hl oB g8 g9 K3 hF sK je sN
  rintro O5 a5 w5 ⟨hl,oB,hgh,hnew,aaQ,S1,eH⟩;co_apply sV (aF L);co_then;refine⟨by rw[e2];exact hl,oB,by rw[hgh.1,hI.pos,e1],fun b hb=>(hnew b hb).elim (hI.own b) fun h=>zb9 hrs.le h,by rw[hgh.2];exact hI.fu,hrs.trans aaQ,aaQ.live hI.live,fun j' y hj hy Dy=>?_⟩;by_cases e:j'=i
  ·subst e;rw[hx]at hy;cases hy;exact S1
  ·have hm:=hD.mn j' y hy Dy;obtain⟨s1,s2,s3⟩:=hI.AA j' y (by omega) hy Dy;exact⟨eH _ _ s1 (hm 0 (by omega)) (.inl (by omega)),eH _ _ s2 (hm 1 (by omega)) (.inl (by omega)),eH _ _ s3 (hm 2 (by omega)) (.inl (by omega))⟩
 ·intro Xm;have AV:¬d.En x:=fun h=>by rw[hb.2 h]at Xm;cases Xm
  obtain⟨e1,e2⟩:=r2 AV;co_apply iT (aF L);co_then;have Ki:=d.SZ i;have hn8:=hD.n8;have hlen:=hD.len;refine oR (h12 _ _ _ _ _ _ _ i b1 b4 b0 (d.rem i) O' wi O4 a4 w4 (iU 1 (bh (fun _ _ _=>False) Q)) (by omega) (by omega) hD.wg (by rw[hF.gh.1,hI.pos]) (fun h=>by have:=U4 _ h;have:=hD.wg.lo;have:=hD.top;omega) (hF.rel.live hI.live) hl oB g8 g9 K3 hF ?_) fun O6 e a6 w6 q=>?_
  ·intro w1 hR O2' w2' bw bf hS hbw Xm _ hBw YU;refine Ef i x b0 b1 b4 bw bf O2' w2' hx AV (fun b hb=>(hS.fr.new b hb).elim (U4 b) fun h=>zb9 (zb9 (zb9 hrs.le hF.rel.le) hR.le) h) (((hrs.trans hF.rel.rs).trans hR.rs).trans hS.fr.rel.rs) hS.live ((sK.rely hR).Rk hS.fr) ((je.rely hR).Rk hS.fr) ((sN.rely hR).Rk hS.fr) hBw YU
  ·cases e with
   |normal=>
    obtain⟨p1,p2,p3,p4,p5,p6,p7⟩:=q;have BK:d.rem i-1=d.rem (i+1):=by omega
    rw[BK]at p4;refine⟨by rw[e2];exact p1,p2,p4,fun b hb=>(p3 b hb).elim,zb9 p5 (by rw[hF.gh.2];exact hI.fu),(hrs.trans hF.rel.rs).trans p7.rs,p6,fun j' y hj hy Dy=>?_⟩;by_cases e:j'=i
    ·subst e;rw[hx]at hy;cases hy;exact absurd Dy AV
    ·exact hsame p7 j' y (by omega) hy Dy
   |exit id=>
    simp only[bh,iU,Exit.then,Exit.inBlock]at q⊢;split at q
    ·exact q.elim
    ·rename_i hid;rw[if_neg hid];exact q
   |_=>exact q
end
section
variable {L:dY}{bO:Nat->au->af->(Nat->Prop)->(Nat->Prop)->Prop}
structure S2(L:dY)(W:af)(d:fH)(O:aI)(a:Act)(w:af):Prop where
 d0:a.defers= []
 r2:a.tmps[2]?=some (.slice (some ⟨d.ab,0,none⟩) d.N d.iP)
 r3:a.tmps[3]?=some (.int .i64 (d.om d.N))
 pos:O.pos=.mn .rt
 rs:RS L W w
 AA:∀(j:Nat) (x:ah),d.keys[j]?=some x->d.En x->Ge d.ab j x (d.wn x) (d.tv x) w
def S2.rely{d:fH}{O:aI}{a:Act}(hD:oT L W d)(h:S2 L W d O a w)(r:RX L O w w₁):S2 L W d O a w₁:=
 ⟨h.d0,h.r2,h.r3,h.pos,h.rs.trans r.rs,fun j x hx hE=>by have hm:=hD.mn j x hx hE;obtain⟨s1,s2,s3⟩:=h.AA j x hx hE;exact⟨(r.mn _ (hm 0 (by omega))).1.trans s1,(r.mn _ (hm 1 (by omega))).1.trans s2,(r.mn _ (hm 2 (by omega))).1.trans s3⟩⟩
def aaS:∃n,∀(W:af) (d:fH) (k:Nat) (O:aI) (a:Act) (w:af) (Q:ep),oT L W d->YT L W d k d.N O a w->(∀O' a' w',S2 L W d O' a' w'->Q O' .ret a' w')->
 cR prog true (iG prog L.tw L.Wg bO) (RX L) (DX L) 44 (cB wS) n Q O a w:=by
 obtain⟨nw,hwt⟩:=WW (L:=L) (bO:=bO);co_apply Exists.intro;intro W d k O a w Q hD hI hQ;have hQ':Hid (∀O' a' w',S2 L W d O' a' w'->Q O' .ret a' w'):=hQ;clear hQ;obtain⟨hl,oB,FY,hpos,hown,hfu,hrs,vp,S1⟩:=hI;rw[d.SY hD.len]at hpos;dsimp only[wS,lO,cA,cB,cI,cT,cE,f44,Option.getD_some];obtain⟨hd,hsz,g0,g4,g5,g6,g7⟩:=hl;obtain⟨fv,hT,aL⟩:=sW hd hsz;subst hT;simp only[aL 0 _ g0,aL 4 _ g4,aL 5 _ g5,aL 6 _ g6,aL 7 _ g7];clear hd hsz aL oB g0 g4 g5 g6 g7;have OP:L.N<=w.heap.size:=zb9 hD.top hrs.le;have hno:¬O.own L.Wg:=fun h=>by have:=hown _ h;have:=hD.wg.lo;have:=hD.top;omega
 co_apply (gJ);co_apply bS (aF L) rfl (by rfl) rfl (by walk_nrm;exact hwt O w O.fu _ _ ⟨qn.refl OP,hD.wg,hpos,hno,zb8 _,vp⟩);rintro O2 x W2 ⟨rfl,hS⟩;have aaT:=hrs.trans hS.fr.rel.rs;have aaU:Hid (∀(j:Nat) (x:ah),d.keys[j]?=some x->d.En x->Ge d.ab j x (d.wn x) (d.tv x) W2):=fun j x hx hE=>by have hm:=hD.mn j x hx hE;obtain⟨s1,s2,s3⟩:=S1 j x (by have:=(List.getElem?_eq_some_iff.1 hx).1;rw[hD.len]at this;exact this) hx hE;exact⟨(hS.fr.rel.mn _ (hm 0 (by omega))).1.trans s1,(hS.fr.rel.mn _ (hm 1 (by omega))).1.trans s2,(hS.fr.rel.mn _ (hm 2 (by omega))).1.trans s3⟩
 have OQ:=hS.pos;have hF:bG L O2 W2 O2 W2:=bG.refl (zb9 OP hS.fr.rel.le);clear hS S1 vp hno hpos hrs;have hba:=aaT.aZ hD.bac hD.Xk;walk_nrm;co_apply (gJ);(co_apply aN rfl (by rfl);intro _ hR K hK;replace hF:=bG.rely hF hR;clear hR;(have hc:=hF.aZ hba hD.Xk);go_simp;refine hK _ ⟨?_,?_⟩;(focus(refine DX.still _ _ (cC (a:=⟨d.ba,0,none⟩) (.inl hD.Xk) fun e he=>?_);have hm:=mem_listed he;simp[go_sem,hc]at hm;exact hm));clear hK K;try walk_nrm);clear hc;co_apply (jY);intro _ hF;co_apply (jY);intro _ hF;co_apply (jY);intro _ hF;co_apply (gJ);refine hQ'.out _ _ _ ⟨rfl,rfl,rfl,OQ,aaT.trans hF.rel.rs,fun j x hx hE=>?_⟩;have hm:=hD.mn j x hx hE;obtain⟨s1,s2,s3⟩:=aaU.out j x hx hE;exact⟨(hF.rel.mn _ (hm 0 (by omega))).1.trans s1,(hF.rel.mn _ (hm 1 (by omega))).1.trans s2,(hF.rel.mn _ (hm 2 (by omega))).1.trans s3⟩
def aaV:∃n,∀(W:af) (d:fH) (O:aI) (a:Act) (Q:ep),oT L W d->Xl L bO W d->xU a d.pr d.ba d.bc L.Wg 0->O.pos=.mn (.sp (d.rem 0))->(∀b,O.own b->W.heap.size<=b)->Dt L.tw L.Wg W->(∀O' a' w',S2 L W d O' a' w'->Q O' .ret a' w')->
 cR prog true (iG prog L.tw L.Wg bO) (RX L) (DX L) 44 wS n Q O a W:=by
 obtain⟨n5,h5⟩:=afu (L:=L) (main:=true) (J:=iG prog L.tw L.Wg bO);obtain⟨nr,hr⟩:=OO (L:=L) (bO:=bO);obtain⟨n14,WX⟩:=aaS (L:=L) (bO:=bO);co_apply Exists.intro;intro W d O a Q hD Ef hl hpos hown vp hQ;co_apply aK (aF L) (x:=cA wS) (y:=cB wS) (fun O' a' w'=>YT L W d O.fu d.N O' a' w')
 ·co_apply aK (aF L) (x:=cA (cA wS)) (y:=cB (cA wS)) _;focus exact h5 d.pr d.ba d.bc L.Wg 0 d.kb d.N d.bX O W O a W _ hD.qs.fp hD.kc hD.n8 hl (bG.refl hD.top)
  rintro O' a' w' ⟨hl,oB,hF⟩;co_apply fE (aF L) (c:=cI (cB (cA wS)));co_apply mq (aF L) (c:=AU) (N:=8) (fun j O' a' w'=>∃i,d.N-i<=j/\YT L W d O.fu i O' a' w') nr
  ·refine⟨0,by have:=hD.n8;omega,?_⟩;have e0:d.om 0=0:=by unfold fH.om;simp
   exact⟨by rw[e0];exact hl,oB,Nat.zero_le _,by rw[hF.gh.1];exact hpos,fun b hb=>(hF.new b hb).elim (hown b) id,by rw[hF.gh.2];exact zb8 _,hF.rel.rs,hF.rel.live vp,fun j x hj=>absurd hj (Nat.not_lt_zero _)⟩
  ·intro j O1 a1 w1 hI;exact hr W d O.fu _ hD Ef (fun O2 a2 w2 h=>by co_then;exact h) j O1 a1 w1 hI
 ·intro O' a' w' hI;exact WX W d O.fu O' a' w' Q hD hI hQ
end
end Go.Proofs.YteoahlieielcdaaGreat
