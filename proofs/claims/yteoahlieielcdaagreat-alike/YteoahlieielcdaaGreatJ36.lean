import Derived.Test.YteoahlieielcdaaGreatJ22
import Derived.Test.YteoahlieielcdaaGreatJ10
import Derived.Test.YteoahlieielcdaaGreatJ14
set_option linter.all false
set_option maxHeartbeats 8000000
set_option maxRecDepth 100000
namespace Go.Proofs.YteoahlieielcdaaGreat
open Go.Proofs.Tryz
open Go Go.Conc Go.ConcM Go.RowKit Go.MuLone Go.Maps
abbrev zb1:=@Nat.le_refl
abbrev zb2:=@Nat.le_trans
variable{i:Nat}{J:Jm}{w w₁ W:World}
section
variable {L:eg}{bI:Nat->Goroutine->World->(Nat->Prop)->(Nat->Prop)->Prop}
def Vp(b0 b1 bc ba b4:Nat):Array Value:=#[.pointer (some ⟨b0,0,none⟩),.pointer (some ⟨b1,0,none⟩),.pointer (some ⟨bc,0,none⟩),.pointer (some ⟨ba,0,none⟩),.pointer (some ⟨b4,0,none⟩)]
theorem YO:∃n,∀(pr ba bc asked kb N bC i b1 b4 b0 r:Nat) (O1:au) (W:World) (O:au) (a:Act) (w:World) (Q:ew),
 1<=r->asked<=1000->Rs L->O.pos=.mn (.sp r)->¬O.own L.Wg->Ea L.tw L.Wg w->
 Ap a pr ba bc L.Wg asked->EI a kb N bC i->a.tmps[8]?=some (.pointer (some ⟨b4,0,none⟩))->a.tmps[9]?=some (.pointer (some ⟨b1,0,none⟩))->a.tmps[10]?=some (.pointer (some ⟨b0,0,none⟩))->bA L O1 W O w->
 Hid (∀(w1:World),RX L O w w1->∀(O2:au) (w2:World) (bw bf:Nat),dM L O w1 O.fu (.go r) O2 w2->w1.heap.size<=bw->w1.heap.size<=bf->bw≠bf->OB bw (.cells #[.pointer (some ⟨L.Wg,0,none⟩)] 215) O2 w2->OB bf (.cells #[.func (.func 80) #[] (Vp b0 b1 bc ba b4)] 1) O2 w2->bI r (born prog (xU bw bf)) w2 O2.own (fun _=>False))->
 cO prog true (iQ prog L.tw L.Wg bI) (RX L) (DX L) 44 (cB (cB (cB EK))) n (aX (fun O' a' w'=>Ap a' pr ba bc L.Wg (asked+1)/\EI a' kb N bC i/\(∀b,¬O'.own b)/\O'.pos=.mn (.sp (r-1))/\O'.fu<=O.fu/\Ea L.tw L.Wg w'/\RX L O' w w') Q) O a w:=by
 obtain⟨ng,hgo⟩:=acX (L:=L) (bI:=bI);co_apply Exists.intro;intro pr ba bc asked kb N bC i b1 b4 b0 r O1 W O a w Q hr ha1 hok hpos hno vS hl oG g8 g9 Lc hF Et;dsimp only[EK,BC,yp,mC,cA,cB,cI,cT,cE,Tryz.f44,Option.getD_some];obtain⟨hd,hsz,g0,g4,g5,g6,g7⟩:=hl;obtain⟨Ax,uO,xD⟩:=oG;obtain⟨fv,hT,aj⟩:=s7 hd hsz;subst hT;simp only[aj 0 _ g0,aj 4 _ g4,aj 5 _ g5,aj 6 _ g6,aj 7 _ g7,aj 8 _ g8,aj 9 _ g9,aj 10 _ Lc,aj 22 _ Ax,aj 23 _ uO,aj 24 _ xD];clear hd hsz aj g0 g4 g5 g6 g7 g8 g9 Lc Ax uO xD;have hm1:=mq prog;have hm2:=nN prog;have hS:RX L O w w/\dM L O w O.fu (.sp r) O w:=⟨RX.refl _ _,⟨qM.refl hF.top,hok,hpos,hno,zb1 _,vS⟩⟩
 clear hF;have rl:∀{Wa Wb:World},(RX L O w Wa/\dM L O w O.fu (.sp r) O Wa)->RX L O Wa Wb->(RX L O w Wb/\dM L O w O.fu (.sp r) O Wb):=fun h x=>⟨h.1.trans x,h.2.rely x⟩
 have yc:IntKind.i64.wrap ((asked:Int)+1)=((asked+1:Nat):Int):=by rw[IntKind.wrap_i64];omega
 (repeat(first|co_apply aQ|((first|co_apply bh|co_apply aO);try co_then)));(co_apply (aP);intro _ hR;replace hS:=rl hS hR;clear hR;refine⟨by simp[go_sem],fun K z=>?_⟩;go_simp;refine z _ ?_;clear z K;try walk_nrm);(co_apply (aP);intro _ hR;replace hS:=rl hS hR;clear hR;refine⟨by simp[go_sem],fun K z=>?_⟩;go_simp;refine z _ ?_;clear z K;try walk_nrm);(co_apply (aP);intro _ hR;replace hS:=rl hS hR;clear hR;refine⟨by simp[go_sem],fun K z=>?_⟩;go_simp;refine z _ ?_;clear z K;try walk_nrm);(repeat(first|co_apply aQ|((first|co_apply bh|co_apply aO);try co_then)));(co_apply aC rfl (by rfl);intro _ hR K hK;replace hS:=rl hS hR;clear hR;(skip);go_simp;refine hK _ ⟨?_,?_⟩;(focus(rw[listed_nil (by simp[go_sem,hm2])];exact DX.idle _ _));clear hK K;try walk_nrm);co_apply bQ (ah L) rfl (by rfl) rfl (by walk_nrm;exact hgo (.func 80) (Vp b0 b1 bc ba b4) O _ O.fu r (fun _=>False) _ _ hr ⟨qM.refl hS.2.fr.top,hok,hpos,hno,zb1 _,hS.2.live⟩ (fun _ h=>h.elim) (Et.out _ hS.1));rintro O2 x W2 ⟨rfl,hown,fE⟩;have hoe:∀b,¬O2.own b:=fun b h=>by rw[hown]at h;exact h
 have NR:RX L O2 w W2:=(hS.1.anti (fun i h=>(hoe i h).elim)).trans (fE.fr.rel.anti (fun i h=>(hoe i h).elim));clear hS;walk_nrm;(repeat(first|co_apply aQ|((first|co_apply bh|co_apply aO);try co_then)));exact⟨⟨rfl,rfl,rfl,rfl,rfl,by simp[yc],rfl⟩,⟨rfl,rfl,rfl⟩,hoe,fE.pos,fE.fu,fE.live,NR⟩
end
section
structure fL where
 pr:Nat
 ba:Nat
 bc:Nat
 kb:Nat
 N:Nat
 bC:Nat
 ab:Nat
 lS:Nat
 qm:Nat
 keys:List ByteArray
 f:Lit->Option Value
 qb:ByteArray->Nat
 p:ByteArray->Prop
 wn:ByteArray->Nat
 hv:ByteArray->Bool
 tv:ByteArray->ByteArray
 ts:ByteArray->Value
 fm:ByteArray->ByteArray->Bool
abbrev fL.En(d:fL)(x:ByteArray):Prop:=ym d.p d.wn d.hv d.fm x
structure o9(L:eg)(W:World)(d:fL):Prop where
 qs:M8 L W d.pr d.qm d.f d.qb d.p d.wn d.hv d.tv d.ts d.fm
 h8:∀(u:World) (n:Nat) (D:DataW Value),u.ownsMap prog 9 aL d.qm n D->Says D d.f->Maps.size D<=8
 isq:∀x,d.p x->(d.f (.string x.data.toList)).isSome=true
 len:d.keys.length=d.N
 n8:d.N<=8
 kc:W.cell? ⟨d.pr,3,none⟩=.some (.slice (.some ⟨d.kb,0,none⟩) d.N d.bC)
 kf:L.Fx d.kb
 key:∀(i:Nat) (x:ByteArray),d.keys[i]?=.some x->W.cell? ⟨d.kb,i,none⟩=.some (.string x)/\x.size<=1000/\d.p x/\d.f (.string x.data.toList)=.some (.pointer (.some ⟨d.qb x,0,none⟩))
 Vq:L.Fx d.ba
 bac:W.cell? ⟨d.ba,0,none⟩=.some (.slice (.some ⟨d.ab,0,none⟩) d.N d.lS)
 tvs:∀x,d.p x->(d.tv x).size<=1000
 abf:¬L.Fx d.ab
 abc:∀a,L.nR a->a.block≠d.ab
 abw:L.Wg≠d.ab
 abs:L.Sh d.ab
 abb:∃c e,W.heap[d.ab]?=.some (.cells c e)/\c.size=d.N*3
 abn:d.ab<L.N
 mn:∀(i:Nat) (x:ByteArray),d.keys[i]?=.some x->d.En x->∀j,j<3->L.Mn ⟨d.ab,i*3+j,none⟩
 wg:Rs L
 top:L.N<=W.heap.size
open Classical in
noncomputable def fL.rem(d:fL)(i:Nat):Nat:=((d.keys.drop i).filter fun x=>decide (¬d.En x)).length
open Classical in
noncomputable def fL.uR(d:fL)(i:Nat):Nat:=((d.keys.take i).filter fun x=>decide (¬d.En x)).length
open Classical in
theorem fL.pe(d:fL){x:ByteArray}(h:d.keys[i]?=some x):(d.En x->d.rem i=d.rem (i+1)/\d.uR (i+1)=d.uR i)/\(¬d.En x->d.rem i=d.rem (i+1)+1/\d.uR (i+1)=d.uR i+1):=by
 obtain⟨hlt,rfl⟩:=List.getElem?_eq_some_iff.1 h;have e1:d.keys.drop i=d.keys[i] :: d.keys.drop (i+1):=List.drop_eq_getElem_cons hlt;have e2:d.keys.take (i+1)=d.keys.take i++ [d.keys[i]]:=List.take_succ_eq_append_getElem hlt;unfold fL.rem fL.uR;rw[e1,e2];clear e1 e2 h;generalize d.keys[i]=y;generalize List.drop (i+1) d.keys=A;generalize List.take i d.keys=B;constructor
 ·intro hE;simp[hE]
 ·intro hE;simp[hE]
theorem fL.RG(d:fL)(h:d.keys.length=d.N):d.rem d.N=0:=by unfold fL.rem;rw[List.drop_of_length_le (by omega)];simp
theorem fL.RH(d:fL)(i:Nat):d.uR i<=d.keys.length:=by unfold fL.uR;refine zb2 (List.length_filter_le _ _) ?_;rw[List.length_take];omega
variable {L:eg}{bI:Nat->Goroutine->World->(Nat->Prop)->(Nat->Prop)->Prop}
def Vr(L:eg)(bI:Nat->Goroutine->World->(Nat->Prop)->(Nat->Prop)->Prop)(W:World)(d:fL):Prop:=
 ∀(i:Nat) (x:ByteArray) (b0 b1 b4 bw bf:Nat) (O2:au) (w2:World),d.keys[i]?=some x->¬d.En x->(∀b,O2.own b->W.heap.size<=b)->RS L W w2->Ea L.tw L.Wg w2->
  OB b0 (.cells #[.pointer (some ⟨d.qb x,0,none⟩)] 139) O2 w2->OB b1 (.cells #[.string x] 9) O2 w2->OB b4 (.cells #[.int .i64 i] 3) O2 w2->
  OB bw (.cells #[.pointer (some ⟨L.Wg,0,none⟩)] 215) O2 w2->OB bf (.cells #[.func (.func 80) #[] (Vp b0 b1 d.bc d.ba b4)] 1) O2 w2->
  bI (d.rem i) (born prog (xU bw bf)) w2 O2.own (fun _=>False)
structure Xv(L:eg)(W:World)(d:fL)(k i:Nat)(O:au)(a:Act)(w:World):Prop where
 l:Ap a d.pr d.ba d.bc L.Wg (d.uR i)
 ii:EI a d.kb d.N d.bC i
 iN:i<=d.N
 pos:O.pos=.mn (.sp (d.rem i))
 own:∀b,O.own b->W.heap.size<=b
 fu:O.fu<=k
 rs:RS L W w
 live:Ea L.tw L.Wg w
 NS:∀(j:Nat) (x:ByteArray),j<i->d.keys[j]?=some x->d.En x->Q7 d.ab j x (d.wn x) (d.tv x) w
theorem YP{main:Bool}:∃n,∀(pr ba bc wg asked kb N bC i:Nat) (O1:au) (W:World) (O:au) (a:Act) (w:World) (Q:ew),
 i<=8->Ap a pr ba bc wg asked->EI a kb N bC i->bA L O1 W O w->
 cO prog main J (RX L) (DX L) 44 (cB (cB (cB BC))) n (aX (fun O' a' w'=>Ap a' pr ba bc wg asked/\EI a' kb N bC (i+1)/\O'=O/\bA L O1 W O' w') Q) O a w:=by
 co_apply Exists.intro;intro pr ba bc wg asked kb N bC i O1 W O a w Q hi8 hl oG hF;dsimp only[BC,yp,mC,cA,cB,cI,cT,cE,Tryz.f44,Option.getD_some];obtain⟨hd,hsz,g0,g4,g5,g6,g7⟩:=hl;obtain⟨Ax,uO,xD⟩:=oG;obtain⟨fv,hT,aj⟩:=s7 hd hsz;subst hT;simp only[aj 0 _ g0,aj 4 _ g4,aj 5 _ g5,aj 6 _ g6,aj 7 _ g7,aj 22 _ Ax,aj 23 _ uO,aj 24 _ xD];clear hd hsz aj g0 g4 g5 g6 g7 Ax uO xD;have yc:IntKind.i64.wrap ((i:Int)+1)=((i+1:Nat):Int):=by rw[IntKind.wrap_i64];omega
 (repeat(first|co_apply aQ|(co_apply aO;try co_then)));(co_apply (aP);intro _ hR;replace hF:=hF.rely hR;clear hR;refine⟨by simp[go_sem],fun K z=>?_⟩;go_simp;refine z _ ?_;clear z K;try walk_nrm);(co_apply (aP);intro _ hR;replace hF:=hF.rely hR;clear hR;refine⟨by simp[go_sem],fun K z=>?_⟩;go_simp;refine z _ ?_;clear z K;try walk_nrm);(repeat(first|co_apply aQ|(co_apply aO;try co_then)));exact⟨⟨rfl,rfl,rfl,rfl,rfl,rfl,rfl⟩,⟨rfl,rfl,by simp[yc]⟩,by trivial,hF⟩
theorem adx{main:Bool}:∃n,∀(pr ba bc wg asked kb N bC i:Nat) (O1:au) (W:World) (O:au) (a:Act) (w:World) (Q:ew),
 Ap a pr ba bc wg asked->EI a kb N bC i->bA L O1 W O w->
 cO prog main J (RX L) (DX L) 44 (cA BC) n (aX (fun O' a' w'=>Ap a' pr ba bc wg asked/\EI a' kb N bC i/\a'.tmps[25]?=some (.bool (decide (i<N)))/\O'=O/\bA L O1 W O' w') Q) O a w:=by co_apply Exists.intro;intro pr ba bc wg asked kb N bC i O1 W O a w Q hl oG hF;dsimp only[BC,yp,mC,cA,cB,cI,cT,cE,Tryz.f44,Option.getD_some];obtain⟨hd,hsz,g0,g4,g5,g6,g7⟩:=hl;obtain⟨Ax,uO,xD⟩:=oG;obtain⟨fv,hT,aj⟩:=s7 hd hsz;subst hT;simp only[aj 0 _ g0,aj 4 _ g4,aj 5 _ g5,aj 6 _ g6,aj 7 _ g7,aj 22 _ Ax,aj 23 _ uO,aj 24 _ xD];clear hd hsz aj g0 g4 g5 g6 g7 Ax uO xD;(repeat(first|co_apply aQ|(co_apply aO;try co_then)));(co_apply (aP);intro _ hR;replace hF:=hF.rely hR;clear hR;refine⟨by simp[go_sem],fun K z=>?_⟩;go_simp;refine z _ ?_;clear z K;try walk_nrm);(repeat(first|co_apply aQ|(co_apply aO;try co_then)));exact⟨⟨rfl,rfl,rfl,rfl,rfl,rfl,rfl⟩,⟨rfl,rfl,rfl⟩,by simp,by trivial,hF⟩
end
section
variable {L:eg}{bI:Nat->Goroutine->World->(Nat->Prop)->(Nat->Prop)->Prop}
theorem RS.aV{W w:World}(h:RS L W w){a:Addr}{v:Value}(hc:W.cell? a=some v)(hx:L.Fx a.block):w.cell? a=some v:=h.fxs.aV hc hx
theorem rU.rs{v:Value}{g:ByteArray->Bool}(h:rU L w v g)(x:RS L w w₁):rU L w₁ v g:=by
 cases h with
 |none=>exact .none
 |keys a Ls cap h8 hc=>exact .keys a Ls cap h8 fun k y hy=>by obtain⟨g,hg,e,hh⟩:=hc k y hy;exact⟨g,hg,e,x.aV hh hg⟩
 |mask m=>exact .mask m
theorem M8.rs{w w₁:World}{pr qm:Nat}{f:Lit->Option Value}{qb:ByteArray->Nat}{p:ByteArray->Prop}{wn:ByteArray->Nat}{hv:ByteArray->Bool}{tv:ByteArray->ByteArray}{ts:ByteArray->Value}{fm:ByteArray->ByteArray->Bool}(h:M8 L w pr qm f qb p wn hv tv ts fm)(x:RS L w w₁):M8 L w₁ pr qm f qb p wn hv tv ts fm:=
 ⟨h.fp,x.aV h.cell h.fp,h.fq,yq h.map h.fq x.fxs,h.meets,h.fx,fun y hy=>x.aV (h.c2 y hy) (h.fx y hy),fun y hy=>x.aV (h.c3 y hy) (h.fx y hy),fun y hy=>x.aV (h.c4 y hy) (h.fx y hy),fun y hy=>x.aV (h.c5 y hy) (h.fx y hy),fun y hy=>(h.La y hy).rs x,h.bd⟩
theorem o9.cells{d:fL}(h:o9 L W d)(x:RS L W w)(hi:i<d.N):∀j,j<3->(∃v,w.cell? ⟨d.ab,i*3+j,none⟩=some v)/\w.frozen? ⟨d.ab,i*3+j,none⟩=false:=by
 intro j hj;obtain⟨c,e,hb,hsz⟩:=h.abb;obtain⟨c',hb',hs'⟩:=x.sh d.ab c e _ h.abs hb;have hlt:i*3+j<c'.size:=by rw[hs',hsz];omega
 exact⟨⟨c'[i*3+j],by simp[World.cell?,hb',hlt]⟩,by simp[World.frozen?,hb']⟩
theorem NT:∃n,∀(W:World) (d:fL) (k:Nat) (Q:ew),o9 L W d->Vr L bI W d->(∀O a w,Xv L W d k d.N O a w->Q O (.exit 0) a w)->
 ∀(j:Nat) (O:au) (a:Act) (w:World),(∃i,d.N-i<=j/\Xv L W d k i O a w)->
 cO prog true (iQ prog L.tw L.Wg bI) (RX L) (DX L) 44 BC n (aX (fun O' a' w'=>∃j',j'<j/\∃i,d.N-i<=j'/\Xv L W d k i O' a' w') Q) O a w:=by
 obtain⟨n6,h6⟩:=adx (L:=L) (main:=true) (J:=iQ prog L.tw L.Wg bI);obtain⟨n7,h7⟩:=adl (L:=L) (main:=true) (J:=iQ prog L.tw L.Wg bI);obtain⟨n8,h8⟩:=ado (L:=L) (main:=true) (J:=iQ prog L.tw L.Wg bI);obtain⟨n9,h9⟩:=adr (L:=L) (main:=true) (J:=iQ prog L.tw L.Wg bI);obtain⟨n10,JQ⟩:=YM (L:=L) (main:=true) (J:=iQ prog L.tw L.Wg bI);obtain⟨n12,h12⟩:=YO (L:=L) (bI:=bI);obtain⟨n13,Yu⟩:=YP (L:=L) (main:=true) (J:=iQ prog L.tw L.Wg bI);co_apply Exists.intro;intro W d k Q hD Et hE j O a wi hI;obtain⟨i,hij,hI⟩:=hI;have NU:L.N<=wi.heap.size:=zb2 hD.top hI.rs.le;co_apply ay (ah L) (x:=cA BC) (y:=cB BC) _;focus exact h6 _ _ _ _ _ _ _ _ i O wi O a wi _ hI.l hI.ii (bA.refl NU)
 rintro O' a' w' ⟨hl,oG,g25,rfl,hF⟩;co_apply oZ (ah L) (x:=cA (cB BC)) (y:=cB (cB BC));co_apply aN (ah L) (t:=decide (i<d.N))
 ·simp[Act.eval,g25]
 rotate_left
 ·intro hge;have GQ:i=d.N:=by have:=hI.iN;simp at hge;omega
  co_apply sZ (ah L);refine hE O' a' w' ?_;rw[GQ]at hI hl oG;exact⟨hl,oG,zb1 _,hI.pos,hI.own,hI.fu,hI.rs.trans hF.rel.rs,hF.rel.live hI.live,fun j' x hj hx Ef=>by have hm:=hD.mn j' x hx Ef;obtain⟨q1,q2,q3⟩:=hI.NS j' x hj hx Ef;exact⟨(hF.rel.mn _ (hm 0 (by omega))).1.trans q1,(hF.rel.mn _ (hm 1 (by omega))).1.trans q2,(hF.rel.mn _ (hm 2 (by omega))).1.trans q3⟩⟩
 intro hlt;have GQ:i<d.N:=by simpa using hlt
 co_apply iZ (ah L);co_then;obtain⟨x,hx⟩:∃x,d.keys[i]?=some x:=⟨d.keys[i]'(by rw[hD.len];exact GQ),List.getElem?_eq_getElem _⟩
 obtain⟨r1,r2⟩:=d.pe hx;obtain⟨k1,k2,k3,k4⟩:=hD.key i x hx;have xF:=hD.qs.rs hI.rs;have hrs:=hI.rs;co_apply ay (ah L) (x:=cA (cB (cB BC))) (y:=cB (cB (cB BC))) (fun O'' a'' w''=>Ap a'' d.pr d.ba d.bc L.Wg (d.uR (i+1))/\EI a'' d.kb d.N d.bC i/\O''.pos=.mn (.sp (d.rem (i+1)))/\(∀b,O''.own b->W.heap.size<=b)/\O''.fu<=k/\RS L W w''/\Ea L.tw L.Wg w''/\∀(j:Nat) (x:ByteArray),j<i+1->d.keys[j]?=some x->d.En x->Q7 d.ab j x (d.wn x) (d.tv x) w'');rotate_left
 ·rintro O2 a2 w2 ⟨q1,q2,q3,q4,q5,q6,q7,q8⟩;refine o8 (Yu _ _ _ _ _ _ _ _ i O2 w2 O2 a2 w2 Q (by have:=hD.n8;omega) q1 q2 (bA.refl (zb2 hD.top q6.le))) fun O3 e a3 w3 q=>?_;cases e with
  |normal=>
   obtain⟨p1,p2,rfl,p4⟩:=q;exact⟨d.N-(i+1),by omega,i+1,zb1 _,p1,p2,by omega,q3,q4,q5,q6.trans p4.rel.rs,p4.rel.live q7,fun j' y hj hy Ef=>by have hm:=hD.mn j' y hy Ef;obtain⟨s1,s2,s3⟩:=q8 j' y hj hy Ef;exact⟨(p4.rel.mn _ (hm 0 (by omega))).1.trans s1,(p4.rel.mn _ (hm 1 (by omega))).1.trans s2,(p4.rel.mn _ (hm 2 (by omega))).1.trans s3⟩⟩
  |_=>exact q
 co_apply fJ (ah L) (c:=EK);co_apply ay (ah L) (x:=cA EK) (y:=cB EK) _;focus exact h7 _ _ _ _ _ _ _ _ i x O' wi O' a' w' _ hD.kf GQ hD.n8 (hrs.aV k1 hD.kf) hl oG hF
 rintro O2 a2 w2 ⟨hl,oG,b1,b4,iR,YN,g8,g9,hF,iM,rj⟩;co_apply ay (ah L) (x:=cA (cB EK)) (y:=cB (cB EK)) _;focus exact h8 _ _ _ _ _ _ _ _ i d.qm (d.qb x) b1 b4 d.f x O' wi O2 a2 w2 _ hD.qs.fp xF.cell hD.qs.fq xF.map k4 k2 hl oG g8 g9 hF iM rj
 rintro O3 a3 w3 ⟨hl,oG,g8,g9,b0,hb0,Lc,hF,uQ,iM,rj⟩;co_apply oZ (ah L) (x:=cA (cB (cB EK))) (y:=cB (cB (cB EK)));co_apply ay (ah L) (x:=cA (cA (cB (cB EK)))) (y:=cB (cA (cB (cB EK)))) _;focus exact h9 _ _ _ _ _ _ _ _ i d.qm b1 b4 b0 (d.qb x) d.f d.qb d.p d.wn d.hv d.tv d.ts d.fm x O' wi O3 a3 w3 _ xF hD.h8 hD.isq k2 k4 k3 hl oG g8 g9 Lc hF uQ iM rj
 rintro O4 a4 w4 ⟨hl,oG,g8,g9,Lc,⟨b,g37,hb⟩,hF,uQ,iM,rj⟩;have hsame:∀{O5:au} {w5:World},RX L O5 w4 w5->∀(j':Nat) (y:ByteArray),j'<i->d.keys[j']?=some y->d.En y->Q7 d.ab j' y (d.wn y) (d.tv y) w5:=fun hR j' y hj hy Ef=>by have hm:=hD.mn j' y hy Ef;obtain⟨s1,s2,s3⟩:=hI.NS j' y hj hy Ef;exact⟨((hR.mn _ (hm 0 (by omega))).1.trans (hF.rel.mn _ (hm 0 (by omega))).1).trans s1,((hR.mn _ (hm 1 (by omega))).1.trans (hF.rel.mn _ (hm 1 (by omega))).1).trans s2,((hR.mn _ (hm 2 (by omega))).1.trans (hF.rel.mn _ (hm 2 (by omega))).1).trans s3⟩
 have TX:∀b,O4.own b->W.heap.size<=b:=fun b hb=>(hF.new b hb).elim (hI.own b) fun h=>zb2 hrs.le h;co_apply aN (ah L) (t:=b)
 ·simp[Act.eval,g37]
 ·intro xG;have BD:d.En x:=hb.1 xG;obtain⟨e1,e2⟩:=r1 BD;have hmn:=hD.mn i x hx BD;co_apply ay (ah L) (x:=cA (cT (cB (cA (cB (cB EK)))))) (y:=cB (cT (cB (cA (cB (cB EK)))))) _;focus exact JQ _ _ _ _ _ _ _ _ i b1 b4 b0 (d.qb x) d.ab d.lS (d.wn x) (d.tv x) x (fun o=>wi.cell? ⟨d.ab,o,none⟩) O' wi O4 a4 w4 _ hD.Vq (hrs.aV hD.bac hD.Vq) GQ hD.n8 (hD.qs.fx x k3) (xF.c2 x k3) (xF.c4 x k3) (hD.tvs x k3) hD.abf hD.abc hD.abw (Nat.lt_of_lt_of_le hD.abn NU) (fun h=>by have:=hI.own _ h;have:=hD.abn;have:=hD.top;omega) (fun j' hj=>⟨hmn j' hj,hD.cells hrs GQ j' hj⟩) (fun o v ho _=>ho) hl oG g8 g9 Lc hF uQ iM rj
  rintro O5 a5 w5 ⟨hl,oG,hgh,hnew,YQ,RI,eK⟩;co_apply sZ (ah L);co_then;refine⟨by rw[e2];exact hl,oG,by rw[hgh.1,hI.pos,e1],fun b hb=>(hnew b hb).elim (hI.own b) fun h=>zb2 hrs.le h,by rw[hgh.2];exact hI.fu,hrs.trans YQ,YQ.live hI.live,fun j' y hj hy Ef=>?_⟩;by_cases e:j'=i
  ·subst e;rw[hx]at hy;cases hy;exact RI
  ·have hm:=hD.mn j' y hy Ef;obtain⟨s1,s2,s3⟩:=hI.NS j' y (by omega) hy Ef;exact⟨eK _ _ s1 (hm 0 (by omega)) (.inl (by omega)),eK _ _ s2 (hm 1 (by omega)) (.inl (by omega)),eK _ _ s3 (hm 2 (by omega)) (.inl (by omega))⟩
 ·intro Hv;have BD:¬d.En x:=fun h=>by rw[hb.2 h]at Hv;cases Hv
  obtain⟨e1,e2⟩:=r2 BD;co_apply iZ (ah L);co_then;have ai7:=d.RH i;have hn8:=hD.n8;have hlen:=hD.len;refine o8 (h12 _ _ _ _ _ _ _ i b1 b4 b0 (d.rem i) O' wi O4 a4 w4 (jc 1 (aX (fun _ _ _=>False) Q)) (by omega) (by omega) hD.wg (by rw[hF.gh.1,hI.pos]) (fun h=>by have:=TX _ h;have:=hD.wg.lo;have:=hD.top;omega) (hF.rel.live hI.live) hl oG g8 g9 Lc hF ?_) fun O6 e a6 w6 q=>?_
  ·intro w1 hR O2' w2' bw bf hS YR Hv _ hBw Xw;refine Et i x b0 b1 b4 bw bf O2' w2' hx BD (fun b hb=>(hS.fr.new b hb).elim (TX b) fun h=>zb2 (zb2 (zb2 hrs.le hF.rel.le) hR.le) h) (((hrs.trans hF.rel.rs).trans hR.rs).trans hS.fr.rel.rs) hS.live ((uQ.rely hR).Q2 hS.fr) ((iM.rely hR).Q2 hS.fr) ((rj.rely hR).Q2 hS.fr) hBw Xw
  ·cases e with
   |normal=>
    obtain⟨p1,p2,p3,p4,p5,p6,p7⟩:=q;have EJ:d.rem i-1=d.rem (i+1):=by omega
    rw[EJ]at p4;refine⟨by rw[e2];exact p1,p2,p4,fun b hb=>(p3 b hb).elim,zb2 p5 (by rw[hF.gh.2];exact hI.fu),(hrs.trans hF.rel.rs).trans p7.rs,p6,fun j' y hj hy Ef=>?_⟩;by_cases e:j'=i
    ·subst e;rw[hx]at hy;cases hy;exact absurd Ef BD
    ·exact hsame p7 j' y (by omega) hy Ef
   |exit id=>
    simp only[aX,jc,Exit.then,Exit.inBlock]at q⊢;split at q
    ·exact q.elim
    ·rename_i hid;rw[if_neg hid];exact q
   |_=>exact q
end
section
variable {L:eg}{bI:Nat->Goroutine->World->(Nat->Prop)->(Nat->Prop)->Prop}
structure RJ(L:eg)(W:World)(d:fL)(O:au)(a:Act)(w:World):Prop where
 d0:a.defers= []
 r2:a.tmps[2]?=some (.slice (some ⟨d.ab,0,none⟩) d.N d.lS)
 r3:a.tmps[3]?=some (.int .i64 (d.uR d.N))
 pos:O.pos=.mn .rt
 rs:RS L W w
 NS:∀(j:Nat) (x:ByteArray),d.keys[j]?=some x->d.En x->Q7 d.ab j x (d.wn x) (d.tv x) w
theorem RJ.rely{d:fL}{O:au}{a:Act}(hD:o9 L W d)(h:RJ L W d O a w)(r:RX L O w w₁):RJ L W d O a w₁:=
 ⟨h.d0,h.r2,h.r3,h.pos,h.rs.trans r.rs,fun j x hx hE=>by have hm:=hD.mn j x hx hE;obtain⟨s1,s2,s3⟩:=h.NS j x hx hE;exact⟨(r.mn _ (hm 0 (by omega))).1.trans s1,(r.mn _ (hm 1 (by omega))).1.trans s2,(r.mn _ (hm 2 (by omega))).1.trans s3⟩⟩
theorem YS:∃n,∀(W:World) (d:fL) (k:Nat) (O:au) (a:Act) (w:World) (Q:ew),o9 L W d->Xv L W d k d.N O a w->(∀O' a' w',RJ L W d O' a' w'->Q O' .ret a' w')->
 cO prog true (iQ prog L.tw L.Wg bI) (RX L) (DX L) 44 (cB yp) n Q O a w:=by
 obtain⟨nw,hwt⟩:=U5 (L:=L) (bI:=bI);co_apply Exists.intro;intro W d k O a w Q hD hI hQ;have YI:Hid (∀O' a' w',RJ L W d O' a' w'->Q O' .ret a' w'):=hQ;clear hQ;obtain⟨hl,oG,GQ,hpos,hown,hfu,hrs,vS,RI⟩:=hI;rw[d.RG hD.len]at hpos;dsimp only[yp,mC,cA,cB,cI,cT,cE,Tryz.f44,Option.getD_some];obtain⟨hd,hsz,g0,g4,g5,g6,g7⟩:=hl;obtain⟨fv,hT,aj⟩:=s7 hd hsz;subst hT;simp only[aj 0 _ g0,aj 4 _ g4,aj 5 _ g5,aj 6 _ g6,aj 7 _ g7];clear hd hsz aj oG g0 g4 g5 g6 g7;have NU:L.N<=w.heap.size:=zb2 hD.top hrs.le;have hno:¬O.own L.Wg:=fun h=>by have:=hown _ h;have:=hD.wg.lo;have:=hD.top;omega
 (repeat(first|co_apply aQ|((first|co_apply bh|co_apply cZ|co_apply aO);try co_then)));co_apply bQ (ah L) rfl (by rfl) rfl (by walk_nrm;exact hwt O w O.fu _ _ ⟨qM.refl NU,hD.wg,hpos,hno,zb1 _,vS⟩);rintro O2 x W2 ⟨rfl,hS⟩;have YT:=hrs.trans hS.fr.rel.rs;have YU:Hid (∀(j:Nat) (x:ByteArray),d.keys[j]?=some x->d.En x->Q7 d.ab j x (d.wn x) (d.tv x) W2):=fun j x hx hE=>by have hm:=hD.mn j x hx hE;obtain⟨s1,s2,s3⟩:=RI j x (by have:=(List.getElem?_eq_some_iff.1 hx).1;rw[hD.len]at this;exact this) hx hE;exact⟨(hS.fr.rel.mn _ (hm 0 (by omega))).1.trans s1,(hS.fr.rel.mn _ (hm 1 (by omega))).1.trans s2,(hS.fr.rel.mn _ (hm 2 (by omega))).1.trans s3⟩
 have NV:=hS.pos;have hF:bA L O2 W2 O2 W2:=bA.refl (zb2 NU hS.fr.rel.le);clear hS RI vS hno hpos hrs;have hba:=YT.aV hD.bac hD.Vq;walk_nrm;(repeat(first|co_apply aQ|((first|co_apply bh|co_apply cZ|co_apply aO);try co_then)));(co_apply aC rfl (by rfl);intro _ hR K hK;replace hF:=bA.rely hF hR;clear hR;(have hc:=hF.aV hba hD.Vq);go_simp;refine hK _ ⟨?_,?_⟩;(focus(refine DX.still _ _ (cr (a:=⟨d.ba,0,none⟩) (.inl hD.Vq) fun e he=>?_);have hm:=mem_listed he;simp[go_sem,hc]at hm;exact hm));clear hK K;try walk_nrm);clear hc;(co_apply (aP);intro _ hR;replace hF:=hF.rely hR;clear hR;refine⟨by simp[go_sem],fun K z=>?_⟩;go_simp;refine z _ ?_;clear z K;try walk_nrm);(co_apply (aP);intro _ hR;replace hF:=hF.rely hR;clear hR;refine⟨by simp[go_sem],fun K z=>?_⟩;go_simp;refine z _ ?_;clear z K;try walk_nrm);(co_apply (aP);intro _ hR;replace hF:=hF.rely hR;clear hR;refine⟨by simp[go_sem],fun K z=>?_⟩;go_simp;refine z _ ?_;clear z K;try walk_nrm);(repeat(first|co_apply aQ|((first|co_apply bh|co_apply cZ|co_apply aO);try co_then)));refine YI.out _ _ _ ⟨rfl,rfl,rfl,NV,YT.trans hF.rel.rs,fun j x hx hE=>?_⟩;have hm:=hD.mn j x hx hE;obtain⟨s1,s2,s3⟩:=YU.out j x hx hE;exact⟨(hF.rel.mn _ (hm 0 (by omega))).1.trans s1,(hF.rel.mn _ (hm 1 (by omega))).1.trans s2,(hF.rel.mn _ (hm 2 (by omega))).1.trans s3⟩
theorem YV:∃n,∀(W:World) (d:fL) (O:au) (a:Act) (Q:ew),o9 L W d->Vr L bI W d->Ap a d.pr d.ba d.bc L.Wg 0->O.pos=.mn (.sp (d.rem 0))->(∀b,O.own b->W.heap.size<=b)->Ea L.tw L.Wg W->(∀O' a' w',RJ L W d O' a' w'->Q O' .ret a' w')->
 cO prog true (iQ prog L.tw L.Wg bI) (RX L) (DX L) 44 yp n Q O a W:=by
 obtain⟨n5,h5⟩:=adk (L:=L) (main:=true) (J:=iQ prog L.tw L.Wg bI);obtain⟨nr,hr⟩:=NT (L:=L) (bI:=bI);obtain⟨n14,U6⟩:=YS (L:=L) (bI:=bI);co_apply Exists.intro;intro W d O a Q hD Et hl hpos hown vS hQ;co_apply ay (ah L) (x:=cA yp) (y:=cB yp) (fun O' a' w'=>Xv L W d O.fu d.N O' a' w')
 ·co_apply ay (ah L) (x:=cA (cA yp)) (y:=cB (cA yp)) _;focus exact h5 d.pr d.ba d.bc L.Wg 0 d.kb d.N d.bC O W O a W _ hD.qs.fp hD.kc hD.n8 hl (bA.refl hD.top)
  rintro O' a' w' ⟨hl,oG,hF⟩;co_apply fJ (ah L) (c:=cI (cB (cA yp)));co_apply mL (ah L) (c:=BC) (N:=8) (fun j O' a' w'=>∃i,d.N-i<=j/\Xv L W d O.fu i O' a' w') nr
  ·refine⟨0,by have:=hD.n8;omega,?_⟩;have e0:d.uR 0=0:=by unfold fL.uR;simp
   exact⟨by rw[e0];exact hl,oG,Nat.zero_le _,by rw[hF.gh.1];exact hpos,fun b hb=>(hF.new b hb).elim (hown b) id,by rw[hF.gh.2];exact zb1 _,hF.rel.rs,hF.rel.live vS,fun j x hj=>absurd hj (Nat.not_lt_zero _)⟩
  ·intro j O1 a1 w1 hI;exact hr W d O.fu _ hD Et (fun O2 a2 w2 h=>by co_then;exact h) j O1 a1 w1 hI
 ·intro O' a' w' hI;exact U6 W d O.fu O' a' w' Q hD hI hQ
end
end Go.Proofs.YteoahlieielcdaaGreat
