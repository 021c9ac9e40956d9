import Derived.Test.YteoahlieielcdaaGreatX6
set_option linter.all false
set_option maxHeartbeats 4000000
set_option maxRecDepth 100000
open Option renaming some->Y,none->F,getD_some->aa0
open Bool renaming false->E,true->Z6,false_eq_true->aa6
open Exists renaming intro->aa1
open Nat renaming le_refl->aj1
namespace Go.Proofs.YteoahlieielcdaaGreat
open Go.Proofs.Tryz
open Go Go.Conc Go.ConcM Go.RowKit
variable {main:Bool}{L:eI}{pb:Nat}
def AZ(old:Wd):Lk:=if old.c=0\/old.l=Z6\/old.w=Z6\/old.s=Z6 then .out else .G0 old
structure Pu(a:Act)(pb:Nat)(old:Wd):Prop where
 d:a.defers= []
 size:a.tmps.size=43
 g0:a.tmps[0]?=Y (.pointer (Y ⟨pb,0,F⟩))
 g4:a.tmps[4]?=Y (.int .i32 (old.val:Nat))
structure UL0(a:Act)(pb:Nat)(x:Wd):Prop where
 d:a.defers= []
 size:a.tmps.size=43
 g0:a.tmps[0]?=Y (.pointer (Y ⟨pb,0,F⟩))
 g1:a.tmps[1]?=Y (.int .i32 (x.val:Nat))
noncomputable def iz:Code:=f114.body.getD .skip
noncomputable def sJ:Code:=cI (cI (cI (cB (cT (cB (cB iz))))))
def XM{x:Wd}(h:x.c<=1002)(hc:x.c≠0):IntKind.i32.wrap ((x.val:Nat)-8)=((({x with c:=x.c-1}:Wd).val:Nat):Int):=by
 have h1:=Wd.sw h;have h3:({x with c:=x.c-1}:Wd).val+8=x.val:=by simp[Wd.val];omega
 have h2:=wrap32 (n:=({x with c:=x.c-1}:Wd).val) I;rw[<-h2];congr 1;omega
def XN(x:Wd):x8 (AZ x) (gW (AZ x))=1:=by unfold AZ;split<;>rfl
def afM:∃n,∀(O1:aL) (W:af) (Kf:Nat) (old:Wd) (O:aL) (a:Act) (w:af) (Q:eK),Pu a pb old->old.c<=1000->dK L O1 W pb Kf (AZ old) (gW (AZ old)) O w->Hid (∀O' a' w',a'.defers= []->dK L O1 W pb Kf .out 1 O' w'->Q O' .ret a' w')->
 cZ prog main (jo prog main pb) (RX L) (DX L) 114 (cA sJ) n (bn (λO' a' w'=>Pu a' pb old/\old.c≠0/\old.l=E/\old.w=E/\old.s=E/\dK L O1 W pb Kf (.G0 old) 0 O' w') Q) O a w:=by
 co_apply aa1;intro O1 W Kf old O a w Q hl hc hS hQ;dsimp only[sJ,iz,cA,cB,cI,cT,cE,f114,aa0];(obtain⟨hd,hsz,g0,g4⟩:=hl;obtain⟨fv,hT,aP⟩:=wG hd hsz;subst hT;simp only[aP 0 _ g0,aP 4 _ g4];clear hd hsz aP g0 g4);obtain⟨l,ww,s,c⟩:=old;have h7:=WX (x:=⟨l,ww,s,c⟩) (by simp at hc⊢;omega);have hs8:(((⟨l,ww,s,c⟩:Wd).val:Nat):Int)/ 8=((c:Nat):Int):=EK ⟨l,ww,s,c⟩;have hsh:(((⟨l,ww,s,c⟩:Wd).val:Nat):Int)/ 2 ^(3:Int).toNat=((c:Nat):Int):=EK ⟨l,ww,s,c⟩;simp only at hc;co_apply fJ (c=0)
 ·intro h;subst h;simp only[AZ,true_or,if_true,gW]at hS;co_apply (eG);intro _ hS;exact hQ.out _ _ _ rfl hS
 intro hc0;have hc1:((((c:Nat):Int)== 0)=E):=by simp;omega
 co_apply fJ (l=Z6\/ww=Z6\/s=Z6)
 ·intro h;simp only[AZ,hc0,false_or,h,if_true,gW]at hS;have h7':(bits .and .i32 (((⟨l,ww,s,c⟩:Wd).val:Nat):Int) 7 != 0)=Z6:=by rw[h7];revert h;cases l<;>cases ww<;>cases s<;>simp[b1]
  clear h7 h;co_apply (eG);intro _ hS;exact hQ.out _ _ _ rfl hS
 intro h;obtain⟨rfl,rfl,rfl⟩:l=E/\ww=E/\s=E:=by revert h;cases l<;>cases ww<;>cases s<;>simp
 simp[b1]at h7;simp only[AZ,hc0,false_or,aa6,if_false,or_self,gW]at hS;clear h;have afN:Hid (c≠0):=hc0;clear hc0;co_apply (eG);intro _ hS;exact⟨⟨rfl,rfl,rfl,rfl⟩,afN.out,Z5,Z5,Z5,hS⟩
def afO:∃n,∀(O1:aL) (W:af) (Kf:Nat) (old:Wd) (O:aL) (a:Act) (w:af) (Q:eK),Pu a pb old->old.c<=1000->old.c≠0->dK L O1 W pb Kf (.G0 old) 0 O w->
 cZ prog main (jo prog main pb) (RX L) (DX L) 114 (cA (cB sJ)) n (bn (λO' a' w'=>Pu a' pb old/\a'.tmps[1]?=Y (.int .i32 ((({old with c:=old.c-1,w:=Z6}:Wd).val:Nat):Int))/\dK L O1 W pb Kf (.G0 old) 0 O' w') Q) O a w:=by co_apply aa1;intro O1 W Kf old O a w Q hl hc hc0 hS;dsimp only[sJ,iz,cA,cB,cI,cT,cE,f114,aa0];(obtain⟨hd,hsz,g0,g4⟩:=hl;obtain⟨fv,hT,aP⟩:=wG hd hsz;subst hT;simp only[aP 0 _ g0,aP 4 _ g4];clear hd hsz aP g0 g4);have hsub:=XM (x:=old) I hc0;have hor:=VP (x:={old with c:=old.c-1}) Yn;simp only at hor;co_apply (eG);intro _ hS;exact⟨⟨rfl,rfl,rfl,rfl⟩,rfl,hS⟩
def afP:∃n,∀(O1:aL) (W:af) (Kf:Nat) (old:Wd) (O:aL) (a:Act) (w:af) (Q:eK),Pu a pb old->a.tmps[1]?=Y (.int .i32 ((({old with c:=old.c-1,w:=Z6}:Wd).val:Nat):Int))->dK L O1 W pb Kf (.G0 old) 0 O w->Hid (∀O' a' w',a'.defers= []->dK L O1 W pb Kf .out 1 O' w'->Q O' .ret a' w')->
 cZ prog main (jo prog main pb) (RX L) (DX L) 114 (cA (cB (cB sJ))) n (bn (λO' a' w'=>Pu a' pb old/\dK L O1 W pb Kf .KH 0 O' w') Q) O a w:=by
 co_apply aa1;intro O1 W Kf old O a w Q hl h1 hS hQ;dsimp only[sJ,iz,cA,cB,cI,cT,cE,f114,aa0];(obtain⟨hd,hsz,g0,g4⟩:=hl;obtain⟨fv,hT,aP⟩:=wG hd hsz;subst hT;simp only[aP 0 _ g0,aP 4 _ g4,aP 1 _ h1];clear hd hsz aP g0 g4 h1);co_apply aM (aF L) (λO' a' w'=>Pu a' pb old/\∃b:Bool,a'.tmps[30]?=Y (.bool b)/\(b=Z6/\dK L O1 W pb Kf .tok 0 O' w'\/b=E/\dK L O1 W pb Kf .KH 0 O' w'))
 ·co_apply (eG);intro _ hS;co_apply tQ (n:=0) (old:=old) (nw:={old with c:=old.c-1,w:=Z6}) (T1:=.tok) (T2:=.KH) hS.pos XI rfl rfl Ym rfl func108 Yl Yl Yl Yl Ym Ym Ym (λv _=>by simp[gE,iq,gW]) (λx v hx _=>by simp[gE,iq,gW,hx]) rfl rfl
  ·intro W1 hR v hM _;replace hS:=(hS.rely hR).jump (T':=.tok) (m':=0) (bA.set pb W1 0 (.int .i32 ((({old with c:=old.c-1,w:=Z6}:Wd).val:Nat):Int)) I);simp only[gW];generalize aL.jump _ _ _=O2 at hS⊢;clear hR hM;generalize W1.setCell _ _=W2 at hS⊢;walk_nrm;co_apply (jO);exact⟨⟨rfl,rfl,rfl,rfl⟩,Z6,rfl,.inl ⟨rfl,hS.weak I⟩⟩
  ·intro W1 hR x v hx hM _;replace hS:=(hS.rely hR).jump (T':=.KH) (m':=0) (bA.refl pb W1);simp only[gW];generalize aL.jump _ _ _=O2 at hS⊢;clear hR hM hx;walk_nrm;co_apply (jO);exact⟨⟨rfl,rfl,rfl,rfl⟩,E,rfl,.inr ⟨rfl,hS.weak I⟩⟩
 rintro O a w ⟨hl,b,h30,hb⟩;have e30:a.eval (.tmp 30)=.bool b:=by simp[Act.eval,h30]
 co_apply aW (aF L) (t:=b) e30
 ·intro h;subst h;replace hS:=hb.elim (λh=>h.2) (λh=>by cases h.1);clear hb e30 h30;(obtain⟨hd,hsz,g0,g4⟩:=hl;obtain⟨fv,hT,aP⟩:=wG hd hsz;subst hT;simp only[aP 0 _ g0,aP 4 _ g4];clear hd hsz aP g0 g4);co_apply (eG);intro _ hS;co_apply BH (n:=0) hS.pos (.inl rfl) rfl rfl Ym rfl func140 Yl Yl Yl Yl (by first|(walk_nrm;done)|simp[Act.eval]);intro W1 hR x' v hM;replace hS:=(hS.rely hR).jump (T':=.out) (m':=1) (bA.set pb W1 1 (.int .u32 (v+1:Nat)) I);generalize aL.jump _ _ _=O2 at hS⊢;clear hR hM;generalize W1.setCell _ _=W2 at hS⊢;walk_nrm;co_apply (jO);exact hQ.out _ _ _ rfl (hS.weak I)
 ·intro h;subst h;replace hS:=hb.elim (λh=>by cases h.1) (λh=>h.2);co_apply jr (aF L);exact⟨hl,hS⟩
def afQ:∃n,∀(O1:aL) (W:af) (Kf:Nat) (old:Wd) (O:aL) (a:Act) (w:af) (Q:eK),Pu a pb old->dK L O1 W pb Kf .KH 0 O w->Hid (∀O' a' w' x,x.c<=1000->Pu a' pb x->dK L O1 W pb (Kf-1) (AZ x) (gW (AZ x)) O' w'->Q O' .normal a' w')->
 cZ prog main (jo prog main pb) (RX L) (DX L) 114 (cB (cB (cB sJ))) n Q O a w:=by co_apply aa1;intro O1 W Kf old O a w Q hl hS hN;dsimp only[sJ,iz,cA,cB,cI,cT,cE,f114,aa0];(obtain⟨hd,hsz,g0,g4⟩:=hl;obtain⟨fv,hT,aP⟩:=wG hd hsz;subst hT;simp only[aP 0 _ g0,aP 4 _ g4];clear hd hsz aP g0 g4);co_apply (eG);intro _ hS;co_apply vm (n:=0) hS.pos XI rfl Ym (λ_ _ hx=>run_eq_of (by intro K hK;go_simp;exact hK)) (λ_ _ hx=>gJ (ad:=⟨pb,0,F⟩) Ym (by simp[go_sem,hx])) (wv:=AZ) (mm:=λx=>gW (AZ x)) (λx v _ _=>by simp[gE,iq,AZ]) (λx=>by rw[XN];rfl);intro W1 hR x v hM xC hb;replace hS:=(hS.rely hR).jump (T':=AZ x) (m':=gW (AZ x)) (bA.refl pb W1);generalize aL.jump _ _ _=O2 at hS⊢;clear hR hM hb;walk_nrm;co_apply (eG);intro _ hS;exact hN.out _ _ _ x xC ⟨rfl,rfl,rfl,rfl⟩ hS
def CU:∃n,∀(O1:aL) (W:af) (k:Nat) (x:Wd) (O:aL) (w:af),x.l=E->x.c<=1000->dK L O1 W pb k (wL x) (gW (wL x)) O w->
 bG prog main (jo prog main pb) (RX L) (DX L) 114 #[.pointer (Y ⟨pb,0,F⟩),.int .i32 (x.val:Nat)] n O w λO' v w'=>v=.tuple #[]/\dK L O1 W pb k .out 1 O' w':=by
 obtain⟨n4,h4⟩:=afM (main:=main) (L:=L) (pb:=pb);obtain⟨n5,h5⟩:=afO (main:=main) (L:=L) (pb:=pb);obtain⟨n6,h6⟩:=afP (main:=main) (L:=L) (pb:=pb);obtain⟨n8,h8⟩:=afQ (main:=main) (L:=L) (pb:=pb);co_apply aa1;intro O1 W k x O w hxl xC hS;co_apply bH func114 Ym rfl;walk_nrmf ntmps114;obtain⟨l,ww,s,c⟩:=x;simp only at hxl xC;subst hxl;have q4:=Ho (x:=⟨E,ww,s,c⟩) Yn;have q1:=OK (x:=⟨Z6,ww,s,c⟩) Yn;have qa:IntKind.i32.wrap ((((⟨E,ww,s,c⟩:Wd).val:Nat):Int)+1)=(((⟨Z6,ww,s,c⟩:Wd).val:Nat):Int):=by
  have e:(⟨Z6,ww,s,c⟩:Wd).val=(⟨E,ww,s,c⟩:Wd).val+1:=by simp[Wd.val,b1];omega
  have h1:=Wd.sw (x:=⟨Z6,ww,s,c⟩) Yn;have h2:=wrap32 (n:=(⟨Z6,ww,s,c⟩:Wd).val) I;rw[<-h2,e];rfl
 simp only[b1,if_true]at q1;change cZ prog main (jo prog main pb) (RX L) (DX L) 114 iz _ _ _ _ _;co_apply aM (aF L) (x:=cA iz) (y:=cB iz) (λO' a' w'=>UL0 a' pb ⟨E,ww,s,c⟩/\dK L O1 W pb k (wL ⟨E,ww,s,c⟩) (gW (wL ⟨E,ww,s,c⟩)) O' w')
 ·dsimp only[iz,cA,cB,cT,f114,aa0];co_apply (eG);intro _ hS;exact⟨⟨rfl,rfl,rfl,rfl⟩,hS⟩
 rintro O a w ⟨hl,hS⟩;co_apply aM (aF L) (x:=cA (cB iz)) (y:=cB (cB iz)) (λO' a' w'=>UL0 a' pb ⟨E,ww,s,c⟩/\a'.tmps[12]?=Y (.bool (!s))/\dK L O1 W pb k (wL ⟨E,ww,s,c⟩) (gW (wL ⟨E,ww,s,c⟩)) O' w')
 ·dsimp only[iz,cA,cB,cT,f114,aa0];(obtain⟨hd,hsz,g0,g1⟩:=hl;obtain⟨fv,hT,aP⟩:=wG hd hsz;subst hT;simp only[aP 0 _ g0,aP 1 _ g1];clear hd hsz aP g0 g1);have q4':(bits .and .i32 (((⟨E,ww,s,c⟩:Wd).val:Nat):Int) 4 == 0)= !s:=by rw[q4];cases s<;>simp[b1]
  clear q4;co_apply (eG);intro _ hS;exact⟨⟨rfl,rfl,rfl,rfl⟩,rfl,hS⟩
 rintro O a w ⟨hl,g12,hS⟩;have e12:a.eval (.tmp 12)=.bool (!s):=by simp[Act.eval,g12]
 co_apply aW (aF L) (t:=!s) (x:=cT (cB (cB iz))) (y:=cE (cB (cB iz))) e12
 ·intro h;obtain rfl:s=E:=by simpa using h
  have eU:wL ⟨E,ww,E,c⟩=AZ ⟨E,ww,E,c⟩:=by simp[wL,AZ]
  rw[eU]at hS;co_apply aM (aF L) (x:=cA (cT (cB (cB iz)))) (y:=.block 0 (.loop (.block 1 sJ))) (λO' a' w'=>Pu a' pb ⟨E,ww,E,c⟩/\dK L O1 W pb k (AZ ⟨E,ww,E,c⟩) (gW (AZ ⟨E,ww,E,c⟩)) O' w')
  ·dsimp only[iz,cA,cB,cT,f114,aa0];(obtain⟨hd,hsz,g0,g1⟩:=hl;obtain⟨fv,hT,aP⟩:=wG hd hsz;subst hT;simp only[aP 0 _ g0,aP 1 _ g1];clear hd hsz aP g0 g1);co_apply (eG);intro _ hS;exact⟨⟨rfl,rfl,rfl,rfl⟩,hS⟩
  rintro O a w ⟨hl,hS⟩;co_apply fP (aF L);co_apply vq (aF L) (λO a w=>O.fu<=k/\∃x,x.c<=1000/\Pu a pb x/\dK L O1 W pb O.fu (AZ x) (gW (AZ x)) O w) _
  ·exact⟨hS.fu,_,xC,hl,hS.fr,hS.ok,hS.pos,hS.no,aj1 _,hS.sh⟩
  rintro O a w ⟨hk,x,xC,hl,hS⟩ hfu;have hQ:Hid (∀O' a' w',a'.defers= []->dK L O1 W pb O.fu .out 1 O' w'->oR prog main (jo prog main pb) (RX L) (DX L) 0 114 f114 (λO' v w'=>v=.tuple #[]/\dK L O1 W pb k .out 1 O' w') O' .ret a' w'):=
   λO' a' w' hd h=>.inl ⟨hd,_,bW (aF L) (resultsC_none Ym _),rfl,h.weak hk⟩
  co_apply fP (aF L);co_apply aM (aF L) (x:=cA sJ) (y:=cB sJ) _;focus exact h4 O1 W O.fu x O a w _ hl xC hS hQ
  rintro O' a' w' ⟨hl,hc0,_,_,_,hS⟩;co_apply aM (aF L) (x:=cA (cB sJ)) (y:=cB (cB sJ)) _;focus exact h5 O1 W O.fu x O' a' w' _ hl xC hc0 hS
  rintro O' a' w' ⟨hl,g1,hS⟩;co_apply aM (aF L) (x:=cA (cB (cB sJ))) (y:=cB (cB (cB sJ))) _;focus exact h6 O1 W O.fu x O' a' w' _ hl g1 hS hQ
  rintro O' a' w' ⟨hl,hS⟩;refine h8 O1 W O.fu x O' a' w' _ hl hS ?_;intro O2 a2 w2 x2 Pv hl2 gN;exact⟨by have:=gN.fu;omega,by have:=gN.fu;omega,x2,Pv,hl2,gN.fr,gN.ok,gN.pos,gN.no,aj1 _,gN.sh⟩
 ·intro h;obtain rfl:s=Z6:=by simpa using h
  have eU:wL ⟨E,ww,Z6,c⟩=.hand:=by simp[wL]
  rw[eU]at hS;simp only[gW]at hS;dsimp only[iz,cA,cB,cT,cE,f114,aa0];clear e12 g12;(obtain⟨hd,hsz,g0,g1⟩:=hl;obtain⟨fv,hT,aP⟩:=wG hd hsz;subst hT;simp only[aP 0 _ g0,aP 1 _ g1];clear hd hsz aP g0 g1);co_apply (eG);intro _ hS;co_apply BH (n:=0) hS.pos (.inr rfl) rfl rfl Ym rfl func140 Yl Yl Yl Yl (by first|(walk_nrm;done)|simp[Act.eval]);intro W1 hR x' v hM;replace hS:=(hS.rely hR).jump (T':=.out) (m':=1) (bA.set pb W1 1 (.int .u32 (v+1:Nat)) I);generalize aL.jump _ _ _=O2 at hS⊢;clear hR hM;generalize W1.setCell _ _=W2 at hS⊢;walk_nrm;co_apply (jO);exact .inl ⟨rfl,_,bW (aF L) (resultsC_none Ym _),rfl,hS.weak I⟩
def Ma:∃n,∀(O1:aL) (W:af) (k:Nat) (O:aL) (w:af),dK L O1 W pb k .hold 3 O w->
 bG prog main (jo prog main pb) (RX L) (DX L) 71 #[.pointer (Y ⟨pb,0,F⟩)] n O w λO' v w'=>v=.tuple #[]/\dK L O1 W pb k .out 0 O' w':=by
 obtain⟨ns,hs⟩:=CU (main:=main) (L:=L) (pb:=pb);co_apply aa1;intro O1 W k O w hS;co_apply bH func71 Ym rfl;walk_nrmf ntmps71;co_apply aM (aF L) (λO' a' w'=>∃v3 v4 v5 v6 v7 v8 v9 v10,a'=⟨#[.pointer (Y ⟨pb,0,F⟩),undef,undef,v3,v4,v5,v6,v7,v8,v9,v10,undef,undef,undef,undef,undef,undef,undef,undef,undef,undef], []⟩/\dK L O1 W pb k .hold 1 O' w')
 ·co_apply (jO);co_apply (Tw);intro _ hS;co_apply (Tw);intro _ hS;co_apply (Tw);intro _ hS;(co_apply aO rfl Ym;intro _ hR K hK;replace hS:=dK.rely hS hR;clear hR;(obtain⟨cv,hcv⟩:=hS.cell);go_simp;refine hK _ ⟨?_,?_⟩;(focus(rw[gJ (ad:=⟨pb,0,F⟩) Ym (by simp[go_sem,hcv])];exact DX.idle _ _));clear hK K;try walk_nrm);co_apply (jO);co_apply (Tw);intro _ hS;(co_apply aO rfl Ym;intro _ hR K hK;replace hS:=dK.rely hS hR;clear hR;(obtain⟨cv,hcv⟩:=hS.cell;have Xk:=run_convert_to_unsafe (P:=prog) (src:=204) (dst:=208) underlying204 underlying208 Tryz.bD.room_tIMutex hcv;have hce:=λes=>events_convert_to_unsafe (P:=prog) (src:=204) (dst:=208) underlying204 underlying208 Tryz.bD.room_tIMutex hcv es);go_simp;refine hK _ ⟨?_,?_⟩;(focus(rw[listed_nil (by simp[go_sem,hce])];exact DX.idle _ _));clear hK K;try walk_nrm);co_apply j9 (n:=0) hS.pos (T':=.hold) (m':=2) (λx v=>by simp[gE]) XI (λ_ _ _ _ hk _=>stepG_markAt .releaseMerge XI rfl Ym hk rfl func112 Yl Yl Yl Yl (ad:=⟨pb,0,F⟩) (by first|(walk_nrm;done)|simp[Act.eval])) (Xb pb) rfl;intro W1 hR;replace hS:=(hS.rely hR).jump (T':=.hold) (m':=2) (bA.refl pb W1);generalize aL.jump _ _ _=O2 at hS⊢;clear hR;walk_nrm;co_apply (jO);co_apply j9 (n:=0) hS.pos (T':=.hold) (m':=1) (λx v=>by simp[gE]) XI (λ_ _ _ _ hk _=>stepG_mark0 .disable XI rfl Ym hk rfl func107 Yl Yl Yl Yl) (bk_dis pb) rfl;intro W1 hR;replace hS:=(hS.rely hR).jump (T':=.hold) (m':=1) (bA.refl pb W1);generalize aL.jump _ _ _=O2 at hS⊢;clear hR;walk_nrm;co_apply (jO);exact⟨_,_,_,_,_,_,_,_,rfl,hS.weak I⟩
 rintro O a w ⟨v3,v4,v5,v6,v7,v8,v9,v10,rfl,hS⟩;co_apply aM (aF L) (λO' a' w'=>∃(x:Wd) (v11 v12 v13 v14:aj),x.l=E/\x.c<=1000/\a'=⟨#[.pointer (Y ⟨pb,0,F⟩),undef,.int .i32 (x.val:Nat),v3,v4,v5,v6,v7,v8,v9,v10,v11,v12,v13,v14,undef,undef,undef,undef,undef,undef], []⟩/\dK L O1 W pb k (wL x) (gW (wL x)) O' w')
 ·co_apply (eG);intro _ hS;have hH:Hid (∀(x:Wd) (v:Nat),x.c<=1000->(∀r∈gE .hold 1 x v,r.1.1≠.bad)->gE .hold 1 x v= [((wL {x with l:=E},gW (wL {x with l:=E})),({x with l:=E}:Wd),v)]/\IntKind.i32.wrap ((x.val:Nat)+ -1)=((({x with l:=E}:Wd).val:Nat):Int)):=by
   intro x v xC hb;have hl:x.l=Z6:=by
    cases e:x.l with
    |true=>rfl
    |false=>exact absurd rfl (hb ((.bad,0),x,v) (by simp[gE,iq,e,gW]))
   refine⟨by simp[gE,iq,hl],?_⟩;have e:({x with l:=E}:Wd).val+1=x.val:=by simp[Wd.val,hl,b1];omega
   have h1:=Wd.sw (x:=x) I;have h2:=wrap32 (n:=({x with l:=E}:Wd).val) I;rw[<-h2];congr 1;omega
  co_apply qN (n:=0) (wv:=λx=>wL {x with l:=E}) (G':=λx=>{x with l:=E}) hS.pos XI rfl rfl Ym rfl func113 Yl Yl Yl Yl Ym Ym hH.out (λx=>by simp only[wL];split<;>(try split) <;>rfl);intro W1 hR x v hM xC hb;replace hS:=(hS.rely hR).jump (T':=wL {x with l:=E}) (m':=gW (wL {x with l:=E})) (bA.set pb W1 0 (.int .i32 ((({x with l:=E}:Wd).val:Nat):Int)) I);generalize aL.jump _ _ _=O2 at hS⊢;clear hR hM hb;generalize W1.setCell _ _=W2 at hS⊢;have abD:({x with l:=E}:Wd).c<=1000:=xC;have hxl:({x with l:=E}:Wd).l=E:=rfl;generalize ({x with l:=E}:Wd)=y at hS abD hxl⊢;clear xC;walk_nrm;co_apply (eG);intro _ hS;exact⟨y,_,_,_,_,hxl,abD,rfl,hS.weak I⟩
 rintro O a w ⟨x,v11,v12,v13,v14,hxl,xC,rfl,hS⟩;co_apply aM (aF L) (λO' a' w'=>∃v15 v16 v17 v18 v19,a'=⟨#[.pointer (Y ⟨pb,0,F⟩),undef,.int .i32 (x.val:Nat),v3,v4,v5,v6,v7,v8,v9,v10,v11,v12,v13,v14,v15,v16,v17,v18,v19,undef], []⟩/\dK L O1 W pb k .out 1 O' w')
 ·co_apply fJ (x.val=0)
  ·intro h;obtain rfl:x=⟨E,E,E,0⟩:=Wd.val_inj h;simp only[wL,aa6,if_false,true_or,if_true,gW]at hS;have h0:(((⟨E,E,E,0⟩:Wd).val:Nat):Int)=0:=rfl;simp only[h0];co_apply (eG);intro _ hS;exact⟨_,_,_,_,_,rfl,hS⟩
  ·intro h;have h0:((((x.val:Nat):Int)!= 0)=Z6):=by simp;omega
   co_apply (eG);intro _ hS;co_apply bX (aF L) rfl Ym rfl (by walk_nrm;exact hs O1 W k x _ _ hxl xC hS);rintro O2 x2 W2 ⟨rfl,gN⟩;walk_nrm;co_apply (jO);exact⟨_,_,_,_,_,rfl,gN⟩
 rintro O a w ⟨v15,v16,v17,v18,v19,rfl,hS⟩;co_apply (jO);co_apply j9 (n:=0) hS.pos (T':=.out) (m':=0) (λx v=>by simp[gE]) XI (λ_ _ _ _ hk _=>stepG_mark0 .enable XI rfl Ym hk rfl func109 Yl Yl Yl Yl) (bk_en pb) rfl;intro W1 hR;replace hS:=(hS.rely hR).jump (T':=.out) (m':=0) (bA.refl pb W1);generalize aL.jump _ _ _=O2 at hS⊢;clear hR;walk_nrm;co_apply (jO);exact .inl ⟨rfl,_,bW (aF L) (resultsC_none Ym _),rfl,hS.weak I⟩
def Pw:∃n,∀(O1:aL) (W:af) (k:Nat) (O:aL) (w:af),dK L O1 W pb k .hold 3 O w->
 CallsD prog main (jo prog main pb) (RX L) (DX L) 38 #[.pointer (Y ⟨pb,0,F⟩)] n O w λO' w'=>dK L O1 W pb k .out 0 O' w':=by obtain⟨ns,hs⟩:=Ma (main:=main) (L:=L) (pb:=pb);co_apply aa1;intro O1 W k O w hS;refine⟨_,_,func38,Ym,rfl,?_⟩;walk_nrmf ntmps38;co_apply (eG);intro _ hS;co_apply bX (aF L) rfl Ym rfl (by walk_nrm;exact hs O1 W k _ _ hS);rintro O2 x W2 ⟨rfl,gN⟩;walk_nrm;co_apply (jO);exact⟨rfl,⟨_,resultsC_none Ym _⟩,gN⟩
def abE(hL:TC L pb):∃nl,EM main (jo prog main pb) L pb nl:=by
 obtain⟨n1,h1⟩:=XL (main:=main) (L:=L) (pb:=pb);obtain⟨n2,h2⟩:=Pw (main:=main) (L:=L) (pb:=pb);refine⟨n1+n2,⟨λO w hN hp ho hs=>?_,λO w hN hp ho hs=>?_⟩⟩
 ·obtain⟨fn,c,n₀,dn,hle,q⟩:=h1 O w O.fu O w ⟨rA.refl hN,hL,hp,ho,aj1 _,hs⟩;exact bG.mono ⟨fn,c,n₀,dn,I,q⟩ λO' v w' h=>⟨h.1,h.2.pos,h.2.fr⟩
 ·exact(h2 O w O.fu O w ⟨rA.refl hN,hL,hp,ho,aj1 _,hs⟩).mono (λO' w' h=>⟨h.pos,h.fr⟩) I
end Go.Proofs.YteoahlieielcdaaGreat
