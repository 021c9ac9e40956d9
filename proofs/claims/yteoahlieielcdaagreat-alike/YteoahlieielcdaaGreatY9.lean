import Derived.Test.YteoahlieielcdaaGreatY1
import Derived.Test.YteoahlieielcdaaGreatJ36
import Derived.Test.YteoahlieielcdaaGreatJ6
import Derived.Test.YteoahlieielcdaaGreatN2
import Derived.Test.YteoahlieielcdaaGreatV12
set_option linter.all false
set_option maxHeartbeats 400000
set_option maxRecDepth 100000
namespace Go.Proofs.YteoahlieielcdaaGreat
open Go.Proofs.Tryz
abbrev zb9:=@Nat.le_refl
abbrev zca:=@Nat.not_lt_zero
variable{P:Program}{R Q:Frame->List Frame->World->Prop}{n off N0 k g' sz j i:Nat}{w W u w3:World}{f:Lit->Option Value}{d:fL}{b fF fr:Frame}{cs c c0:List Frame}{a:Act}{gs:Array Goroutine}{t:Trace}{v cv:Value}{x y:ByteArray}{o:Oper}{s s':MS}{r:MR}
section
open Go Go.Conc Go.ConcN Go.RowKit Go.MuLone Go.Maps
open Go.ConcR (KK wgBlock WgAt stA smA rd wr mk Payload Aside2 DC0)
theorem cy.weaken{main:Bool}{J:Jm}{R:uK}{D:uL}{Stop Stop':xV}(hs:∀O g w,Stop O g w->Stop' O g w){O:au}{g:Goroutine}(h:cy P main J R D Stop n O g w):cy P main J R D Stop' n O g w:=by
 have key:∀(k n:Nat) (O:au) (g:Goroutine) (w:World),XR P main J R D Stop k n O g w->XR P main J R D Stop' k n O g w:=by
  intro k;induction k with
  |zero=>intro n O g w _;trivial
  |succ k ih=>
   intro n O g w h;refine Qk.imp (fun O' g' w' _ b=>?_) h;rcases b with b|⟨b1,b2⟩
   ·exact .inl fun w₁ h₁=>hs _ _ _ (b w₁ h₁)
   ·exact .inr ⟨b1,fun w₁ h₁=>J.mono (fun own p g w ⟨n',x⟩=>⟨n',ih n' _ g w x⟩) (b2 w₁ h₁)⟩
 exact key _ _ _ _ _ h
structure Si where
 np:Nat
 pt:Nat->Nat
 kbp:Nat->Nat
 fk:Nat->Lit->Option Value
 vl:Nat->Int->List KV
 pq:ByteArray->Nat
 cb:Option Addr
 eN:Nat
 ms:List Int
 Wg:Nat
 Sb:Nat->Prop
def aeu(W:World)(d:fL)(e:Si)(hab:d.ab<W.heap.size)(Nc:∀q,q<e.np->e.pt q<W.heap.size):eg where
 Fx b:=b<W.heap.size/\b≠d.ab/\b≠e.Wg/\(∀q,q<e.np->b≠e.pt q)/\¬e.Sb b
 nR a:=a.spot=none/\2<=a.off/\∃q,q<e.np/\a.block=e.pt q
 Mn a:=∃i x,d.keys[i]?=some x/\d.En x/\∃j,j<3/\a=⟨d.ab,i*3+j,none⟩
 Sh b:=b=d.ab\/b=e.Wg\/(∃q,q<e.np/\b=e.pt q)\/e.Sb b
 Wg:=e.Wg
 tw:=155
 N:=W.heap.size
 low:=by rintro a ⟨_,_,q,hq,h⟩;rw[h];exact Nc q hq
 Jn:=by rintro a ⟨i,x,_,_,j,_,rfl⟩;exact hab
structure OC(L:eg)(W:World)(d:fL)(e:Si):Prop where
 pqn:∀x,d.p x->e.pq x<e.np
 part:∀q,q<e.np->kY L (e.pt q) (e.kbp q) (e.fk q) (e.vl q) W
 cq:∀x,d.p x->W.cell? ⟨d.qb x,0,none⟩=some (.pointer (some ⟨e.pt (e.pq x),0,none⟩))
 bcf:L.Fx d.bc
 bcc:W.cell? ⟨d.bc,0,none⟩=some (.slice e.cb e.ms.length e.eN)
 ms8:e.ms.length<=8
 msb:∀m∈e.ms,0<=m/\m<=1000
 msc:∀(k:Nat) (m:Int),e.ms[k]?=some m->∃g,L.Fx g/\e.cb=some ⟨g,0,none⟩/\W.cell? ⟨g,k,none⟩=some (.int .i64 m)
 vsz:∀x,d.p x->(valueOf (e.vl (e.pq x) (fC (e.vl (e.pq x)) x e.ms)) x).size<=1000
 inj:∀q q',q<e.np->q'<e.np->e.pt q=e.pt q'->q=q'
 UD:∀q,q<e.np->e.pt q≠e.Wg
 pta:∀q,q<e.np->e.pt q≠d.ab
 psb:∀q,q<e.np->¬e.Sb (e.pt q)
 XU:¬e.Sb e.Wg
 asb:¬e.Sb d.ab
 mnn:∀a,L.Mn a->∃i x,d.keys[i]?=some x/\d.En x/\∃j,j<3/\a=⟨d.ab,i*3+j,none⟩
 fcn:∀a,L.nR a->a.spot=none/\2<=a.off/\∃q,q<e.np/\a.block=e.pt q
 shn:∀q,q<e.np->L.Sh (e.pt q)
 Sj:∀b,L.Fx b->b<W.heap.size/\b≠d.ab/\b≠e.Wg/\(∀q,q<e.np->b≠e.pt q)/\¬e.Sb b
 wg:L.Wg=e.Wg/\L.tw=155/\L.N=W.heap.size
 ptl:∀q,q<e.np->e.pt q<W.heap.size
def VxF(d:fL)(e:Si)(i:Nat)(x:ByteArray)(a:Addr)(u:Value):Prop:=
 (a=⟨d.ab,i*3,none⟩/\u=.string x)\/(a=⟨d.ab,i*3+1,none⟩/\u=.int .i64 (fC (e.vl (e.pq x)) x e.ms))\/(a=⟨d.ab,i*3+2,none⟩/\u=.string (valueOf (e.vl (e.pq x) (fC (e.vl (e.pq x)) x e.ms)) x))
noncomputable def Tf(L:eg)(W:World)(d:fL)(e:Si)(off N0:Nat)(Stop:xV):Ph where
 P:=prog
 S:=⟨e.np,e.pt,e.Wg,155,e.Sb⟩
 n:=d.rem 0
 off:=off
 N0:=N0
 v0:=.pointer (some ⟨e.Wg,0,none⟩)
 L0:=L
 IX:=fun r a=>∃i x,d.keys[i]?=some x/\¬d.En x/\d.rem i=r/\∃j,j<3/\a=⟨d.ab,i*3+j,none⟩
 Vx:=fun r a u=>∃i x,d.keys[i]?=some x/\¬d.En x/\d.rem i=r/\VxF d e i x a u
 w0:=W
 uo:=Stop
def af1(L:eg)(w2:World)(hw:L.N<=w2.heap.size)(b0 b1 b4 bw bf ab i:Nat)(hab:ab<w2.heap.size):eg where
 Fx b:=L.Fx b\/b=b0\/b=b1\/b=b4\/b=bw\/b=bf
 nR:=L.nR
 Mn a:=∃j,j<3/\a=⟨ab,i*3+j,none⟩
 Sh:=L.Sh
 Wg:=L.Wg
 tw:=L.tw
 N:=w2.heap.size
 low:=fun a h=>Nat.lt_of_lt_of_le (L.low a h) hw
 Jn:=by rintro a ⟨j,_,rfl⟩;exact hab
theorem fL.Kz(d:fL):∀{i i':Nat} {x:ByteArray},i<i'->d.keys[i]?=some x->¬d.En x->d.rem i'<d.rem i:=by
 intro i i' x hlt hx hE;have h1:=((d.pe hx).2 hE).1;have mono:∀k j,j<=k->d.rem k<=d.rem j:=by
  intro k;induction k with
  |zero=>intro j hj;obtain rfl:j=0:=by omega
         exact zb9 _
  |succ k ih=>
   intro j hj;rcases Nat.lt_or_ge k j with h|h
   ·obtain rfl:j=k+1:=by omega
    exact zb9 _
   ·refine Nat.le_trans ?_ (ih j h);rcases hk:d.keys[k]? with _|y
    ·have hl:d.keys.length<=k:=by simpa using hk
     unfold fL.rem;rw[List.drop_of_length_le (by omega),List.drop_of_length_le hl];exact zb9 _
    ·by_cases hy:d.En y
     ·exact Nat.le_of_eq ((d.pe hk).1 hy).1.symm
     ·have:=((d.pe hk).2 hy).1;omega
 have:=mono i' (i+1) (by omega);omega
end
section
open Go Go.Conc Go.ConcN Go.RowKit Go.MuLone Go.Maps
open Go.ConcR (KK wgBlock WgAt stA smA rd wr mk Payload Aside2 DC0)
theorem kY.more{L L':eg}{pb kb:Nat}{vl:Int->List KV}(h:kY L pb kb f vl W)(x:RS L W w)(hf:∀b,L.Fx b->L'.Fx b)(hc:∀a,L.nR a->L'.nR a):kY L' pb kb f vl w:=
 ⟨hc _ h.fc,hf _ h.fk,(x.K3 _ h.fc).trans h.cell,yq h.map h.fk x.fxs,fun m h1 h2=>by obtain⟨ad,cap,sv,e,h8,hr⟩:=h.row m h1 h2;refine⟨ad,cap,sv,e,h8,fun k y hy=>?_⟩;obtain⟨g,hg,ha,c1,c2⟩:=hr k y hy;exact⟨g,hf g hg,ha,x.aV c1 hg,x.aV c2 hg⟩⟩
theorem Qr{L:eg}{e:Si}{Stop:xV}(hD:o9 L W d)(hE:OC L W d e):Vr L (@Ph.bI Nv (Tf L W d e off N0 Stop)) W d:=by
 letI:=Nv;intro i x b0 b1 b4 bw bf O2 w2 hx BD hown hrs vS uQ iM rj hBw Xw;obtain⟨k1,k2,k3,k4⟩:=hD.key i x hx;obtain⟨Nn,UC,wg3⟩:=hE.wg;have GQ:i<d.N:=by have:=(List.getElem?_eq_some_iff.1 hx).1;rw[hD.len]at this;exact this
 have Oc:L.N<=w2.heap.size:=Nat.le_trans hD.top hrs.le;have hab:d.ab<w2.heap.size:=Nat.lt_of_lt_of_le hD.abn Oc;have hq:=hE.pqn x k3;have hpl:=hE.ptl _ hq;have big:∀b,O2.own b->b≠d.ab/\b≠e.pt (e.pq x)/\¬L.Fx b:=fun b hb=>by have h1:=hown b hb;have h2:=hD.abn;exact⟨by omega,by omega,fun h=>by have:=(hE.Sj b h).1;omega⟩
 let Lk:eg:=af1 L w2 Oc b0 b1 b4 bw bf d.ab i hab;have hPb:RB Lk (e.pt (e.pq x)):=by
  refine⟨?_,fun a ha _=>(hE.fcn a ha).2.1,?_,hE.shn _ hq,Nat.lt_of_lt_of_le hpl hrs.le,by show L.Wg≠_;rw[Nn];exact Ne.symm (hE.UD _ hq)⟩
  ·rintro(h|h|h|h|h|h)
   ·exact(hE.Sj _ h).2.2.2.1 _ hq rfl
   ·exact(big b0 uQ.own).2.1 h.symm
   ·exact(big b1 iM.own).2.1 h.symm
   ·exact(big b4 rj.own).2.1 h.symm
   ·exact(big bw hBw.own).2.1 h.symm
   ·exact(big bf Xw.own).2.1 h.symm
  ·rintro a ⟨j,_,rfl⟩;exact Ne.symm (hE.pta _ hq)
 obtain⟨nl,hlk⟩:=Ze (main:=false) hPb;obtain⟨n,hgo⟩:=X4 (J:=iX prog false (e.pt (e.pq x))) (L:=Lk) nl;have hnf:¬Lk.Fx d.ab:=by
  rintro(h|h|h|h|h|h)
  ·exact hD.abf h
  ·exact(big b0 uQ.own).1 h.symm
  ·exact(big b1 iM.own).1 h.symm
  ·exact(big b4 rj.own).1 h.symm
  ·exact(big bw hBw.own).1 h.symm
  ·exact(big bf Xw.own).1 h.symm
 have hcell:∀{b:Nat} {v:Value} {t:TypeId},OB b (.cells #[v] t) O2 w2->w2.cell? ⟨b,0,none⟩=some v:=fun h=>by simp[World.cell?,h.heap]
 have Rh:JN Lk b0 b1 d.bc d.ba b4 (d.qb x) (e.pt (e.pq x)) d.ab x e.ms e.cb e.eN d.N d.lS i w2:=
  ⟨.inr (.inl rfl),.inr (.inr (.inl rfl)),.inl hE.bcf,.inl hD.Vq,.inr (.inr (.inr (.inl rfl))),.inl (hD.qs.fx x k3),hcell uQ,hcell iM,hrs.aV hE.bcc hE.bcf,hrs.aV hD.bac hD.Vq,hcell rj,hrs.aV (hE.cq x k3) (hD.qs.fx x k3)⟩
 refine⟨⟨Lk,e.pq x,bw,VxF d e i x,fun _=>False,.uI,1,8,n,0⟩,rfl,⟨fun b h=>h.elim,⟨rfl,rfl,rfl,rfl,fun _ h=>h⟩,hq,⟨Nn,UC⟩,zb9 _,?_,fun _ h=>h,?_,fun _ h=>h,⟨.inr (.inr (.inr (.inr (.inl rfl)))),hBw.own,fun h=>h⟩,?_,?_⟩,fun fu=>?_⟩
 ·rintro b (h|rfl|rfl|rfl|rfl|rfl)
  ·exact .inl h
  ·exact .inr ⟨uQ.own,fun h=>h⟩
  ·exact .inr ⟨iM.own,fun h=>h⟩
  ·exact .inr ⟨rj.own,fun h=>h⟩
  ·exact .inr ⟨hBw.own,fun h=>h⟩
  ·exact .inr ⟨Xw.own,fun h=>h⟩
 ·rintro a ⟨j,hj,rfl⟩;exact⟨i,x,hx,BD,rfl,j,hj,rfl⟩
 ·rintro a u (⟨rfl,_⟩|⟨rfl,_⟩|⟨rfl,_⟩)
  ·exact⟨0,by omega,rfl⟩
  ·exact⟨1,by omega,rfl⟩
  ·exact⟨2,by omega,rfl⟩
 ·rintro a u ⟨i',x',hx',Ef,hr,hV⟩;have oG:i'=i:=by
   rcases Nat.lt_trichotomy i' i with h|h|h
   ·have:=d.Kz h hx' Ef;omega
   ·exact h
   ·have:=d.Kz h hx BD;omega
  subst oG;rw[hx]at hx';cases hx';exact hV
 ·have h:=hgo e.Wg bw bf b0 b1 d.bc d.ba b4 (d.qb x) (e.pt (e.pq x)) d.ab (e.kbp (e.pq x)) (e.fk (e.pq x)) (e.vl (e.pq x)) x e.ms e.cb e.eN d.N d.lS i ⟨fun _=>False,.lk .uI 1,fu⟩ w2 (zb9 _) ((hE.part _ hq).more hrs (fun _ h=>.inl h) (fun _ h=>h)) GQ hD.n8 hnf hD.abw (hE.vsz x k3)
   (fun j hj=>⟨⟨j,hj,rfl⟩,hD.cells hrs GQ j hj⟩) Rh hE.ms8 hE.msb (fun k m hk=>by obtain⟨g,hg,h1,h2⟩:=hE.msc k m hk;exact⟨g,.inl hg,h1,hrs.aV h2 hg⟩) hlk rfl (fun h=>h) (.inr (.inr (.inr (.inr (.inr rfl))))) (hcell Xw) Nn UC (.inr (.inr (.inr (.inr (.inl rfl))))) (by rw[<-Nn];exact hcell hBw) vS
  refine h.weaken fun O g w hs=>?_;obtain⟨h1,⟨c1,c2,c3⟩,r,h2⟩:=hs;refine⟨h1,?_,r,h2⟩;rintro a u (⟨rfl,rfl⟩|⟨rfl,rfl⟩|⟨rfl,rfl⟩)
  ·exact c1
  ·exact c2
  ·exact c3
end
section
open Go Go.Conc Go.ConcN Go.RowKit Go.MuLone Go.Maps
open Go.ConcR (KK wgBlock WgAt stA smA rd wr mk Payload Aside2 DC0)
def Qs(L:eg)(W:World)(d:fL)(b:Frame)(cs:List Frame)(O:au)(g:Goroutine)(w:World):Prop:=
 ∃a todo,g=G {b.at a todo with mode:=.returning} cs/\RJ L W d O a w
theorem WZ{L:eg}{e:Si}(hD:o9 L W d)(hE:OC L W d e):qX (Tf L W d e off N0 (Qs L W d b cs)):=by
 obtain⟨Nn,UC,wg3⟩:=hE.wg;refine⟨hE.inj,hE.UD,hE.psb,hE.XU,?_,?_,?_,?_,?_⟩
 ·rintro r a ⟨i,x,hx,BD,_,j,hj,rfl⟩;refine⟨rfl,hD.abs,fun h=>?_,fun h=>hD.abc _ h rfl,by rw[show (Tf L W d e off N0 (Qs L W d b cs)).S.Wg=e.Wg from rfl,<-Nn];exact Ne.symm hD.abw,hE.asb,fun q hq h=>hE.pta q hq h.symm⟩;obtain⟨i',x',hx',Ef,j',hj',h'⟩:=hE.mnn _ h;have:i*3+j=i'*3+j':=by injection h'
  obtain rfl:i=i':=by omega
  rw[hx]at hx';cases hx';exact BD Ef
 ·rintro r r' a ⟨i,x,hx,BD,h1,j,hj,rfl⟩ ⟨i',x',hx',alx,h1',j',hj',h'⟩;have:i*3+j=i'*3+j':=by injection h'
  obtain rfl:i=i':=by omega
  rw[<-h1,h1']
 ·show d.rem 0<=900;have h1:d.rem 0<=d.keys.length:=by unfold fL.rem;exact Nat.le_trans (List.length_filter_le _ _) (by simp)
  have:=hD.len;have:=hD.n8;omega
 ·rintro O g w ⟨a,todo,rfl,h⟩;exact⟨h.pos,rfl⟩
 ·rintro O g w w' ⟨a,todo,rfl,h⟩ hr;exact⟨a,todo,rfl,h.rely hD hr⟩
theorem MB{L:eg}{e:Si}{c:Nat}{Stop:xV}(hD:o9 L W d)(hE:OC L W d e)(O9:e.Wg<W.heap.size)(hsb:∀b,e.Sb b->b<W.heap.size)(hsh:∀b,L.Sh b->b<W.heap.size/\¬L.Fx b)(D:Nat->Wk):
 Geo (Tf L W d e off N0 Stop).S 0 (Hd (Tf L W d e off N0 Stop) ⟨fun _=>False,.sp c,n⟩ D) W:=by
 obtain⟨Nn,UC,wg3⟩:=hE.wg;have z:∀{i:Nat},i<=0->i=0:=fun h=>by omega
 have eL:(Hd (Tf L W d e off N0 Stop) ⟨fun _=>False,.sp c,n⟩ D 0).L=L:=rfl;have eO:∀b,¬(Hd (Tf L W d e off N0 Stop) ⟨fun _=>False,.sp c,n⟩ D 0).own b:=fun _ h=>h;refine⟨fun i hi=>?_,fun i hi=>?_,fun i b hi h=>?_,fun i b hi h=>?_,fun b hb=>?_,fun i k b hi hk h=>?_,fun i k b hi hk h=>?_,fun i k a hi hk h=>?_,fun i k a hi hk h=>?_,fun i k a hi hk _ _=>?_,fun i a hi h=>?_,fun i k a hi hk h=>?_,fun i b hi hb=>?_,fun i a hi h=>?_,fun i k b hi hk h=>?_⟩
 ·rw[z hi];exact⟨Nn,UC⟩
 ·rw[z hi];exact hD.top
 ·rw[z hi]at h;exact(eO b h).elim
 ·rw[z hi]at h;exact(hE.Sj b h).1
 ·rcases hb with(⟨q,hq,rfl⟩|rfl)|hb
  ·exact hE.ptl q hq
  ·exact O9
  ·exact hsb b hb
 ·rw[z hi]at h;exact(eO b h).elim
 ·rw[z hi]at h;exact(eO b h).elim
 ·rw[z hk];exact eO _
 ·rw[z hi]at h;rw[z hk];obtain⟨i',x,hx,BD,j,hj,rfl⟩:=hE.mnn a h;exact⟨hD.abf,fun h=>hD.abc _ h rfl⟩
 ·rw[z hi,z hk]
 ·rw[z hi]at h;rcases h with h|h
  ·obtain⟨i',x,hx,BD,j,hj,rfl⟩:=hE.mnn a h;rfl
  ·exact(hE.fcn a h).1
 ·rw[z hi]at h;rw[z hk];obtain⟨_,_,q,hq,hb⟩:=hE.fcn a h;exact⟨eO _,fun hf=>(hE.Sj _ hf).2.2.2.1 q hq hb⟩
 ·rw[z hi];refine⟨eO _,fun hf=>?_⟩;have h:=hE.Sj b hf;rcases hb with(⟨q,hq,hb⟩|hb)|hb
  ·exact h.2.2.2.1 q hq hb
  ·exact h.2.2.1 hb
  ·exact h.2.2.2.2 hb
 ·rw[z hi]at h;rcases h with h|h
  ·obtain⟨_,h2,q,hq,hb⟩:=hE.fcn a h;exact⟨by rw[hb];exact hE.UD q hq,by rw[hb];exact hE.psb q hq,fun _ _ _=>h2⟩
  ·obtain⟨i',x,hx,BD,j,hj,rfl⟩:=hE.mnn a h;exact⟨by rw[show (Tf L W d e off N0 Stop).S.Wg=e.Wg from rfl,<-Nn];exact Ne.symm hD.abw,hE.asb,fun q hq hb=>absurd hb.symm (hE.pta q hq)⟩
 ·rw[z hi]at h;rw[z hk];exact⟨(hsh b h).1,eO _,(hsh b h).2⟩
theorem CU{L:eg}{e:Si}{k:List Item}{sl:Option (Nat×Nat)}{q:Nat->Nat}(hD:o9 L W d)(hE:OC L W d e)(hsb:∀b,e.Sb b->b<W.heap.size)(hsh:∀b,L.Sh b->b<W.heap.size/\¬L.Fx b)
 (hb:b.fn=44) (hbk:b.kind≠.early) (hl:Ap a d.pr d.ba d.bc L.Wg 0) (uF:bS 155 e.Wg ⟨0,false,0⟩ W) (W0:∀p,p<e.np->eu (e.pt p) ⟨false,false,false,0⟩ 0 W)
 (h0:gs[0]?=some (G (b.at a (.code yp :: k)) cs)) (hL:Leavers prog t gs q) (hP:tE (fun l=>∃a,l=.cell a/\e.Sb a.block) t) (hg:∀(i:Nat) (op:MemOp),t[i]?=some op->op.g<gs.size):
 ∃N gs' w' sl' t' a' todo q' O,runNT prog N (crowd gs W sl) t=(.next (crowd gs' w' sl'),t')/\gs'.size=gs.size+d.rem 0/\gs'[0]?=some (G {b.at a' todo with mode:=.returning} cs)/\RJ L W d O a' w'/\Leavers prog t' gs' q'/\tE (fun l=>∃a,l=.cell a/\(e.Sb a.block\/a.block=e.Wg)) t'/\(∀(i:Nat) (op:MemOp),t'[i]?=some op->op.g<gs'.size)/\
  (∀p,p<e.np->eu (e.pt p) ⟨false,false,false,0⟩ 0 w')/\bS 155 e.Wg ⟨0,false,0⟩ w'/\(∀(i:Nat) (x:ByteArray),d.keys[i]?=some x->¬d.En x->Q7 d.ab i x (fC (e.vl (e.pq x)) x e.ms) (valueOf (e.vl (e.pq x) (fC (e.vl (e.pq x)) x e.ms)) x) w')/\E6 W w':=by
 letI:=Nv
 obtain⟨Nn,UC,wg3⟩:=hE.wg
 have hsz:0<gs.size:=(Array.getElem?_eq_some_iff.1 h0).1
 let X:Ph:=Tf L W d e (gs.size-1) t.size (Qs L W d b cs)
 have hX:qX X:=WZ hD hE
 obtain⟨n,jr⟩:=YV (L:=L) (bI:=X.bI)
 have hwp:=fun f=>jr W d ⟨fun _=>False,.mn (.sp (d.rem 0)),f⟩ a (fun O' e a' w'=>e=.ret/\RJ L W d O' a' w') hD (Qr hD hE) hl rfl (fun _ h=>h.elim) (by rw[Nn,UC];exact uF.live) (fun O' a' w' h=>⟨rfl,h⟩) b k cs X.uo (fun _=>0) hb hbk (fun O' e a' w' hq=>by obtain⟨rfl,hq⟩:=hq;exact fun todo=>cy.stop fun w₁ h₁=>⟨a',todo,rfl,hq.rely hD h₁⟩)
 have O9:e.Wg<W.heap.size:=(Array.getElem?_eq_some_iff.1 uF).1
 let D:Nat->Wk:=fun _=>⟨L,0,0,fun _ _=>False,fun _=>False,.out,0,0,0,0⟩
 let M:Md:=⟨fun _=>False,.sp (d.rem 0),0+n⟩
 have hoff:X.off=gs.size-1:=rfl
 have hno:X.off+0+1=gs.size:=by rw[hoff];omega
 have hth:∀p i,iK D 0 p i=.out:=fun p i=>by simp[iK]
 have hI:Tg X (lR X 0 M D (fun _=>⟨false,false,false,0⟩) (fun _=>0),G6 X 0 M D (fun _=>false) q) gs W t:=by
  refine⟨lR X 0 M D (fun _=>⟨false,false,false,0⟩) (fun _=>0)+1,0,M,D,fun _=>false,fun _=>⟨false,false,false,0⟩,fun _=>0,⟨0,false,0⟩,q,by omega,⟨by omega,⟨_,h0,.run _ (zb9 _) ?_⟩,fun i h1 h2=>?_,fun i hi=>absurd hi (zca _),?_⟩,rfl⟩
  ·have h:=hwp (lR X 0 M D (fun _=>⟨false,false,false,0⟩) (fun _=>0)+1);rw[Nn,UC]at h;exact h
  ·have hlt:i<gs.size:=by omega
   exact⟨gs[i],Array.getElem?_eq_getElem hlt,hL.old i _ (by omega) (Array.getElem?_eq_getElem hlt)⟩
  ·refine⟨Nat.zero_le _,fun i hi=>absurd hi (zca _),fun i k hi=>absurd hi (zca _),fun i a hi=>absurd hi (zca _),fun i hi=>absurd hi (zca _),MB hD hE O9 hsb hsh D,fun p hp=>⟨W0 p hp,H7 fun i _=>.inl (hth p i)⟩,⟨uF,Jf _ fun i _=>by simp[lJ]⟩,fun i hi=>absurd hi (zca _),(fun h=>by cases h),?_,hP.hears,fun i hi=>absurd hi (zca _),fun j hj=>hL.above j (by omega),fun i a hi ha=>?_,fun j hj h=>?_,fun i hi=>absurd hi (zca _),(fun h=>by cases h),Nat.lt_succ_self _,E6.refl W⟩
   ·exact Mh hP fun i op h=>by have:=hg i op h;omega
   ·obtain⟨op,ho,_⟩:=touch_of ha;have:=lt_size_of_getElem? ho;have h2:t.size<=i:=hi;omega
   ·have:=lt_of_act? h;have h2:t.size<=j:=hj;omega
 obtain⟨N,gs',w',sl',t',hrun,JS⟩:=MC hX _ gs W sl t hI
 obtain⟨a0,f,own,q',f1,f2,⟨a',todo,f3,f4⟩,f5,f6,f7,f8,f9,f10,f11,f12⟩:=JS.facts hX
 subst f3
 have hn:X.n=d.rem 0:=rfl
 refine⟨N,gs',w',sl',t',a',todo,q',_,hrun,by omega,f2,f4,f5,?_,fun i op h=>by have:=f10 i op h;omega,f7,f8,fun i x hx BD=>?_,f11⟩
 ·have e1:(fun l=>lI X.S l\/FH X.S.Wg l)=fun l=>∃a,l=.cell a/\(e.Sb a.block\/a.block=e.Wg):=by
   funext l;apply propext;constructor
   ·rintro(⟨a,h1,h2⟩|⟨a,h1,h2⟩)
    ·exact⟨a,h1,.inl h2⟩
    ·exact⟨a,h1,.inr h2⟩
   ·rintro⟨a,h1,h2|h2⟩
    ·exact .inl ⟨a,h1,h2⟩
    ·exact .inr ⟨a,h1,h2⟩
  rw[<-e1]
  exact f6
 ·have GR:1<=d.rem i:=by have:=((d.pe hx).2 BD).1;omega
  have Q3:d.rem i<=d.rem 0:=by
   rcases Nat.eq_zero_or_pos i with h|h
   ·rw[h];exact zb9 _
   ·have mono:∀j,d.rem j<=d.rem 0:=by intro j;unfold fL.rem;exact(List.Sublist.filter _ (List.drop_sublist j _)).length_le
    exact mono i
  have hv:=f9 (d.rem i) GR Q3
  exact⟨hv _ _ ⟨i,x,hx,BD,rfl,.inl ⟨rfl,rfl⟩⟩,hv _ _ ⟨i,x,hx,BD,rfl,.inr (.inl ⟨rfl,rfl⟩)⟩,hv _ _ ⟨i,x,hx,BD,rfl,.inr (.inr ⟨rfl,rfl⟩)⟩⟩
end
section
open Go Go.RowKit Go.MuLone Go.Conc
open Go.Maps (Keyed)
def VS(s:MS)(A:SA)(i:Nat)(r:MR)(x:ByteArray):ByteArray->Bool:=
 if A.R.hv i (bM r.keys x)=true then
  (match s.ws[r.found (bM r.keys x)-1]? with
  |some m=>if s.mode=1 then dX (m.items.map Prod.fst)else if s.mode=3 then Ew (ry (m.items.map Prod.fst))else fun _=>true
  |none=>fun _=>true)
 else fun _=>true
def j7(s:MS)(q:Nat)(n:Int):List KV:=match bF s n with
 |some m=>if m.dL q then aZ s.parts m.items q else []
 |none=> []
def CZ:Value->Option Addr
 |.slice a _ _=>a
 |_=>none
def C0:Value->Nat
 |.slice _ _ c=>c
 |_=>0
def nX(s:MS)(A:SA)(i:Nat)(r:MR)(ab ba bc:Nat):fL where
 pr:=A.R.pr i
 ba:=ba
 bc:=bc
 kb:=((CZ (A.R.ks i)).map (·.block)).getD 0
 N:=r.keys.length
 bC:=C0 (A.R.ks i)
 ab:=ab
 lS:=r.keys.length
 qm:=A.R.qm i
 keys:=r.keys
 f:=bW A.R i r
 qb x:=A.R.qb i (bM r.keys x)
 p x:=bM r.keys x<r.keys.length/\r.keys[bM r.keys x]?=some x
 wn x:=r.found (bM r.keys x)
 hv x:=A.R.hv i (bM r.keys x)
 tv x:=A.R.tv i (bM r.keys x)
 ts x:=A.R.ts i (bM r.keys x)
 fm:=VS s A i r
def XG(s:MS)(A:SA)(wg:Nat)(ms:List Int)(cv:Value)(Sb:Nat->Prop):Si where
 np:=s.parts
 pt:=A.pb
 kbp:=A.kb
 fk:=bE s A
 vl:=j7 s
 pq x:=(partOf s.parts x).toNat
 cb:=CZ cv
 eN:=C0 cv
 ms:=ms
 Wg:=wg
 Sb:=Sb
section
variable {w0 W:World}{τ:Nat->Tag}{aD b:Nat}{s:MS}{A:SA}{i:Nat}{r:MR}{ab ba bc wg:Nat}{ms:List Int}{cv:Value}{Sb:Nat->Prop}
structure bH(w0 W:World)(τ:Nat->Tag)(aD b:Nat)(s:MS)(A:SA)(i:Nat)(r:MR)(ab ba bc wg:Nat)(ms:List Int)(cv:Value)(Sb:Nat->Prop):Prop where
 rep:aW w0 τ aD b s A
 hr:s.rs[i]?=some r
 fin:r.fin=false
 same:∀k,k<w0.heap.size->k≠A.R.rm->W.heap[k]?=w0.heap[k]?
 NS:∃C,aT W ab C 62/\C.size=r.keys.length*3
 R8:aT W ba #[.slice (some ⟨ab,0,none⟩) r.keys.length r.keys.length] 42
 R9:aT W bc #[cv] 58
 cand:yH r ms
 row:W.ownsRow w0.heap.size 3 1 cv ms.length (ms.map (Value.int .i64))
 GZ:aT W wg #[.int .u64 0,.int .u32 0] 155
 ord:w0.heap.size<=ab/\ab<ba/\ba<bc/\bc<wg
 Sa:∀k,cv.ownBlock=some k->ba<k/\k<bc
 old:∀k,Sb k->k<w0.heap.size/\(τ k).1≠aD
theorem bH.blk(h:bH w0 W τ aD b s A i r ab ba bc wg ms cv Sb){g:Nat}{c:Array Value}{t:TypeId}(hb:aT w0 k c t)(ht:τ k=(aD,g,g'))(hg:g≠10):aT W k c t:=
 hb.of_eq (h.same k hb.lt fun e=>by rw[e,h.rep.reads.gS]at ht;simp at ht;omega)
theorem bH.map(h:bH w0 W τ aD b s A i r ab ba bc wg ms cv Sb){g:Nat}{t:TypeId}(hb:aK w0 prog t k f)(ht:τ k=(aD,g,g'))(hg:g≠10):aK W prog t k f:=
 hb.of_eq (h.same k hb.lt fun e=>by rw[e,h.rep.reads.gS]at ht;simp at ht;omega)
theorem bH.row'(h:bH w0 W τ aD b s A i r ab ba bc wg ms cv Sb){g:Nat}{e:TypeId}{xs:List Value}(hb:w0.ownsRow 0 e sz v n xs)(ht:∀k,v.ownBlock=some k->τ k=(aD,g,g'))(hg:g≠10):W.ownsRow 0 e sz v n xs:=
 ak hb fun k hk=>h.same k (aR hb k hk).2 fun e=>by have:=ht k hk;rw[e,h.rep.reads.gS]at this;simp at this;omega
theorem bH.size(h:bH w0 W τ aD b s A i r ab ba bc wg ms cv Sb):w0.heap.size<=ab/\wg<W.heap.size:=⟨h.ord.1,h.GZ.lt⟩
theorem bH.pt(h:bH w0 W τ aD b s A i r ab ba bc wg ms cv Sb){q:Nat}(hq:q<s.parts):A.pb q<w0.heap.size:=(h.rep.part q hq).lt
theorem bH.hab(h:bH w0 W τ aD b s A i r ab ba bc wg ms cv Sb):(nX s A i r ab ba bc).ab<W.heap.size:=by have:=h.ord;have:=h.GZ.lt;show ab<_;omega
theorem bH.Nc(h:bH w0 W τ aD b s A i r ab ba bc wg ms cv Sb):∀q,q< (XG s A wg ms cv Sb).np->(XG s A wg ms cv Sb).pt q<W.heap.size:=fun q hq=>by have:=h.pt hq;have:=h.ord;have:=h.GZ.lt;show A.pb q<_;omega
abbrev bH.L(h:bH w0 W τ aD b s A i r ab ba bc wg ms cv Sb):eg:=aeu W (nX s A i r ab ba bc) (XG s A wg ms cv Sb) h.hab h.Nc
theorem bH.fx(h:bH w0 W τ aD b s A i r ab ba bc wg ms cv Sb){g:Nat}(ht:τ k=(aD,g,g'))(hg:g≠2)(hk:k<w0.heap.size):h.L.Fx k:=by
 have h1:=h.ord;have h2:=h.GZ.lt;refine⟨by omega,fun e=>?_,fun e=>?_,fun q hq e=>?_,fun hs=>?_⟩
 ·have e':k=ab:=e;omega
 ·have e':k=wg:=e;omega
 ·have:=h.rep.cS q hq;have e':k=A.pb q:=e;rw[<-e',ht]at this;simp at this;omega
 ·exact(h.old k hs).2 (by rw[ht])
theorem bH.Sj(h:bH w0 W τ aD b s A i r ab ba bc wg ms cv Sb)(h1:ab<k)(h2:k<wg):h.L.Fx k:=by
 have h3:=h.ord;have h4:=h.GZ.lt;refine⟨by omega,fun e=>?_,fun e=>?_,fun q hq e=>?_,fun hs=>?_⟩
 ·have e':k=ab:=e;omega
 ·have e':k=wg:=e;omega
 ·have:=h.pt hq;have e':k=A.pb q:=e;omega
 ·have:=(h.old k hs).1;omega
theorem bH.q(h:bH w0 W τ aD b s A i r ab ba bc wg ms cv Sb){x:ByteArray}(hx:(nX s A i r ab ba bc).p x):aT W (A.R.qb i (bM r.keys x)) #[ptr (A.pb (partOf s.parts x).toNat),.bool (r.asked (bM r.keys x)),.int .i64 (r.found (bM r.keys x)),.bool (A.R.hv i (bM r.keys x)),.string (A.R.tv i (bM r.keys x)),A.R.ts i (bM r.keys x)] 146:=
 h.blk (h.rep.reads.q i r _ x h.hr h.fin hx.2) (h.rep.reads.lA i r _ x h.hr h.fin hx.2) (by omega)
theorem bH.found(h:bH w0 W τ aD b s A i r ab ba bc wg ms cv Sb){j:Nat}{x:ByteArray}(hx:r.keys[j]?=some x):r.found j<=200:=by
 by_cases e:r.found j=0
 ·omega
 ·obtain⟨m,hm,_⟩:=h.rep.told.fm i r j x h.hr h.fin hx e;have:=aE hm;have:=h.rep.ok.len;omega
theorem bH.La(h:bH w0 W τ aD b s A i r ab ba bc wg ms cv Sb){x:ByteArray}(hx:(nX s A i r ab ba bc).p x):rU h.L W (A.R.ts i (bM r.keys x)) (VS s A i r x):=by
 unfold VS;cases hv:A.R.hv i (bM r.keys x)with
 |false=>
  rw[(h.rep.told.t0 i r _ x h.hr h.fin hx.2 hv).2];simp only[Bool.false_eq_true,if_false];exact .none
 |true=>
  obtain⟨m,hm,_,h2⟩:=h.rep.told.tv i r _ x h.hr h.fin hx.2 hv;rw[h2,hm];simp only[if_true];have hl:=(h.rep.ok.items _ m hm).1;have hs:=h.rep.La _ m hm;generalize A.sv (r.found (bM r.keys x)-1)=sv at hs;generalize r.found (bM r.keys x)-1=n at hs;generalize hmo:s.mode=mode at hs;cases hs with
  |keys v h3 h4=>
   simp only[if_true];have h5:=h.row' h3 h4 (by omega);obtain⟨a,cap,rfl⟩:=gH h5;refine .keys a (m.items.map Prod.fst) cap (by simpa using hl) fun k y hy=>?_;have hk:=aE hy;obtain⟨g,cap',e,_,_,hc,_⟩:=dJ h5 (by omega);cases e;refine⟨g,h.fx (h4 g rfl) (by omega) (aR h3 g rfl).2,rfl,?_⟩;rw[hc k (by omega),List.getElem?_map,hy];rfl
  |mask=>
   simp only[show ¬((3:Int)=1) by omega,if_false,if_true];exact .mask _
  |none e1 e3=>
   simp only[e1,e3,if_false];exact .none
theorem Sk{k:TypeId}{b:Nat}{D:DataW Value}(h:u.ownsMap P k aL b n D)(hs:Says D f)(K:Keyed P k){L:List Lit}(hnd:L.Pairwise (fun a b=>a≠b))(hL:∀kl,f kl≠none↔kl∈L):Maps.size D=L.length:=by
 obtain⟨n2,D2,⟨xK,Ik,kQ,_,_,hD2⟩,hsz⟩:=aK.size ⟨n,D,h,hs⟩ K hnd hL;obtain⟨es,clock,hb,F,hn,hD⟩:=h;obtain⟨rfl,rfl⟩:xK=es/\Ik=clock:=by rw[hb]at kQ;injection kQ with e;injection e with e1 e2;exact⟨e1.symm,e2.symm⟩
 rw[hD,<-hD2];exact hsz
theorem bH.Z5(h:bH w0 W τ aD b s A i r ab ba bc wg ms cv Sb):∃g cap,A.R.ks i=.slice (some ⟨g,0,none⟩) r.keys.length cap/\h.L.Fx g/\∀(j:Nat) (x:ByteArray),r.keys[j]?=some x->W.cell? ⟨g,j,none⟩=some (.string x):=by have h1:=(h.rep.ok.keys i r h.hr).1;have hk:=h.rep.reads.ky i r h.hr h.fin;obtain⟨g,cap,e,_,_,hc,_⟩:=dJ (h.row' hk (fun k=>h.rep.reads.dF i r k h.hr h.fin) (by omega)) (by omega);refine⟨g,cap,e,h.fx (h.rep.reads.dF i r g h.hr h.fin (by rw[e];rfl)) (by omega) (aR hk g (by rw[e];rfl)).2,fun j x hx=>?_⟩;have hj:=aE hx;rw[hc j (by omega),List.getElem?_map,hx];rfl
theorem bH.tvz(h:bH w0 W τ aD b s A i r ab ba bc wg ms cv Sb)(hx:r.keys[j]?=some x):(A.R.tv i j).size<=64:=by
 cases hv:A.R.hv i j with
 |false=>rw[(h.rep.told.t0 i r j x h.hr h.fin hx hv).1];exact Nat.zero_le _
 |true=>
  obtain⟨m,hm,t1,_⟩:=h.rep.told.tv i r j x h.hr h.fin hx hv;exact yQ (h.rep.ok.items _ m hm).2 t1
theorem bH.Oz(h:bH w0 W τ aD b s A i r ab ba bc wg ms cv Sb)(hx:r.keys[j]?=some x):bM r.keys x=j/\(nX s A i r ab ba bc).p x:=by have e:=lz (h.rep.ok.keys i r h.hr).2.2.2 hx;have hj:=aE hx;exact⟨e,by show bM r.keys x<_/\_;rw[e];exact⟨hj,hx⟩⟩
theorem bH.ZZ(h:bH w0 W τ aD b s A i r ab ba bc wg ms cv Sb):o9 h.L W (nX s A i r ab ba bc):=by
 have ho:=h.ord;have hg:=h.GZ.lt;obtain⟨k1,k8,kg,knd⟩:=h.rep.ok.keys i r h.hr;obtain⟨g,cap,ek,hgf,hgc⟩:=h.Z5;have hrd:=h.blk (h.rep.reads.rd i r h.hr h.fin) (h.rep.reads.iI i r h.hr h.fin) (by omega);have hrl:=(h.rep.reads.rd i r h.hr h.fin).lt;have Uh:=(h.rep.reads.u5 i r h.hr h.fin).lt;have ekb:(nX s A i r ab ba bc).kb=g:=by show ((CZ (A.R.ks i)).map (·.block)).getD 0=g;rw[ek];rfl
 have ekc:(nX s A i r ab ba bc).bC=cap:=by show C0 (A.R.ks i)=cap;rw[ek];rfl
 refine⟨⟨h.fx (h.rep.reads.iI i r h.hr h.fin) (by omega) hrl,hrd.cell (o:=4) rfl,h.fx (h.rep.reads.l5 i r h.hr h.fin) (by omega) Uh,h.map (h.rep.reads.u5 i r h.hr h.fin) (h.rep.reads.l5 i r h.hr h.fin) (by omega),jV A.R i r,
  fun x hx=>h.fx (h.rep.reads.lA i r _ x h.hr h.fin hx.2) (by omega) (h.rep.reads.q i r _ x h.hr h.fin hx.2).lt,fun x hx=>(h.q hx).cell (o:=2) rfl,fun x hx=>(h.q hx).cell (o:=3) rfl,fun x hx=>(h.q hx).cell (o:=4) rfl,fun x hx=>(h.q hx).cell (o:=5) rfl,fun x hx=>h.La hx,fun x hx=>by have:=h.found hx.2;show r.found _<=1000;omega⟩,
  fun u n D hu hs=>?_,fun x hx=>?_,rfl,k8,?_,by rw[ekb];exact hgf,fun j x hx=>?_,h.Sj (k:=ba) ho.2.1 (by omega),h.R8.cell (o:=0) rfl,fun x hx=>?_,fun hf=>hf.2.1 rfl,fun a ha e=>?_,fun e=>?_,.inl rfl,?_,h.hab,fun j x hx hE jj hjj=>⟨j,x,hx,hE,jj,hjj,rfl⟩,⟨fun hf=>hf.2.2.1 rfl,fun a ha e=>?_,fun a ha e=>?_,.inr (.inl rfl),hg⟩,zb9 _⟩
 ·rw[Sk hu hs dI (nV knd) uX];simpa[iz]using k8
 ·obtain⟨hj,_⟩:=hx;simp[nX,bW,pM,hj]
 ·rw[ekb,ekc];have:=hrd.cell (o:=3) (v:=A.R.ks i) rfl;rw[ek]at this;exact this
 ·obtain⟨e,hp⟩:=h.Oz hx;have Rf:=kg x (List.mem_of_getElem? hx);refine⟨by rw[ekb];exact hgc j x hx,by have:=(dG Rf).2;omega,hp,?_⟩;have hj:=hp.1;simp only[nX,bW,pM,hj,if_true];rfl
 ·have:=h.tvz hx.2;show (A.R.tv i _).size<=1000;omega
 ·obtain⟨_,_,q,hq,hb⟩:=ha;have:=h.pt hq;have e1:a.block=A.pb q:=hb;have e2:a.block=ab:=e;omega
 ·have e1:wg=ab:=e;omega
 ·obtain⟨C,hC,hs⟩:=h.NS;exact⟨C,_,hC,hs⟩
 ·obtain⟨_,_,q,hq,hb⟩:=ha;have:=h.pt hq;have e1:a.block=A.pb q:=hb;have e2:a.block=wg:=e;omega
 ·obtain⟨j,x,_,_,jj,_,rfl⟩:=ha;have e2:ab=wg:=e;omega
theorem bH.keeps(h:bH w0 W τ aD b s A i r ab ba bc wg ms cv Sb)(q:Nat)(m:Int):∃ad cap sv,(bE s A q (.int .i64 m)).getD (.agg #[.slice none 0 0,.nilIface])=.agg #[.slice ad (j7 s q m).length cap,sv]/\(j7 s q m).length<=8/\
 ∀(k:Nat) (x:KV),(j7 s q m)[k]?=some x->∃g,h.L.Fx g/\ad=some ⟨g,0,none⟩/\W.cell? ⟨g,k*2,none⟩=some (.string x.1)/\W.cell? ⟨g,k*2+1,none⟩=some (.string x.2):=by
 cases hf:bF s m with
 |none=>
  have e:j7 s q m= []:=by unfold j7;rw[hf]
  rw[e];exact⟨none,0,.nilIface,by simp[bE,hf],by simp,fun k x hx=>by simp at hx⟩
 |some mw=>
  cases hp:mw.dL q with
  |false=>
   have e:j7 s q m= []:=by unfold j7;rw[hf];simp[hp]
   rw[e];exact⟨none,0,.nilIface,by simp[bE,hf,hp],by simp,fun k x hx=>by simp at hx⟩
  |true=>
   have e:j7 s q m=aZ s.parts mw.items q:=by unfold j7;rw[hf];simp[hp]
   rw[e];obtain⟨_,_,hm,hc⟩:=eP hf;have Il:=h.rep.inv.po _ mw q hm hp;have hrow:=h.rep.it _ mw q hm hc Il;obtain⟨g,cap,hiv,_,_,hcell,_⟩:=dJ (h.row' hrow (fun k=>h.rep.fA _ mw q k hm hc Il) (by omega)) (pN Il);refine⟨some ⟨g,0,none⟩,cap,A.sv (m-1).toNat,by simp only[bE,hf,hp,if_true,Option.getD_some];rw[hiv],Nat.le_trans (nY _ _ _) (h.rep.ok.items _ mw hm).1,fun k x hx=>?_⟩;obtain⟨e1,e2⟩:=nT _ k x hx;have hk:=aE hx;exact⟨g,h.fx (h.rep.fA _ mw q g hm hc Il (by rw[hiv];rfl)) (by omega) (aR hrow g (by rw[hiv];rfl)).2,rfl,by rw[hcell (k*2) (by omega),e1],by rw[hcell (k*2+1) (by omega),e2]⟩
theorem bH.vsz(h:bH w0 W τ aD b s A i r ab ba bc wg ms cv Sb)(q:Nat)(n:Int)(x:ByteArray):(valueOf (j7 s q n) x).size<=64:=by
 unfold valueOf;cases hf:(j7 s q n).find? (fun y=>decide (y.1=x))with
 |none=>exact Nat.zero_le _
 |some y=>
  have hy:=List.mem_of_find?_eq_some hf;unfold j7 at hy;split at hy
  ·rename_i mw hm;split at hy
   ·have hy2:y∈mw.items:=(List.mem_filter.1 hy).1;obtain⟨_,_,hm',_⟩:=eP hm;exact(gO ((h.rep.ok.items _ mw hm').2 y hy2)).2.2
   ·cases hy
  ·cases hy
theorem bH.aeo(h:bH w0 W τ aD b s A i r ab ba bc wg ms cv Sb):OC h.L W (nX s A i r ab ba bc) (XG s A wg ms cv Sb):=by
 have ho:=h.ord;have hg:=h.GZ.lt;have hp1:=h.rep.ok.p1;have hw0:wg≠ab:=by omega
 obtain⟨ca,eN,ecv⟩:=gH h.row;have ecb:(XG s A wg ms cv Sb).cb=ca:=by show CZ cv=ca;rw[ecv];rfl
 have ecc:(XG s A wg ms cv Sb).eN=eN:=by show C0 cv=eN;rw[ecv];rfl
 refine⟨fun x _=>?_,fun q hq=>⟨⟨rfl,zb9 _,q,hq,rfl⟩,h.fx (h.rep.cC q hq) (by omega) (h.rep.kept q hq).lt,(h.blk (h.rep.part q hq) (h.rep.cS q hq) (by omega)).cell (o:=2) rfl,h.map (h.rep.kept q hq) (h.rep.cC q hq) (by omega),fun m _ _=>?_⟩,fun x hx=>(h.q hx).cell (o:=0) rfl,h.Sj (k:=bc) (by omega) (by omega),?_,h.cand.le,fun m hm=>?_,fun k m hk=>?_,fun x hx=>?_,fun q q' hq fU e=>?_,fun q hq e=>?_,fun q hq e=>?_,fun q hq hs=>?_,fun hs=>?_,fun hs=>?_,fun a ha=>ha,fun a ha=>ha,fun q hq=>.inr (.inr (.inl ⟨q,hq,rfl⟩)),fun k hk=>hk,⟨rfl,rfl,rfl⟩,h.Nc⟩
 ·have:=eM (s.parts:Int) x (by omega);show (partOf s.parts x).toNat<s.parts;omega
 ·exact h.keeps q m
 ·rw[ecb,ecc];have:=h.R9.cell (o:=0) (v:=cv) rfl;rw[ecv]at this;exact this
 ·obtain⟨j,x,hx,rfl⟩:=h.cand.of m hm;have:=h.found hx;omega
 ·have hk':ms[k]?=some m:=hk;have tu:=aE hk';obtain⟨g,cap',e,_,_,hc,_⟩:=dJ h.row (by omega);have h3:=h.Sa g (by rw[e];rfl);refine⟨g,h.Sj (by omega) (by omega),by rw[ecb];rw[ecv]at e;cases e;rfl,?_⟩;rw[hc k (by omega),List.getElem?_map,hk'];rfl
 ·have:=h.vsz (partOf s.parts x).toNat (fC (j7 s (partOf s.parts x).toNat) x ms) x;show (valueOf (j7 s (partOf s.parts x).toNat (fC (j7 s (partOf s.parts x).toNat) x ms)) x).size<=1000;omega
 ·have h1:=h.rep.cS q hq;have h2:=h.rep.cS q' fU;have e':A.pb q=A.pb q':=e;rw[e',h2]at h1;simpa using h1.symm
 ·have:=h.pt hq;have e1:A.pb q=wg:=e;omega
 ·have:=h.pt hq;have e1:A.pb q=ab:=e;omega
 ·exact(h.old _ hs).2 (by show (τ (A.pb q)).1=aD;rw[h.rep.cS q hq])
 ·have:=(h.old _ hs).1;have:wg<w0.heap.size:=this;omega
 ·have:=(h.old _ hs).1;have:ab<w0.heap.size:=this;omega
end
end
section
open Go Go.RowKit Go.MuLone Go.Conc
open Go.Maps (Keyed)
noncomputable def fnBody:Code:=Tryz.f23.body.getD .skip
noncomputable def Fb:Code:=cB (cB (cB (cB (cB fnBody))))
def opsOf:Code->Array Oper
 |.region _ ops _=>ops
 |_=>#[]
def VN(fr:Frame):Prop:=∃(b:Frame) (a:Act),fr=b.at a [.inRegion (opsOf (cA Fb)) (1 :: [2,3,4,5,6]),.code (cB Fb)]/\b.fn=23/\b.kind=.normal/\a.defers= []/\a.tmps.size=33
theorem VT:Fb=.seq (.region 8 (opsOf (cA Fb)) false) (cB Fb):=by kernel_rfl
theorem OD:List.range (opsOf (cA Fb)).size= [0,1,2,3,4,5,6]:=by kernel_rfl
theorem Z6:∃o,(opsOf (cA Fb))[0]?=some o/\o.guard=none/\o.dst=some 27/\o.op=.move (.tmp 7):=by refine⟨((opsOf (cA Fb))[0]?).getD default,?_,?_,?_,?_⟩ <;>kernel_rfl
theorem Ui:∃o,(opsOf (cA Fb))[1]?=some o/\o.guard=none/\o.dst=some 28/\∃cl:Call,o.op=.call cl/\cl.callee=.value (.func 44)/\cl.args=#[.tmp 27]:=by refine⟨((opsOf (cA Fb))[1]?).getD default,?_,?_,?_,(match (((opsOf (cA Fb))[1]?).getD default).op with|.call cl=>cl|_=>default),?_,?_,?_⟩ <;>kernel_rfl
theorem run_move{x:Operand}(h:o.op=.move x)(w:World):(execOp a.eval o).run P w=.ok (.value (a.eval x)) w:=by unfold execOp;rw[h];rfl
theorem BN{f:FuncId}{fn:Func}{c:Code}{cl:Call}(h1:o.op=.call cl)(h2:cl.callee=.value (.func f))(g1:P.funcs[f]?=some fn)(g2:(fn.name == "runtime.NumGoroutine")=false)(g3:fn.body=some c)(w:World):(execOp a.eval o).run P w=.ok (.enter f (cl.args.map a.eval)) w:=by
 have e:execOp a.eval o=callFunc f (cl.args.map a.eval):=by unfold execOp;rw[h1];simp only[resolve,h2,Act.eval,Deferred.ofValue];show invoke (.fn (.func f) #[]) (#[]++cl.args.map _)=_;simp[invoke]
 rw[e,<-Sem.runT_fst P _ w #[],fP g1 g2 g3]
theorem Sl(h7:a.tmps[7]?=some v)(hs:a.tmps.size=33)(h:To prog Q (Frame.enter prog 44 #[v] .normal) (b.at (a.put (some 27) v) [.inRegion (opsOf (cA Fb)) (1 :: [2,3,4,5,6]),.code (cB Fb)] :: c) w):To prog Q (b.at a [.code Fb]) c w:=by
 rw[VT];refine .step (fun _=>step_seq) (.region ?_);rw[OD];obtain⟨o0,q1,q2,q3,q4⟩:=Z6;obtain⟨o1,r1,r2,r3,cl,r4,r5,r6⟩:=Ui;refine To.op q1 (mR q2 _) (run_move q4 _) ?_;rw[q3];have e7:a.eval (.tmp 7)=v:=by simp[Act.eval,Array.getD_eq_getD_getElem?,h7]
 rw[e7];refine To.enter r1 (mR r2 _) (BN r4 r5 func44 (by kernel_rfl) rfl _) ?_;have e27:cl.args.map (a.put (some 27) v).eval=#[v]:=by rw[r6];simp[Act.eval,Act.put,Array.getD_eq_getD_getElem?,hs]
 rw[e27];exact h
section
variable {w:World}{τ:Nat->Tag}{aD b:Nat}{s:MS}{A:SA}
structure Ig(w:World)(τ:Nat->Tag)(aD b:Nat)(s:MS)(A:SA)(i:Nat)(r:MR)(Sb:Nat->Prop)(c:List Frame)(fr:Frame)(c':List Frame)(w':World):Prop where
 intro ::
 ex:∃(bf:Frame) (a:Act) (ab ba bc wg:Nat) (ms:List Int) (cv:Value) (fF:Frame),fr=bf.at a [.code yp]/\bf.fn=44/\bf.kind=.normal/\c'=fF :: c/\VN fF/\Ap a (A.R.pr i) ba bc wg 0/\bH w w' τ aD b s A i r ab ba bc wg ms cv Sb/\(∃w3,aW w3 τ aD b (Fc s i r) A/\w3.heap.size<=ab/\∀k,k<w3.heap.size->w'.heap[k]?=w3.heap[k]?)/\Stp aD τ w τ w'
theorem LF(h:aW w τ aD b s A)(n:Int)(hn: -9223372036854775808<=n)(hn':n<=9223372036854775807)(r:MR)(hf:gN s n=some r)(ha:iG r=true)(Sb:Nat->Prop)(Zn:∀k,Sb k->k<w.heap.size/\(τ k).1≠aD)(c:List Frame):
 To prog (Ig w τ aD b s A (n-1).toNat r Sb c) (Frame.enter prog 23 #[ptr b,.int .i64 n] .normal) c w:=by
 have LG:=nZ h n hn hn';obtain⟨h1,h2,hr,hc⟩:=pO hf;have hv:fQ s A n=(ptr (A.R.pr (n-1).toNat),true):=by unfold fQ;rw[hf]
 rw[hv]at LG;obtain⟨i,hi⟩:∃i:Nat,(n-1).toNat=i:=⟨_,rfl⟩
 have hni:n=(i:Int)+1:=by omega
 subst hni;rw[hi]at hr LG⊢;have c2:∀w1,u6 w w1->Calls prog 42 #[ptr (A.R.pr i)] w1 fun e w'=>e=.returned (.bool true)/\Below w1.heap.size w1 w':=fun w1 hS=>by have:=pP (h.same hS) hr hc;rw[ha]at this;exact this
 have VU:dc s.rs A.R (.int .i64 ((i:Int)+1))=some (ptr (A.R.pr i)):=by have h9:fO s.rs ((i:Int)+1)=some r:=hf;simp only[dc,h9,hi]
 have Z7:∀(j:Nat) (x:ByteArray),r.keys[j]?=some x->yl (A.R.ts i j):=fun j x hx=>by
  cases hv:A.R.hv i j with
  |false=>rw[(h.told.t0 i r j x hr hc hx hv).2];exact .inl rfl
  |true=>
   obtain⟨m,hm,_,t2⟩:=h.told.tv i r j x hr hc hx hv;rw[t2];exact h.told.sv _ m hm
 have c3:∀w2:World,aW w2 τ aD b s A->Calls prog 43 #[ptr b,.int .i64 ((i:Int)+1)] w2 fun e w'=>e=.returned (.bool true)/\aW w' τ aD b (Fc s i r) A/\Stp aD τ w2 τ w'/\Seen w' A i r/\(∀k,k≠A.R.rm->w'.heap[k]?=w2.heap[k]?)/\w'.heap.size=w2.heap.size:=fun w2 h2'=>by
  have:=pQ b A.R.rm _ _ h2'.blk rfl rfl h2'.reads.qR ((i:Int)+1) hn hn';rw[VU]at this;refine this.mono ?_;rintro e w3 ⟨rfl,G0,lU⟩;have hne:∀{k g g':Nat},τ k=(aD,g,g')->g≠10->w3.heap[k]?=w2.heap[k]? :=fun ht hg=>lU.block _ (fun e=>by rw[e,h2'.reads.gS]at ht;simp at ht;omega);obtain⟨k1,k2,k3,k4⟩:=h2'.ok.keys i r hr;refine⟨rfl,h2'.fin hr hc lU.block G0,⟨lU.os,lU.tape,lU.output,Nat.le_of_eq lU.size.symm,fun _ _=>rfl,fun k _ hk=>lU.block k (fun e=>hk (by rw[e,h2'.reads.gS]))⟩,⟨k4,k1,k2,fun x hx=>(dG (k3 x hx)).2,?_,?_,fun j x hx=>⟨ptr (A.pb (partOf s.parts x).toNat),?_⟩,?_,Z7⟩,lU.block,lU.size⟩
  ·exact(h2'.reads.rd i r hr hc).of_eq (hne (h2'.reads.iI i r hr hc) (by omega))
  ·exact(h2'.reads.u5 i r hr hc).of_eq (hne (h2'.reads.l5 i r hr hc) (by omega))
  ·exact(h2'.reads.q i r j x hr hc hx).of_eq (hne (h2'.reads.lA i r j x hr hc hx) (by omega))
  ·exact ak (h2'.reads.ky i r hr hc) (fun k hk=>hne (h2'.reads.dF i r k hr hc hk) (by omega))
 have H0:Hid (aW w τ aD b s A):=h;have HR:Hid (s.rs[i]?=some r):=hr;have HSB:Hid (∀k,Sb k->k<w.heap.size/\(τ k).1≠aD):=Zn;unfold ptr at LG c2 c3⊢;clear hf hv ha VU h hi h1 h2 hr Z7 Zn;have HN:∃m:Int,(i:Int)+1=m:=⟨_,rfl⟩
 obtain⟨m,hm⟩:=HN;rw[hm]at LG c3 hn hn'⊢;clear hm;rw[enter_at func23 rfl];walk_nrmf ntmps23;refine To.gP fun K hK=>?_;go_wp2_with fail
 refine To.gP fun K hK=>?_;go_wp2_with fail
 refine LG.mono ?_;rintro e w1 ⟨rfl,hS⟩;have d2:=c2 w1 hS;have HR1:Hid (aW w1 τ aD b s A):=H0.out.same hS;clear LG c2;go_wp2_with fail
 refine To.gP fun K hK=>?_;go_wp2_with fail
 refine To.gP fun K hK=>?_;go_wp2_with fail
 refine d2.mono ?_;rintro e w2 ⟨rfl,hB⟩;have HR2:Hid (aW w2 τ aD b s A):=HR1.out.below hB;have d3:=c3 w2 HR2.out;clear d2 c3;go_wp2_with fail
 refine To.gP fun K hK=>?_;go_wp2_with fail
 refine d3.mono ?_;rintro e w3 ⟨rfl,RY,Em,Rg,hE3,hz3⟩;clear d3;go_wp2_with fail
 refine Sl (v:=.pointer (some ⟨A.R.pr i,0,none⟩)) rfl rfl ?_;refine(LD Rg _).then ?_
 rintro fr c' w' ⟨rfl,bf,a,ab,ba,bc,wg,ms,cv,rfl,iR,kQ,hl,hF⟩;refine To.done ⟨bf,a,ab,ba,bc,wg,ms,cv,_,rfl,iR,kQ,rfl,⟨_,_,rfl,rfl,rfl,rfl,?_⟩,hl,?_,⟨w3,RY,hF.ord.1,hF.below.block⟩,?_⟩
 ·rfl
 ·have qQ:w1.heap.size=w.heap.size:=by rw[hS.heap]
  have w8:=hB.size;have ho:=hF.ord;refine⟨H0.out,HR.out,hc,fun k hk hne=>?_,hF.NS,hF.R8,hF.R9,hF.cand,yI hF.row (by omega),hF.GZ,⟨by omega,ho.2⟩,hF.Sa,HSB.out⟩;rw[hF.below.block k (by omega),hE3 k hne,hB.block k (by omega),hS.heap]
 ·exact((hS.nG _ _).trans (iw hB)).trans (Em.trans (iw hF.below))
end
theorem Sm(T:Array Value)(h:T.size=33):∃f:Nat->Value,T=#[f 0,f 1,f 2,f 3,f 4,f 5,f 6,f 7,f 8,f 9,f 10,f 11,f 12,f 13,f 14,f 15,f 16,f 17,f 18,f 19,f 20,f 21,f 22,f 23,f 24,f 25,f 26,f 27,f 28,f 29,f 30,f 31,f 32]:=⟨fun i=>T.toList.getD i undef,oV T 33 h⟩
theorem Sn:List.range' 2 ((opsOf (cA Fb)).toList.drop 2).length= [2,3,4,5,6]:=by kernel_rfl
theorem Sf(hF:VN fF){sl:Value}{n:Int}(h:∀fr:Frame,fr.fn=23->fr.leaving prog w (.returned (.tuple #[sl,.int .i64 n,.int .i64 0]))->To prog Q fr c w):To prog Q (fF.finish (.tuple #[sl,.int .i64 n])) c w:=by
 obtain⟨b,⟨tms,EF⟩,rfl,hb,hk,hd,hs⟩:=hF;simp only at hd hs;subst hd;obtain⟨o1,r1,r2,r3,cl,r4,r5,r6⟩:=Ui;rw[yG r1,r3,<-Sn];refine To.T9 fun K hK=>?_;rw[yF];obtain⟨f,rfl⟩:=Sm tms hs;dsimp only[Fb,fnBody,cA,cB,opsOf,Tryz.f23,Option.getD_some,Act.put];simp only[List.drop];go_wp2_with fail
 clear r1 r2 r3 r4 r5 r6 hs;refine To.last (R:=fun a' w'=>w'=w/\a'.defers= []/\a'.tmps.getD 4 undef=sl/\a'.tmps.getD 5 undef=.int .i64 n/\a'.tmps.getD 6 undef=.int .i64 0) ?_ rfl ?_
 ·dsimp only[Fb,fnBody,cA,cB,opsOf,Tryz.f23,Option.getD_some];go_wp2_with fail
 ·rintro a' todo w' ⟨rfl,d0,q4,q5,q6⟩;refine h _ hb ⟨rfl,d0,hk,Tryz.f23,by show prog.funcs[b.fn]?=_;rw[hb];exact func23,?_⟩;rw[<-q4,<-q5,<-q6];simp[results,Frame.at]
end
section
open Go Go.RowKit Go.MuLone Go.Conc
open Go.Maps (Keyed)
section
variable {w W W':World}{τ:Nat->Tag}{aD b:Nat}{s:MS}{A:SA}{i:Nat}{r:MR}{ab ba bc wg:Nat}{ms:List Int}{cv:Value}{Sb:Nat->Prop}
structure Ow(H:bH w W τ aD b s A i r ab ba bc wg ms cv Sb)(w2:World):Prop where
 rs:RS H.L W w2
 VM:∀(j:Nat) (x:ByteArray),r.keys[j]?=some x->(nX s A i r ab ba bc).En x->Q7 ab j x ((nX s A i r ab ba bc).wn x) ((nX s A i r ab ba bc).tv x) w2
 ZX:∀(j:Nat) (x:ByteArray),r.keys[j]?=some x->¬(nX s A i r ab ba bc).En x->Q7 ab j x (fC (j7 s (partOf s.parts x).toNat) x ms) (valueOf (j7 s (partOf s.parts x).toNat (fC (j7 s (partOf s.parts x).toNat) x ms)) x) w2
 mu:∀q,q<s.parts->eu (A.pb q) ⟨false,false,false,0⟩ 0 w2
 GZ:bS 155 wg ⟨0,false,0⟩ w2
 kp:E6 W w2
 rep:aW w2 (fresh τ ab) aD b (Fc s i r) A
 old:CX Sb W->CX (fun k=>Sb k\/k=wg) w2
theorem bH.mu(h:bH w W τ aD b s A i r ab ba bc wg ms cv Sb){q:Nat}(hq:q<s.parts):eu (A.pb q) ⟨false,false,false,0⟩ 0 W:=by have hb:=h.blk (h.rep.part q hq) (h.rep.cS q hq) (by omega);have iR:W.heap[A.pb q]?=some (.cells #[fy,gF,.map (some (A.kb q)),.map (some (A.vb q))] 202):=hb;exact⟨hb.cell (o:=0) rfl,hb.cell (o:=1) rfl,fun o=>by simp[World.frozen?,iR]⟩
theorem bH.after(h:bH w W τ aD b s A i r ab ba bc wg ms cv Sb){w2:World}(h3:aW w3 τ aD b (Fc s i r) A)(h4:w3.heap.size<=ab)(h5:∀k,k<w3.heap.size->W.heap[k]?=w3.heap[k]?)(hr:RS h.L W w2)(hm:∀q,q<s.parts->eu (A.pb q) ⟨false,false,false,0⟩ 0 w2):aW w2 (fresh τ ab) aD b (Fc s i r) A:=by
 refine h3.frame fun k hk ht=>⟨?_,by unfold fresh;rw[if_neg (by omega)]⟩
 have h1:=h.ord;have h2:=h.GZ.lt;by_cases hp:∃q,q<s.parts/\k=A.pb q
 ·obtain⟨q,hq,rfl⟩:=hp;have hb:w3.heap[A.pb q]?=some (.cells #[fy,gF,.map (some (A.kb q)),.map (some (A.vb q))] 202 (0,0)):=h3.part q hq;obtain⟨c,e1,e2⟩:=hr.sh (A.pb q) _ _ _ (.inr (.inr (.inl ⟨q,hq,rfl⟩))) ((h5 _ hk).trans hb);have hW:aT W (A.pb q) #[fy,gF,.map (some (A.kb q)),.map (some (A.vb q))] 202:=(h5 _ hk).trans hb;have g0:=(hm q hq).word;have g1:=(hm q hq).sema;have g2:=(hr.K3 ⟨A.pb q,2,none⟩ ⟨rfl,by simp,q,hq,rfl⟩).trans (hW.cell (o:=2) rfl);have g3:=(hr.K3 ⟨A.pb q,3,none⟩ ⟨rfl,by simp,q,hq,rfl⟩).trans (hW.cell (o:=3) rfl);have e3:c.size=4:=e2;rw[e1,hb];congr 2;have hc:∀o:Nat,w2.cell? ⟨A.pb q,o,none⟩=c[o]? :=fun o=>by simp[World.cell?,e1]
  rw[hc]at g0 g1 g2 g3;apply Array.ext_getElem?;intro o;match o with
  | 0=>exact g0
  | 1=>exact g1
  | 2=>exact g2
  | 3=>exact g3
  |o+4=>rw[Array.getElem?_eq_none (by omega),Array.getElem?_eq_none (by simp)]
 ·rw[hr.blk k (by omega) ⟨by omega,fun e=>?_,fun e=>?_,fun q hq e=>hp ⟨q,hq,e⟩,fun e=>(h.old k e).2 ht⟩,h5 k hk]
  ·have e':k=ab:=e;omega
  ·have e':k=wg:=e;omega
theorem bH.gw(h:bH w W τ aD b s A i r ab ba bc wg ms cv Sb):bS 155 wg ⟨0,false,0⟩ W:=h.GZ
end
theorem Sc{d:Nat}{fr':Frame}(h:AG w7 d fr c)(hf:fr.fn=44)(e1:fr'.fn=fr.fn)(e2:fr'.kind=fr.kind)(e3:fr'.roundOf=fr.roundOf)(e4:fr'.defers= [])(e5:fr'.mode=.returning):AG w7 0 fr' c:=by
 obtain⟨out,⟨h1,h2⟩,h3⟩:=h;have hout:out=0:=by
  obtain⟨a,ha⟩:=h1.j8;rw[hf]at ha;have h4:=CR.two _ _ _ ha;rcases Nat.lt_or_ge a 1 with h5|h5
  ·obtain rfl:a=0:=by omega
   have e:w7.j8 44 0=some 0:=by kernel_rfl
   rw[e]at ha;cases ha;rfl
  ·obtain rfl:a=1:=by omega
   have e:w7.j8 44 1=none:=by kernel_rfl
   rw[e]at ha;cases ha
 subst hout;refine⟨0,⟨⟨by rw[e3];exact h1.round,(fun x hx=>by rw[e4]at hx;simp at hx),by rw[e2];exact h1.kind,by rw[e1];exact h1.j8,.inr (.inl e4)⟩,?_⟩,by rw[e2];exact h3⟩;unfold gQ;rw[e5];show 0=0+oT w7 fr';unfold oT;rw[e1,hf];rfl
section
variable {w v:World}{τ:Nat->Tag}{aD b:Nat}{s:MS}{A:SA}{i:Nat}{r:MR}{Sb:Nat->Prop}
theorem finish_go{ab ba bc wg:Nat}{ms:List Int}{bf:Frame}{q:Nat->Nat}{d:Nat}(H:bH w W τ aD b s A i r ab ba bc wg ms cv Sb)(hb:bf.fn=44)(hk:bf.kind=.normal)(hl:Ap a (A.R.pr i) ba bc wg 0)
 (RY:aW w3 τ aD b (Fc s i r) A) (hR4:w3.heap.size<=ab) (hR5:∀k,k<w3.heap.size->W.heap[k]?=w3.heap[k]?) (hC:Crowd prog w7 Sb d (bf.at a [.code yp]) (fF :: c0) cs gs t q) (sl:Option (Nat×Nat)):
 ∃(N:Nat) (gs':Array Goroutine) (w2:World) (sl':Option (Nat×Nat)) (t':Trace) (q':Nat->Nat) (XF:Frame),
  runNT prog N (crowd gs W sl) t=(.next (crowd gs' w2 sl'),t')/\Crowd prog w7 (fun k=>Sb k\/k=wg) 0 XF (fF :: c0) cs gs' t' q'/\
  (∀w',XF.leaving prog w' (.returned (.tuple #[.slice (some ⟨ab,0,none⟩) r.keys.length r.keys.length,.int .i64 ((nX s A i r ab ba bc).uR (nX s A i r ab ba bc).N:Nat)])))/\Ow H w2:=by
 have hd:d=0:=Sd hC.stk hb rfl rfl
 subst hd
 have hP:tE (J8 Sb) t:=hC.past.ZY hC.deaf
 have h1:=H.size
 have h2:=H.ord
 obtain⟨N,gs',w2,sl',t',a',todo,q',O,r1,r2,r3,r4,r5,r6,r7,r8,r9,r10,r11⟩:=CU (sl:=sl) H.ZZ H.aeo (fun k hk=>by have:=(H.old k hk).1;omega) (fun k hk=>by
  refine⟨?_,fun hx=>?_⟩
  ·rcases hk with hk|hk|⟨q,hq,hk⟩|hk
   ·rw[hk];exact H.hab
   ·rw[hk];exact h1.2
   ·rw[hk];exact H.Nc q hq
   ·have:=(H.old k hk).1;omega
  ·rcases hk with hk|hk|⟨q,hq,hk⟩|hk
   ·exact hx.2.1 hk
   ·exact hx.2.2.1 hk
   ·exact hx.2.2.2.1 q hq hk
   ·exact hx.2.2.2.2 hk) hb (by rw[hk];decide) hl H.gw (fun p hp=>H.mu hp) hC.at0 hC.lv hP hC.bd
 refine⟨N,gs',w2,sl',t',q',{bf.at a' todo with mode:=.returning},r1,⟨r3,Sc hC.stk hb rfl rfl rfl r4.d0 rfl,r6.hears,r5,r6.Z0,r7⟩,fun w'=>⟨rfl,r4.d0,hk,Tryz.f44,by show prog.funcs[bf.fn]?=_;rw[hb];exact func44,?_⟩,⟨r4.rs,fun j x hx he=>r4.NS j x hx he,fun j x hx he=>r10 j x hx he,r8,r9,r11,H.after RY hR4 hR5 r4.rs r8,fun ho k hk=>?_⟩⟩
 ·have q2:=r4.r2
  have q3:=r4.r3
  simp[results,Frame.at,Array.getD_eq_getD_getElem?,q2,q3]
  exact⟨rfl,rfl,rfl⟩
 ·rcases hk with hk|rfl
  ·obtain⟨C,T,g1,g2⟩:=ho k hk
   obtain⟨C',g3,g4⟩:=r4.rs.sh k C T _ (.inr (.inr (.inr hk))) g2
   exact⟨C',T,by rw[g4];exact g1,g3⟩
  ·exact⟨_,_,by simp,r9⟩
end
end
section
open Go Go.RowKit Go.MuLone Go.Conc
def CommAll(s:MS):Prop:=∀(i:Nat) (m:MW) (q:Nat),s.ws[i]?=some m->m.comm q=true->je s.parts m=true
def HasW(s:MS)(n:Nat)(x:ByteArray):Prop:=n≠0/\∃m,s.ws[n-1]?=some m/\aH m.items x=true
structure IsCh(s:MS)(r:MR)(x:ByteArray)(n:Nat):Prop where
 one:n=0\/HasW s n x/\∃(j:Nat) (y:ByteArray),r.keys[j]?=some y/\r.found j=n
 top:∀(j:Nat) (y:ByteArray),r.keys[j]?=some y->HasW s (r.found j) x->r.found j<=n
theorem IsCh.eq{m:Nat}(h:IsCh s r x n)(k:IsCh s r x m):n=m:=by
 have key:∀{n m:Nat},IsCh s r x n->IsCh s r x m->n<=m:=fun{n m} h k=>by
  rcases h.one with e|⟨h1,j,y,h2,h3⟩
  ·omega
  ·rw[<-h3]at h1⊢;exact k.top j y h2 h1
 exact Nat.le_antisymm (key h k) (key k h)
theorem ofInt_wrap(b:BitVec 64):BitVec.ofInt IntKind.u64.bits (IntKind.u64.wrap (b.toNat:Int))=b:=by
 have h1:IntKind.u64.wrap (b.toNat:Int)=(b.toNat:Int):=by have:=b.isLt;simp[IntKind.wrap,IntKind.signed,IntKind.bits];omega
 rw[h1];show BitVec.ofInt 64 (b.toNat:Int)=b;simp
theorem ofInt_or(m n:Int):BitVec.ofInt IntKind.u64.bits (orF m n)=BitVec.ofInt IntKind.u64.bits m |||BitVec.ofInt IntKind.u64.bits n:=ofInt_wrap _
theorem mask_grow:∀(K:List ByteArray) (m:Int) (b:BitVec 64),BitVec.ofInt 64 m &&& b=b->BitVec.ofInt 64 (K.foldl (fun m x=>orF m (wW x)) m)&&& b=b
 | [],_,_,h=>h
 |x :: K,m,b,h=>mask_grow K _ b (by have e:BitVec.ofInt 64 (orF m (wW x))=BitVec.ofInt 64 m |||BitVec.ofInt 64 (wW x):=ofInt_or m (wW x);rw[e];ext i hi;have:=congrArg (fun z=>z.getLsbD i) h;simp only[BitVec.getLsbD_and]at this;simp only[BitVec.getElem_and,BitVec.getElem_or,BitVec.getLsbD_eq_getElem hi]at this⊢;revert this;cases b[i]<;>cases (BitVec.ofInt 64 m)[i]<;>simp)
theorem mask_has:∀(K:List ByteArray) (m:Int) (x:ByteArray),x∈K->BitVec.ofInt 64 (K.foldl (fun m x=>orF m (wW x)) m)&&& BitVec.ofInt 64 (wW x)=BitVec.ofInt 64 (wW x)
 |y :: K,m,x,h=>by
  rcases List.mem_cons.1 h with rfl|h
  ·refine mask_grow K _ _ ?_;have e:BitVec.ofInt 64 (orF m (wW x))=BitVec.ofInt 64 m |||BitVec.ofInt 64 (wW x):=ofInt_or m (wW x);rw[e];ext i hi;simp only[BitVec.getElem_and,BitVec.getElem_or];cases (BitVec.ofInt 64 (wW x))[i]<;>simp
  ·exact mask_has K _ x h
theorem bitF_ne(x:ByteArray):(BitVec.ofInt 64 (wW x)).toNat≠0:=by
 have h0:(lg x.data.toList % 64).toNat<64:=by omega
 unfold wW;generalize (lg x.data.toList % 64).toNat=k at h0;have:∀k,k<64->(BitVec.ofInt 64 (IntKind.u64.wrap (2 ^ k))).toNat≠0:=by decide+kernel
 exact this k h0
theorem maskF_of{K:List ByteArray}(h:x∈K):Ew (ry K) x=true:=by
 have h1:=mask_has K 0 x h;unfold Ew ry;rw[show (BitVec.ofInt IntKind.u64.bits (K.foldl (fun m x=>orF m (wW x)) 0)&&& BitVec.ofInt IntKind.u64.bits (wW x))=BitVec.ofInt IntKind.u64.bits (wW x)from h1];have h2:=bitF_ne x;have h3:∀b:BitVec 64,b.toNat≠0->(!(IntKind.u64.wrap (b.toNat:Int)== 0))=true:=fun b hb=>by
  have:=b.isLt;have h4:IntKind.u64.wrap (b.toNat:Int)=(b.toNat:Int):=by simp[IntKind.wrap,IntKind.signed,IntKind.bits];omega
  rw[h4];simp only[Bool.not_eq_true',beq_eq_false_iff_ne];omega
 exact h3 _ h2
theorem keyIn_items{l:List KV}:aH l x=dX (l.map Prod.fst) x:=by unfold aH dX;rw[List.any_map];rfl
theorem grst_ch{vl:Int->List KV}{x:ByteArray}:∀(ms:List Int) (g:Int),let z:=ms.foldl (fun g m=>if aH (vl m) x then(if m > g then m else g)else g) g;g<=z/\(z=g\/(z∈ms/\aH (vl z) x=true))/\∀m∈ms,aH (vl m) x=true->m<=z
 | [],g=>⟨Int.le_refl _,.inl rfl,fun m hm=>by cases hm⟩
 |m :: ms,g=>by
  have ih:=grst_ch (vl:=vl) (x:=x) ms (if aH (vl m) x then(if m > g then m else g)else g);simp only[List.foldl_cons]at ih⊢;obtain⟨h1,h2,h3⟩:=ih;generalize ms.foldl _ _=z at h1 h2 h3⊢;cases hk:aH (vl m) x with
  |false=>
   simp only[hk,Bool.false_eq_true,if_false]at h1 h2;refine⟨h1,h2.imp id fun h=>⟨List.mem_cons_of_mem _ h.1,h.2⟩,fun m' hm' hk'=>?_⟩;rcases List.mem_cons.1 hm' with rfl|hm'
   ·rw[hk]at hk';cases hk'
   ·exact h3 m' hm' hk'
  |true=>
   simp only[hk,if_true]at h1 h2;refine⟨by split at h1<;>omega,?_,fun m' hm' hk'=>?_⟩
   ·rcases h2 with h2|h2
    ·split at h2
     ·subst h2;exact .inr ⟨List.mem_cons_self ..,hk⟩
     ·exact .inl h2
    ·exact .inr ⟨List.mem_cons_of_mem _ h2.1,h2.2⟩
   ·rcases List.mem_cons.1 hm' with rfl|hm'
    ·split at h1<;>omega
    ·exact h3 m' hm' hk'
theorem find_on{n q:Int}{x:ByteArray}(hx:partOf n x=q):∀(l:List KV),(aZ n l q).find? (fun y=>decide (y.1=x))=l.find? (fun y=>decide (y.1=x))
 | []=>rfl
 |y :: l=>by
  have ih:=find_on hx l;unfold aZ at ih⊢;by_cases e:y.1=x
  ·rw[List.filter_cons_of_pos (by rw[e];simpa using hx),List.find?_cons_of_pos (by simpa using e),List.find?_cons_of_pos (by simpa using e)]
  ·rw[List.find?_cons_of_neg (l:=l) (by simpa using e),List.filter_cons];split
   ·rw[List.find?_cons_of_neg (by simpa using e),ih]
   ·exact ih
section
variable {w W w2:World}{τ:Nat->Tag}{aD b:Nat}{s:MS}{A:SA}{i:Nat}{r:MR}{ab ba bc wg:Nat}{ms:List Int}{cv:Value}{Sb:Nat->Prop}
theorem bH.cand_w(H:bH w W τ aD b s A i r ab ba bc wg ms cv Sb)(hca:CommAll s)(hy:r.keys[j]?=some y)(h0:r.found j≠0):∃m,s.ws[r.found j-1]?=some m/\bF s (r.found j:Int)=some m/\aH m.items y=true/\je s.parts m=true:=by
 obtain⟨m,h1,h2,h3⟩:=H.rep.told.fm i r j y H.hr H.fin hy h0;refine⟨m,h1,?_,h2,hca _ m _ h1 h3⟩;have hl:=aE h1;unfold bF;rw[if_neg (by omega),show ((r.found j:Int)-1).toNat=r.found j-1 by omega,h1];have hc:m.ed=false:=by
  cases hc:m.ed with
  |false=>rfl
  |true=>have:=H.rep.inv.cc _ m (partOf s.parts y).toNat h1 hc;rw[this]at h3;cases h3
 simp[hc]
theorem vl_of{m:MW}{n:Int}(hP:1<=s.parts)(hf:bF s n=some m)(ha:je s.parts m=true):(j7 s (partOf s.parts x).toNat n).find? (fun y=>decide (y.1=x))=m.items.find? (fun y=>decide (y.1=x)):=by
 have hb:=eM (s.parts:Int) x (by omega);unfold j7;rw[hf];simp only;cases hk:m.items.find? (fun y=>decide (y.1=x))with
 |none=>
  split
  ·rw[find_on (by omega),hk]
  ·rfl
 |some y=>
  have hy:=List.find?_some hk;have hm:=List.mem_of_find?_eq_some hk;have Il:az s.parts m.items ((partOf s.parts x).toNat:Int)=true:=by unfold az;rw[List.any_eq_true];refine⟨y,hm,?_⟩;simp only[decide_eq_true_eq]at hy⊢;rw[hy];omega
  have hp:m.dL (partOf s.parts x).toNat=true:=by unfold je at ha;rw[List.all_eq_true]at ha;have:=ha (partOf s.parts x).toNat (List.mem_range.2 (by omega));rw[Il]at this;simpa using this
  rw[if_pos hp,find_on (by omega),hk]
theorem Ow.answers{H:bH w W τ aD b s A i r ab ba bc wg ms cv Sb}(h:Ow H w2)(hca:CommAll s)(hx:r.keys[j]?=some x):
 ∃(n:Nat) (val:ByteArray),IsCh s r x n/\Q7 ab j x (n:Int) val w2/\(n=0->val=⟨#[]⟩)/\∀m,n≠0->s.ws[n-1]?=some m->jg m.items x=some val:=by
 have hi:=(H.Oz (j:=j) (x:=x) hx).1;have hP:=H.rep.ok.p1;by_cases hE:(nX s A i r ab ba bc).En x
 ·have ha:=h.VM j x hx hE;have e1:(nX s A i r ab ba bc).wn x=r.found j:=by show r.found (bM _ x)=_;rw[hi]
  rw[e1]at ha;have htv:(nX s A i r ab ba bc).tv x=A.R.tv i j:=by show A.R.tv i (bM _ x)=_;rw[hi]
  have hhv:(nX s A i r ab ba bc).hv x=A.R.hv i j:=by show A.R.hv i (bM _ x)=_;rw[hi]
  have hH:=H.rep.told.hv i r j x H.hr H.fin hx;refine⟨r.found j,_,⟨?_,fun j' y hy hw=>?_⟩,ha,fun h0=>?_,fun m h0 hm=>?_⟩
  ·by_cases h0:r.found j=0
   ·exact .inl h0
   ·obtain⟨m,h1,_,h2,_⟩:=H.cand_w hca hx h0;exact .inr ⟨⟨h0,m,h1,h2⟩,j,x,hx,rfl⟩
  ·refine Nat.le_of_not_lt fun hlt=>?_;have hp:=H.Oz hy;refine hE.2 y hp.2 ⟨by rw[e1];show _<r.found (bM _ y);rw[hp.1];exact hlt,?_⟩;show VS s A i r y x=true;unfold VS;obtain⟨_,m,hm,hk⟩:=hw;rw[hp.1,hm];split
   ·simp only;rw[keyIn_items]at hk;split
    ·exact hk
    ·split
     ·exact maskF_of (jE.1 hk)
     ·rfl
   ·rfl
  ·have:A.R.hv i j=false:=by rw[hH,h0];simp
   rw[htv];exact(H.rep.told.t0 i r j x H.hr H.fin hx this).1
  ·have:A.R.hv i j=true:=by
    cases hv:A.R.hv i j with
    |true=>rfl
    |false=>exact absurd ⟨by rw[e1];exact h0,by rw[hhv];exact hv⟩ hE.1
   obtain⟨m',t1,t2,_⟩:=H.rep.told.tv i r j x H.hr H.fin hx this;rw[hm]at t1;cases t1;rw[htv];exact t2
 ·have ha:=h.ZX j x hx hE;obtain⟨g1,g2,g3⟩:=grst_ch (vl:=j7 s (partOf s.parts x).toNat) (x:=x) ms 0;have eg:fC (j7 s (partOf s.parts x).toNat) x ms=ms.foldl (fun g m=>if aH (j7 s (partOf s.parts x).toNat m) x then(if m > g then m else g)else g) 0:=rfl;rw[<-eg]at g1 g2 g3;generalize fC (j7 s (partOf s.parts x).toNat) x ms=z at ha g1 g2 g3;obtain⟨n,rfl⟩:∃n:Nat,z=n:=⟨z.toNat,by omega⟩
  have hn:n=0\/∃j' y m,r.keys[j']?=some y/\r.found j'=n/\n≠0/\s.ws[n-1]?=some m/\bF s (n:Int)=some m/\je s.parts m=true:=by
   by_cases h0:n=0
   ·exact .inl h0
   ·rcases g2 with g2|⟨g2,_⟩
    ·omega
    ·obtain⟨j',y,hy,e⟩:=H.cand.of _ g2;have e':r.found j'=n:=by omega
     obtain⟨m,q1,q2,_,q4⟩:=H.cand_w hca hy (by omega);rw[e']at q1 q2;exact .inr ⟨j',y,m,hy,e',h0,q1,q2,q4⟩
  refine⟨n,_,⟨?_,fun j' y hy hw=>?_⟩,ha,fun h0=>?_,fun m h0 hm=>?_⟩
  ·rcases hn with h0|⟨j',y,m,hy,e,h0,q1,q2,q4⟩
   ·exact .inl h0
   ·rcases g2 with g2|⟨_,g2⟩
    ·omega
    ·refine .inr ⟨⟨h0,m,q1,?_⟩,j',y,hy,e⟩;rw[pL,vl_of hP q2 q4,<-pL]at g2;exact g2
  ·obtain⟨m,q1,q2,_,q4⟩:=H.cand_w hca hy hw.1;obtain⟨_,m',hm',hk⟩:=hw;rw[q1]at hm';cases hm';have:=g3 _ (H.cand.all j' y hy) (by rw[pL,vl_of hP q2 q4,<-pL];exact hk);omega
  ·subst h0;show valueOf (j7 s _ 0) x=_;unfold j7 bF;rw[if_pos (by omega)];rfl
  ·rcases hn with h0'|⟨j',y,m',hy,e,_,q1,q2,q4⟩
   ·exact absurd h0' h0
   ·rw[hm]at q1;cases q1;rcases g2 with g2|⟨_,g2⟩
    ·omega
    ·unfold jg valueOf;rw[pL,vl_of hP q2 q4]at g2;rw[vl_of hP q2 q4];cases hk:m.items.find? (fun y=>decide (y.1=x))with
     |none=>rw[hk]at g2;cases g2
     |some y=>rfl
end
end
section
open Go Go.RowKit Go.MuLone Go.Conc
noncomputable def unp(Sb:Nat->Prop)(W w:World):World:={w with heap:=w.heap.mapIdx fun i o=>open Classical in if Sb i then(W.heap[i]?).getD o else o}
section
variable {w v W:World}{τ:Nat->Tag}{aD b:Nat}{s:MS}{A:SA}{i:Nat}{r:MR}{ab ba bc wg:Nat}{ms:List Int}{cv:Value}{Sb:Nat->Prop}
theorem unp_size:(unp Sb W w).heap.size=w.heap.size:=by simp[unp]
theorem unp_ne(h:¬Sb k):(unp Sb W w).heap[k]?=w.heap[k]? :=by simp only[unp,Array.getElem?_mapIdx,if_neg h];cases w.heap[k]? <;>rfl
theorem unp_sb(h:Sb k)(hk:k<w.heap.size)(hW:k<W.heap.size):(unp Sb W w).heap[k]?=W.heap[k]? :=by simp only[unp,Array.getElem?_mapIdx,if_pos h];rw[Array.getElem?_eq_getElem hk,Array.getElem?_eq_getElem hW];rfl
theorem bH.of_sim(h:bH w v τ aD b s A i r ab ba bc wg ms cv Sb)(hs:eJ Sb v W):bH (unp Sb W w) W τ aD b s A i r ab ba bc wg ms cv Sb:=by
 have ho:=h.ord;have hn:∀{k:Nat},w.heap.size<=k->W.heap[k]?=v.heap[k]? :=fun{k} hk=>(hs.same k fun e=>by have:=(h.old k e).1;omega).symm;obtain⟨C,hC,hz⟩:=h.NS;refine⟨h.rep.frame fun k _ ht=>⟨unp_ne fun e=>(h.old k e).2 ht,rfl⟩,h.hr,h.fin,fun k hk hne=>?_,⟨C,hC.of_eq (hn ho.1),hz⟩,h.R8.of_eq (hn (by omega)),h.R9.of_eq (hn (by omega)),h.cand,?_,h.GZ.of_eq (hn (by omega)),by rw[unp_size];exact ho,h.Sa,fun k hk=>by rw[unp_size];exact h.old k hk⟩
 ·rw[unp_size]at hk;by_cases e:Sb k
  ·rw[unp_sb e hk (hs.lt e)]
  ·rw[unp_ne e,<-hs.same k e,h.same k hk hne]
 ·rw[unp_size];exact ak h.row fun k hk=>hn (by have:=(h.Sa k hk).1;omega)
theorem finish_all{q:Nat->Nat}{d:Nat}(hA:Ig w τ aD b s A i r Sb c0 fr c v)(hC:Crowd prog w7 Sb d fr c cs gs t q)(hv:eJ Sb v W)(sl:Option (Nat×Nat)):
 ∃(ab ba bc wg:Nat) (ms:List Int) (cv:Value) (fF:Frame) (H:bH (unp Sb W w) W τ aD b s A i r ab ba bc wg ms cv Sb) (N:Nat) (gs':Array Goroutine) (w2:World) (sl':Option (Nat×Nat)) (t':Trace) (q':Nat->Nat) (XF:Frame),
  c=fF :: c0/\VN fF/\runNT prog N (crowd gs W sl) t=(.next (crowd gs' w2 sl'),t')/\Crowd prog w7 (fun k=>Sb k\/k=wg) 0 XF (fF :: c0) cs gs' t' q'/\
  (∀w',XF.leaving prog w' (.returned (.tuple #[.slice (some ⟨ab,0,none⟩) r.keys.length r.keys.length,.int .i64 ((nX s A i r ab ba bc).uR (nX s A i r ab ba bc).N:Nat)])))/\Ow H w2/\Stp aD τ w τ v:=by
 obtain⟨bf,a,ab,ba,bc,wg,ms,cv,fF,rfl,hb,hk,rfl,hF,hl,hI,⟨w3,RY,hR4,hR5⟩,hS⟩:=hA.ex
 have H:=hI.of_sim hv
 obtain⟨N,gs',w2,sl',t',q',XF,r1,r2,r3,r4⟩:=finish_go (w3:=unp Sb W w3) H hb hk hl (RY.frame fun k _ ht=>⟨unp_ne fun e=>(hI.old k e).2 ht,rfl⟩) (by rw[unp_size];exact hR4) (fun k hk=>by
  rw[unp_size]at hk;by_cases e:Sb k
  ·rw[unp_sb e hk (hv.lt e)]
  ·rw[unp_ne e,<-hv.same k e,hR5 k hk]) hC sl
 exact⟨ab,ba,bc,wg,ms,cv,fF,H,N,gs',w2,sl',t',q',XF,rfl,hF,r1,r2,r3,r4,hS⟩
end
def CTo(Q:(Nat->Prop)->Frame->List Frame->World->Prop)(Sb:Nat->Prop)(fr:Frame)(c:List Frame)(W:World):Prop:=
 ∀(cs:List Frame) (gs:Array Goroutine) (t:Trace) (q:Nat->Nat) (d:Nat) (sl:Option (Nat×Nat)),CX Sb W->Crowd prog w7 Sb d fr c cs gs t q->
  ∃N Sb' gs' fr' c' W' sl' t' q' d',runNT prog N (crowd gs W sl) t=(.next (crowd gs' W' sl'),t')/\Q Sb' fr' c' W'/\CX Sb' W'/\Crowd prog w7 Sb' d' fr' c' cs gs' t' q'
section
variable {Q Q':(Nat->Prop)->Frame->List Frame->World->Prop}{Sb:Nat->Prop}{fr:Frame}{c:List Frame}{W:World}
theorem CTo.done(h:Q Sb fr c W):CTo Q Sb fr c W:=fun _ gs t q d sl hp hC=>⟨0,Sb,gs,fr,c,W,sl,t,q,d,rfl,h,hp,hC⟩
theorem CTo.lone(hR:∀fr c v tp n,R fr c v->R fr c (wt v tp n))(h:∀tp n,Reach prog R fr c (wt (gu Sb W) tp n))(hq:∀fr c v W,R fr c v->eJ Sb v W->CTo Q Sb fr c W):CTo Q Sb fr c W:=fun cs gs t q d sl hp hC=>by
 obtain⟨N,gs1,gC,c1,v1,W1,sl1,t1,q1,d1,r1,_,r3,r4,r5⟩:=beside hR hC hp h sl;have hp1:CX Sb W1:=fun k hk=>by obtain⟨C,T,h0,_,h2⟩:=r4.gu k hk;exact⟨C,T,h0,h2⟩
 obtain⟨N2,Sb2,gs2,XF,c2,W2,VO,t2,q2,d2,s1,s2,s3,s4⟩:=hq gC c1 v1 W1 r3 r4 cs gs1 t1 q1 d1 sl1 hp1 r5;exact⟨N+N2,Sb2,gs2,XF,c2,W2,VO,t2,q2,d2,(mS N N2 r1).trans s1,s2,s3,s4⟩
theorem CTo.finish{v:World}{τ:Nat->Tag}{aD b:Nat}{A:SA}(hA:Ig w τ aD b s A i r Sb c0 fr c v)(hv:eJ Sb v W)
 (hq:∀(ab ba bc wg:Nat) (ms:List Int) (cv:Value) (fF:Frame) (H:bH (unp Sb W w) W τ aD b s A i r ab ba bc wg ms cv Sb) (w2:World) (XF:Frame),VN fF->(∀w',XF.leaving prog w' (.returned (.tuple #[.slice (some ⟨ab,0,none⟩) r.keys.length r.keys.length,.int .i64 ((nX s A i r ab ba bc).uR (nX s A i r ab ba bc).N:Nat)])))->Ow H w2->Stp aD τ w τ v->CTo Q (fun k=>Sb k\/k=wg) XF (fF :: c0) w2):CTo Q Sb fr c W:=fun cs gs t q d sl hp hC=>by obtain⟨ab,ba,bc,wg,ms,cv,fF,H,N,gs1,w2,sl1,t1,q1,XF,rfl,hF,r1,r2,r3,r4,r5⟩:=finish_all hA hC hv sl;obtain⟨N2,Sb2,gs2,fr3,c2,W2,VO,t2,q2,d2,s1,s2,s3,s4⟩:=hq ab ba bc wg ms cv fF H w2 XF hF r3 r4 r5 cs gs1 t1 q1 0 sl1 (r4.old hp) r2;exact⟨N+N2,Sb2,gs2,fr3,c2,W2,VO,t2,q2,d2,(mS N N2 r1).trans s1,s2,s3,s4⟩
end
end
section
open Go Go.RowKit Go.MuLone Go.Conc
def wnM(r:MR)(x:ByteArray):Nat:=r.found (bM r.keys x)
def blindM(s:MS)(r:MR):Prop:=s.mode=2/\1<r.keys.length
def mayM(s:MS)(r:MR)(y x:ByteArray):Prop:=blindM s r\/wnM r y=0\/∀m,s.ws[wnM r y-1]?=some m->(s.mode=1->dX (m.items.map Prod.fst) x=true)/\(s.mode=3->Ew (ry (m.items.map Prod.fst)) x=true)
def EnM(s:MS)(r:MR)(x:ByteArray):Prop:=¬(wnM r x≠0/\blindM s r)/\∀y∈r.keys,¬(wnM r x<wnM r y/\mayM s r y x)
section
variable {w W w2:World}{τ:Nat->Tag}{aD b:Nat}{s:MS}{A:SA}{i:Nat}{r:MR}{ab ba bc wg:Nat}{ms:List Int}{cv:Value}{Sb:Nat->Prop}
theorem bH.hvM(H:bH w W τ aD b s A i r ab ba bc wg ms cv Sb)(hy:y∈r.keys):A.R.hv i (bM r.keys y)=false↔blindM s r\/wnM r y=0:=by obtain⟨j,hj⟩:=List.getElem?_of_mem hy;have e:=(H.Oz hj).1;rw[e,H.rep.told.hv i r j y H.hr H.fin hj,H.rep.told.no i r H.hr H.fin];unfold blindM wnM;rw[e];by_cases h1:s.mode=2<;>by_cases h2:1<r.keys.length<;>by_cases h3:r.found j=0<;>simp[h1,h2,h3]
theorem bH.fmM(H:bH w W τ aD b s A i r ab ba bc wg ms cv Sb)(hy:y∈r.keys):VS s A i r y x=true↔mayM s r y x:=by
 unfold VS mayM;cases hv:A.R.hv i (bM r.keys y)with
 |false=>
  simp only[Bool.false_eq_true,if_false,true_iff];rcases(H.hvM hy).1 hv with h|h
  ·exact .inl h
  ·exact .inr (.inl h)
 |true=>
  have hn:¬(blindM s r\/wnM r y=0):=fun h=>by rw[(H.hvM hy).2 h]at hv;cases hv
  simp only[if_true];rw[show r.found (bM r.keys y)=wnM r y from rfl];constructor
  ·intro h;refine .inr (.inr fun m hm=>?_);rw[hm]at h;simp only at h;refine⟨fun e=>?_,fun e=>?_⟩
   ·rw[if_pos e]at h;exact h
   ·rw[if_neg (by omega),if_pos e]at h;exact h
  ·rintro(h|h|h)
   ·exact absurd (.inl h) hn
   ·exact absurd (.inr h) hn
   ·cases hm:s.ws[wnM r y-1]? with
    |none=>rfl
    |some m=>
     simp only;by_cases e:s.mode=1
     ·rw[if_pos e];exact(h m hm).1 e
     ·rw[if_neg e];by_cases e3:s.mode=3
      ·rw[if_pos e3];exact(h m hm).2 e3
      ·rw[if_neg e3]
theorem bH.en_iff(H:bH w W τ aD b s A i r ab ba bc wg ms cv Sb)(hx:x∈r.keys):(nX s A i r ab ba bc).En x↔EnM s r x:=by
 have hp:∀{y:ByteArray},(nX s A i r ab ba bc).p y↔y∈r.keys:=fun{y}=>⟨fun h=>List.mem_of_getElem? h.2,fun h=>by obtain⟨j,hj⟩:=List.getElem?_of_mem h;exact(H.Oz hj).2⟩
 constructor
 ·rintro⟨h1,h2⟩;refine⟨fun⟨h3,h4⟩=>h1 ⟨h3,(H.hvM hx).2 (.inl h4)⟩,fun y hy ⟨h3,h4⟩=>h2 y (hp.2 hy) ⟨h3,(H.fmM hy).2 h4⟩⟩
 ·rintro⟨h1,h2⟩;refine⟨fun⟨h3,h4⟩=>?_,fun y hy ⟨h3,h4⟩=>h2 y (hp.1 hy) ⟨h3,(H.fmM (hp.1 hy)).1 h4⟩⟩;rcases(H.hvM hx).1 h4 with h|h
  ·exact h1 ⟨h3,h⟩
  ·exact h3 h
open Classical in
noncomputable def askM(s:MS)(r:MR):Nat:=r.keys.countP fun x=>decide (¬EnM s r x)
open Classical in
theorem bH.uR(H:bH w W τ aD b s A i r ab ba bc wg ms cv Sb):(nX s A i r ab ba bc).uR (nX s A i r ab ba bc).N=askM s r:=by show ((r.keys.take r.keys.length).filter fun x=>decide (¬(nX s A i r ab ba bc).En x)).length=_;rw[List.take_length,<-List.countP_eq_length_filter];refine List.countP_congr fun x hx=>?_;simp only[decide_eq_true_eq];exact not_congr (H.en_iff hx)
open Classical in
theorem askM_le(h:∀x∈r.keys,EnM s' r x->EnM s r x):askM s r<=askM s' r:=
 List.countP_mono_left fun x hx h1=>by simp only[decide_eq_true_eq]at h1⊢;exact fun h2=>h1 (h x hx h2)
open Classical in
theorem askM_all(h:∀x∈r.keys,¬EnM s r x):askM s r=r.keys.length:=by unfold askM;rw[List.countP_eq_length];intro x hx;simpa using h x hx
open Classical in
theorem askM_none(h:∀x∈r.keys,EnM s r x):askM s r=0:=by unfold askM;rw[List.countP_eq_zero];intro x hx;simpa using h x hx
end
section
variable {P:Nat}{ws:List MW}{rs:List MR}{r:MR}{x:ByteArray}
theorem en_mask(h:EnM ⟨P,3,ws,rs⟩ r x):EnM ⟨P,1,ws,rs⟩ r x:=by
 refine⟨fun⟨_,h2⟩=>by have:=h2.1;simp at this,fun y hy ⟨h1,h2⟩=>h.2 y hy ⟨h1,?_⟩⟩;rcases h2 with h2|h2|h2
 ·have:=h2.1;simp at this
 ·exact .inr (.inl h2)
 ·refine .inr (.inr fun m hm=>⟨fun e=>by simp at e,fun _=>maskF_of (jE.1 ((h2 m hm).1 rfl))⟩)
theorem en_none(h:EnM ⟨P,2,ws,rs⟩ r x):EnM ⟨P,3,ws,rs⟩ r x:=by refine⟨fun⟨_,h2⟩=>by have:=h2.1;simp at this,fun y hy ⟨h1,_⟩=>h.2 y hy ⟨h1,.inr (.inr fun m _=>⟨fun e=>by simp at e,fun e=>by simp at e⟩)⟩⟩
theorem ask_order:askM ⟨P,1,ws,rs⟩ r<=askM ⟨P,3,ws,rs⟩ r/\askM ⟨P,3,ws,rs⟩ r<=askM ⟨P,2,ws,rs⟩ r:=⟨askM_le fun _ _ h=>en_mask h,askM_le fun _ _ h=>en_none h⟩
theorem ask_most(hl:1<r.keys.length)(hy:y∈r.keys)(h0:wnM r y≠0):askM ⟨P,2,ws,rs⟩ r=r.keys.length:=
 askM_all fun x _ h=>by
  have hb:blindM ⟨P,2,ws,rs⟩ r:=⟨rfl,hl⟩
  by_cases hx:wnM r x=0
  ·exact h.2 y hy ⟨by omega,.inl hb⟩
  ·exact h.1 ⟨hx,hb⟩
theorem ask_least(h:r.keys.length<=1\/∀y∈r.keys,wnM r y=0):askM s r=0:=
 askM_none fun x hx=>by
  rcases h with h|h
  ·refine⟨fun h1=>by have:=h1.2.2;omega,fun y hy h1=>?_⟩;have:x=y:=by
    match hk:r.keys,hx,hy,h with
    | [z],hx,hy,_=>simp at hx hy;rw[hx,hy]
   subst this;omega
  ·exact⟨fun h1=>h1.1 (h x hx),fun y hy h1=>by have:=h y hy;omega⟩
end
end
end Go.Proofs.YteoahlieielcdaaGreat
