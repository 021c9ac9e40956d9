import Derived.Test.YteoahlieielcdaaGreatY1
import Derived.Test.YteoahlieielcdaaGreatJ22
import Derived.Test.YteoahlieielcdaaGreatJ6
import Derived.Test.YteoahlieielcdaaGreatL3
import Derived.Test.YteoahlieielcdaaGreatK7
set_option linter.all false
set_option maxHeartbeats 40000000
set_option maxRecDepth 100000
namespace Go.Proofs.YteoahlieielcdaaGreat
abbrev zch:=@RowKit.Below.heap_alloc
abbrev zci:=@Nat.le_refl
abbrev zcj:=@Nat.lt_of_lt_of_le
abbrev zck:=@List.getElem?_eq_getElem
abbrev zcl:=@World.cell?_of_block
abbrev zcm:=@Nat.zero_le
abbrev zcn:=@Nat.not_lt_zero
variable{P:Program}{n off N0 k g' sz j kg sb xb lb ab ba bc i:Nat}{w W u:World}{f:Lit->Option Value}{d:fL}{b fF fr:Frame}{cs c:List Frame}{a:Act}{gs:Array Goroutine}{t:Trace}{v cv:Value}{x:ByteArray}{o:Oper}{Q:Frame->List Frame->World->Prop}{τ:Nat->Tag}{s:MS}{A:SA}{bf:Nat->Nat}
section
open Go Go.Conc Go.ConcN Go.RowKit Go.MuLone Go.Maps
open Go.ConcR (KK wgBlock WgAt stA smA rd wr mk Payload Aside2 DC0)
theorem cy.weaken{main:Bool}{J:Jm}{R:uK}{D:uL}{Stop Stop':xV}(hs:∀O g w,Stop O g w->Stop' O g w){O:au}{g:Goroutine}(h:cy P main J R D Stop n O g w):cy P main J R D Stop' n O g w:=by
 have key:∀(k n:Nat) (O:au) (g:Goroutine) (w:World),XR P main J R D Stop k n O g w->XR P main J R D Stop' k n O g w:=by
  intro k;induction k with
  |zero=>intro n O g w _;trivial
  |succ k ih=>
   intro n O g w h;refine Qk.imp (fun O' g' w' _ b=>?_) h;rcases b with b|⟨b1,b2⟩
   ·exact .inl fun w₁ h₁=>hs _ _ _ (b w₁ h₁)
   ·exact .inr ⟨b1,fun w₁ h₁=>J.mono (fun own p g w ⟨n',x⟩=>⟨n',ih n' _ g w x⟩) (b2 w₁ h₁)⟩
 exact key _ _ _ _ _ h
structure Si where
 np:Nat
 pt:Nat->Nat
 kbp:Nat->Nat
 fk:Nat->Lit->Option Value
 vl:Nat->Int->List KV
 pq:ByteArray->Nat
 cb:Option Addr
 eN:Nat
 ms:List Int
 Wg:Nat
 Sb:Nat->Prop
def aeu(W:World)(d:fL)(e:Si)(hab:d.ab<W.heap.size)(Nc:∀q,q<e.np->e.pt q<W.heap.size):eg where
 Fx b:=b<W.heap.size/\b≠d.ab/\b≠e.Wg/\(∀q,q<e.np->b≠e.pt q)/\¬e.Sb b
 nR a:=a.spot=none/\2<=a.off/\∃q,q<e.np/\a.block=e.pt q
 Mn a:=∃i x,d.keys[i]?=some x/\d.En x/\∃j,j<3/\a=⟨d.ab,i*3+j,none⟩
 Sh b:=b=d.ab\/b=e.Wg\/∃q,q<e.np/\b=e.pt q
 Wg:=e.Wg
 tw:=155
 N:=W.heap.size
 low:=by rintro a ⟨_,_,q,hq,h⟩;rw[h];exact Nc q hq
 Jn:=by rintro a ⟨i,x,_,_,j,_,rfl⟩;exact hab
structure OC(L:eg)(W:World)(d:fL)(e:Si):Prop where
 pqn:∀x,d.p x->e.pq x<e.np
 part:∀q,q<e.np->kY L (e.pt q) (e.kbp q) (e.fk q) (e.vl q) W
 cq:∀x,d.p x->W.cell? ⟨d.qb x,0,none⟩=some (.pointer (some ⟨e.pt (e.pq x),0,none⟩))
 bcf:L.Fx d.bc
 bcc:W.cell? ⟨d.bc,0,none⟩=some (.slice e.cb e.ms.length e.eN)
 ms8:e.ms.length<=8
 msb:∀m∈e.ms,0<=m/\m<=1000
 msc:∀(k:Nat) (m:Int),e.ms[k]?=some m->∃g,L.Fx g/\e.cb=some ⟨g,0,none⟩/\W.cell? ⟨g,k,none⟩=some (.int .i64 m)
 vsz:∀x,d.p x->(valueOf (e.vl (e.pq x) (fC (e.vl (e.pq x)) x e.ms)) x).size<=1000
 inj:∀q q',q<e.np->q'<e.np->e.pt q=e.pt q'->q=q'
 UD:∀q,q<e.np->e.pt q≠e.Wg
 pta:∀q,q<e.np->e.pt q≠d.ab
 psb:∀q,q<e.np->¬e.Sb (e.pt q)
 XU:¬e.Sb e.Wg
 asb:¬e.Sb d.ab
 mnn:∀a,L.Mn a->∃i x,d.keys[i]?=some x/\d.En x/\∃j,j<3/\a=⟨d.ab,i*3+j,none⟩
 fcn:∀a,L.nR a->a.spot=none/\2<=a.off/\∃q,q<e.np/\a.block=e.pt q
 shn:∀q,q<e.np->L.Sh (e.pt q)
 Sj:∀b,L.Fx b->b<W.heap.size/\b≠d.ab/\b≠e.Wg/\(∀q,q<e.np->b≠e.pt q)/\¬e.Sb b
 wg:L.Wg=e.Wg/\L.tw=155/\L.N=W.heap.size
 ptl:∀q,q<e.np->e.pt q<W.heap.size
def VxF(d:fL)(e:Si)(i:Nat)(x:ByteArray)(a:Addr)(u:Value):Prop:=
 (a=⟨d.ab,i*3,none⟩/\u=.string x)\/(a=⟨d.ab,i*3+1,none⟩/\u=.int .i64 (fC (e.vl (e.pq x)) x e.ms))\/(a=⟨d.ab,i*3+2,none⟩/\u=.string (valueOf (e.vl (e.pq x) (fC (e.vl (e.pq x)) x e.ms)) x))
noncomputable def Tf(L:eg)(W:World)(d:fL)(e:Si)(off N0:Nat)(Stop:xV):Ph where
 P:=Tryz.prog
 S:=⟨e.np,e.pt,e.Wg,155,e.Sb⟩
 n:=d.rem 0
 off:=off
 N0:=N0
 v0:=.pointer (some ⟨e.Wg,0,none⟩)
 L0:=L
 IX:=fun r a=>∃i x,d.keys[i]?=some x/\¬d.En x/\d.rem i=r/\∃j,j<3/\a=⟨d.ab,i*3+j,none⟩
 Vx:=fun r a u=>∃i x,d.keys[i]?=some x/\¬d.En x/\d.rem i=r/\VxF d e i x a u
 w0:=W
 uo:=Stop
def af1(L:eg)(w2:World)(hw:L.N<=w2.heap.size)(b0 b1 b4 bw bf ab i:Nat)(hab:ab<w2.heap.size):eg where
 Fx b:=L.Fx b\/b=b0\/b=b1\/b=b4\/b=bw\/b=bf
 nR:=L.nR
 Mn a:=∃j,j<3/\a=⟨ab,i*3+j,none⟩
 Sh:=L.Sh
 Wg:=L.Wg
 tw:=L.tw
 N:=w2.heap.size
 low:=fun a h=>zcj (L.low a h) hw
 Jn:=by rintro a ⟨j,_,rfl⟩;exact hab
theorem fL.Kz(d:fL):∀{i i':Nat} {x:ByteArray},i<i'->d.keys[i]?=some x->¬d.En x->d.rem i'<d.rem i:=by
 intro i i' x hlt hx hE;have h1:=((d.pe hx).2 hE).1;have mono:∀k j,j<=k->d.rem k<=d.rem j:=by
  intro k;induction k with
  |zero=>intro j hj;obtain rfl:j=0:=by omega
         exact zci _
  |succ k ih=>
   intro j hj;rcases Nat.lt_or_ge k j with h|h
   ·obtain rfl:j=k+1:=by omega
    exact zci _
   ·refine Nat.le_trans ?_ (ih j h);rcases hk:d.keys[k]? with _|y
    ·have hl:d.keys.length<=k:=by simpa using hk
     unfold fL.rem;rw[List.drop_of_length_le (by omega),List.drop_of_length_le hl];exact zci _
    ·by_cases hy:d.En y
     ·exact Nat.le_of_eq ((d.pe hk).1 hy).1.symm
     ·have:=((d.pe hk).2 hy).1;omega
 have:=mono i' (i+1) (by omega);omega
end
section
open Go Go.Conc Go.ConcN Go.RowKit Go.MuLone Go.Maps
open Go.ConcR (KK wgBlock WgAt stA smA rd wr mk Payload Aside2 DC0)
theorem kY.more{L L':eg}{pb kb:Nat}{vl:Int->List KV}(h:kY L pb kb f vl W)(x:RS L W w)(hf:∀b,L.Fx b->L'.Fx b)(hc:∀a,L.nR a->L'.nR a):kY L' pb kb f vl w:=
 ⟨hc _ h.fc,hf _ h.fk,(x.K3 _ h.fc).trans h.cell,yq h.map h.fk x.fxs,fun m h1 h2=>by obtain⟨ad,cap,sv,e,h8,hr⟩:=h.row m h1 h2;refine⟨ad,cap,sv,e,h8,fun k y hy=>?_⟩;obtain⟨g,hg,ha,c1,c2⟩:=hr k y hy;exact⟨g,hf g hg,ha,x.aV c1 hg,x.aV c2 hg⟩⟩
theorem Qr{L:eg}{e:Si}{Stop:xV}(hD:o9 L W d)(hE:OC L W d e):Vr L (@Ph.bI Nv (Tf L W d e off N0 Stop)) W d:=by
 letI:=Nv;intro i x b0 b1 b4 bw bf O2 w2 hx BD hown hrs vS uQ iM rj hBw Xw;obtain⟨k1,k2,k3,k4⟩:=hD.key i x hx;obtain⟨Nn,UC,wg3⟩:=hE.wg;have GQ:i<d.N:=by have:=(List.getElem?_eq_some_iff.1 hx).1;rw[hD.len]at this;exact this
 have Oc:L.N<=w2.heap.size:=Nat.le_trans hD.top hrs.le;have hab:d.ab<w2.heap.size:=zcj hD.abn Oc;have hq:=hE.pqn x k3;have hpl:=hE.ptl _ hq;have big:∀b,O2.own b->b≠d.ab/\b≠e.pt (e.pq x)/\¬L.Fx b:=fun b hb=>by have h1:=hown b hb;have h2:=hD.abn;exact⟨by omega,by omega,fun h=>by have:=(hE.Sj b h).1;omega⟩
 let Lk:eg:=af1 L w2 Oc b0 b1 b4 bw bf d.ab i hab;have hPb:RB Lk (e.pt (e.pq x)):=by
  refine⟨?_,fun a ha _=>(hE.fcn a ha).2.1,?_,hE.shn _ hq,zcj hpl hrs.le,by show L.Wg≠_;rw[Nn];exact Ne.symm (hE.UD _ hq)⟩
  ·rintro(h|h|h|h|h|h)
   ·exact(hE.Sj _ h).2.2.2.1 _ hq rfl
   ·exact(big b0 uQ.own).2.1 h.symm
   ·exact(big b1 iM.own).2.1 h.symm
   ·exact(big b4 rj.own).2.1 h.symm
   ·exact(big bw hBw.own).2.1 h.symm
   ·exact(big bf Xw.own).2.1 h.symm
  ·rintro a ⟨j,_,rfl⟩;exact Ne.symm (hE.pta _ hq)
 obtain⟨nl,hlk⟩:=Ze (main:=false) hPb;obtain⟨n,hgo⟩:=X4 (J:=iX Tryz.prog false (e.pt (e.pq x))) (L:=Lk) nl;have hnf:¬Lk.Fx d.ab:=by
  rintro(h|h|h|h|h|h)
  ·exact hD.abf h
  ·exact(big b0 uQ.own).1 h.symm
  ·exact(big b1 iM.own).1 h.symm
  ·exact(big b4 rj.own).1 h.symm
  ·exact(big bw hBw.own).1 h.symm
  ·exact(big bf Xw.own).1 h.symm
 have hcell:∀{b:Nat} {v:Value} {t:TypeId},OB b (.cells #[v] t) O2 w2->w2.cell? ⟨b,0,none⟩=some v:=fun h=>by simp[World.cell?,h.heap]
 have Rh:JN Lk b0 b1 d.bc d.ba b4 (d.qb x) (e.pt (e.pq x)) d.ab x e.ms e.cb e.eN d.N d.lS i w2:=
  ⟨.inr (.inl rfl),.inr (.inr (.inl rfl)),.inl hE.bcf,.inl hD.Vq,.inr (.inr (.inr (.inl rfl))),.inl (hD.qs.fx x k3),hcell uQ,hcell iM,hrs.aV hE.bcc hE.bcf,hrs.aV hD.bac hD.Vq,hcell rj,hrs.aV (hE.cq x k3) (hD.qs.fx x k3)⟩
 refine⟨⟨Lk,e.pq x,bw,VxF d e i x,fun _=>False,.uI,1,8,n,0⟩,rfl,⟨fun b h=>h.elim,⟨rfl,rfl,rfl,rfl,fun _ h=>h⟩,hq,⟨Nn,UC⟩,zci _,?_,fun _ h=>h,?_,fun _ h=>h,⟨.inr (.inr (.inr (.inr (.inl rfl)))),hBw.own,fun h=>h⟩,?_,?_⟩,fun fu=>?_⟩
 ·rintro b (h|rfl|rfl|rfl|rfl|rfl)
  ·exact .inl h
  ·exact .inr ⟨uQ.own,fun h=>h⟩
  ·exact .inr ⟨iM.own,fun h=>h⟩
  ·exact .inr ⟨rj.own,fun h=>h⟩
  ·exact .inr ⟨hBw.own,fun h=>h⟩
  ·exact .inr ⟨Xw.own,fun h=>h⟩
 ·rintro a ⟨j,hj,rfl⟩;exact⟨i,x,hx,BD,rfl,j,hj,rfl⟩
 ·rintro a u (⟨rfl,_⟩|⟨rfl,_⟩|⟨rfl,_⟩)
  ·exact⟨0,by omega,rfl⟩
  ·exact⟨1,by omega,rfl⟩
  ·exact⟨2,by omega,rfl⟩
 ·rintro a u ⟨i',x',hx',Ef,hr,hV⟩;have oG:i'=i:=by
   rcases Nat.lt_trichotomy i' i with h|h|h
   ·have:=d.Kz h hx' Ef;omega
   ·exact h
   ·have:=d.Kz h hx BD;omega
  subst oG;rw[hx]at hx';cases hx';exact hV
 ·have h:=hgo e.Wg bw bf b0 b1 d.bc d.ba b4 (d.qb x) (e.pt (e.pq x)) d.ab (e.kbp (e.pq x)) (e.fk (e.pq x)) (e.vl (e.pq x)) x e.ms e.cb e.eN d.N d.lS i ⟨fun _=>False,.lk .uI 1,fu⟩ w2 (zci _) ((hE.part _ hq).more hrs (fun _ h=>.inl h) (fun _ h=>h)) GQ hD.n8 hnf hD.abw (hE.vsz x k3)
   (fun j hj=>⟨⟨j,hj,rfl⟩,hD.cells hrs GQ j hj⟩) Rh hE.ms8 hE.msb (fun k m hk=>by obtain⟨g,hg,h1,h2⟩:=hE.msc k m hk;exact⟨g,.inl hg,h1,hrs.aV h2 hg⟩) hlk rfl (fun h=>h) (.inr (.inr (.inr (.inr (.inr rfl))))) (hcell Xw) Nn UC (.inr (.inr (.inr (.inr (.inl rfl))))) (by rw[<-Nn];exact hcell hBw) vS
  refine h.weaken fun O g w hs=>?_;obtain⟨h1,⟨c1,c2,c3⟩,r,h2⟩:=hs;refine⟨h1,?_,r,h2⟩;rintro a u (⟨rfl,rfl⟩|⟨rfl,rfl⟩|⟨rfl,rfl⟩)
  ·exact c1
  ·exact c2
  ·exact c3
end
section
open Go Go.Conc Go.ConcN Go.RowKit Go.MuLone Go.Maps
open Go.ConcR (KK wgBlock WgAt stA smA rd wr mk Payload Aside2 DC0)
def Qs(L:eg)(W:World)(d:fL)(b:Frame)(cs:List Frame)(O:au)(g:Goroutine)(w:World):Prop:=
 ∃a todo,g=G {b.at a todo with mode:=.returning} cs/\RJ L W d O a w
theorem WZ{L:eg}{e:Si}(hD:o9 L W d)(hE:OC L W d e):qX (Tf L W d e off N0 (Qs L W d b cs)):=by
 obtain⟨Nn,UC,wg3⟩:=hE.wg;refine⟨hE.inj,hE.UD,hE.psb,hE.XU,?_,?_,?_,?_,?_⟩
 ·rintro r a ⟨i,x,hx,BD,_,j,hj,rfl⟩;refine⟨rfl,hD.abs,fun h=>?_,fun h=>hD.abc _ h rfl,by rw[show (Tf L W d e off N0 (Qs L W d b cs)).S.Wg=e.Wg from rfl,<-Nn];exact Ne.symm hD.abw,hE.asb,fun q hq h=>hE.pta q hq h.symm⟩;obtain⟨i',x',hx',Ef,j',hj',h'⟩:=hE.mnn _ h;have:i*3+j=i'*3+j':=by injection h'
  obtain rfl:i=i':=by omega
  rw[hx]at hx';cases hx';exact BD Ef
 ·rintro r r' a ⟨i,x,hx,BD,h1,j,hj,rfl⟩ ⟨i',x',hx',alx,h1',j',hj',h'⟩;have:i*3+j=i'*3+j':=by injection h'
  obtain rfl:i=i':=by omega
  rw[<-h1,h1']
 ·show d.rem 0<=900;have h1:d.rem 0<=d.keys.length:=by unfold fL.rem;exact Nat.le_trans (List.length_filter_le _ _) (by simp)
  have:=hD.len;have:=hD.n8;omega
 ·rintro O g w ⟨a,todo,rfl,h⟩;exact⟨h.pos,rfl⟩
 ·rintro O g w w' ⟨a,todo,rfl,h⟩ hr;exact⟨a,todo,rfl,h.rely hD hr⟩
theorem MB{L:eg}{e:Si}{c:Nat}{Stop:xV}(hD:o9 L W d)(hE:OC L W d e)(O9:e.Wg<W.heap.size)(hsb:∀b,e.Sb b->b<W.heap.size)(hsh:∀b,L.Sh b->b<W.heap.size/\¬L.Fx b)(D:Nat->Wk):
 Geo (Tf L W d e off N0 Stop).S 0 (Hd (Tf L W d e off N0 Stop) ⟨fun _=>False,.sp c,n⟩ D) W:=by
 obtain⟨Nn,UC,wg3⟩:=hE.wg;have z:∀{i:Nat},i<=0->i=0:=fun h=>by omega
 have eL:(Hd (Tf L W d e off N0 Stop) ⟨fun _=>False,.sp c,n⟩ D 0).L=L:=rfl;have eO:∀b,¬(Hd (Tf L W d e off N0 Stop) ⟨fun _=>False,.sp c,n⟩ D 0).own b:=fun _ h=>h;refine⟨fun i hi=>?_,fun i hi=>?_,fun i b hi h=>?_,fun i b hi h=>?_,fun b hb=>?_,fun i k b hi hk h=>?_,fun i k b hi hk h=>?_,fun i k a hi hk h=>?_,fun i k a hi hk h=>?_,fun i k a hi hk _ _=>?_,fun i a hi h=>?_,fun i k a hi hk h=>?_,fun i b hi hb=>?_,fun i a hi h=>?_,fun i k b hi hk h=>?_⟩
 ·rw[z hi];exact⟨Nn,UC⟩
 ·rw[z hi];exact hD.top
 ·rw[z hi]at h;exact(eO b h).elim
 ·rw[z hi]at h;exact(hE.Sj b h).1
 ·rcases hb with(⟨q,hq,rfl⟩|rfl)|hb
  ·exact hE.ptl q hq
  ·exact O9
  ·exact hsb b hb
 ·rw[z hi]at h;exact(eO b h).elim
 ·rw[z hi]at h;exact(eO b h).elim
 ·rw[z hk];exact eO _
 ·rw[z hi]at h;rw[z hk];obtain⟨i',x,hx,BD,j,hj,rfl⟩:=hE.mnn a h;exact⟨hD.abf,fun h=>hD.abc _ h rfl⟩
 ·rw[z hi,z hk]
 ·rw[z hi]at h;rcases h with h|h
  ·obtain⟨i',x,hx,BD,j,hj,rfl⟩:=hE.mnn a h;rfl
  ·exact(hE.fcn a h).1
 ·rw[z hi]at h;rw[z hk];obtain⟨_,_,q,hq,hb⟩:=hE.fcn a h;exact⟨eO _,fun hf=>(hE.Sj _ hf).2.2.2.1 q hq hb⟩
 ·rw[z hi];refine⟨eO _,fun hf=>?_⟩;have h:=hE.Sj b hf;rcases hb with(⟨q,hq,hb⟩|hb)|hb
  ·exact h.2.2.2.1 q hq hb
  ·exact h.2.2.1 hb
  ·exact h.2.2.2.2 hb
 ·rw[z hi]at h;rcases h with h|h
  ·obtain⟨_,h2,q,hq,hb⟩:=hE.fcn a h;exact⟨by rw[hb];exact hE.UD q hq,by rw[hb];exact hE.psb q hq,fun _ _ _=>h2⟩
  ·obtain⟨i',x,hx,BD,j,hj,rfl⟩:=hE.mnn a h;exact⟨by rw[show (Tf L W d e off N0 Stop).S.Wg=e.Wg from rfl,<-Nn];exact Ne.symm hD.abw,hE.asb,fun q hq hb=>absurd hb.symm (hE.pta q hq)⟩
 ·rw[z hi]at h;rw[z hk];exact⟨(hsh b h).1,eO _,(hsh b h).2⟩
theorem CU{L:eg}{e:Si}{k:List Item}{sl:Option (Nat×Nat)}{q:Nat->Nat}(hD:o9 L W d)(hE:OC L W d e)(hsb:∀b,e.Sb b->b<W.heap.size)(hsh:∀b,L.Sh b->b<W.heap.size/\¬L.Fx b)
 (hb:b.fn=44) (hbk:b.kind≠.early) (hl:Ap a d.pr d.ba d.bc L.Wg 0) (uF:bS 155 e.Wg ⟨0,false,0⟩ W) (W0:∀p,p<e.np->eu (e.pt p) ⟨false,false,false,0⟩ 0 W)
 (h0:gs[0]?=some (G (b.at a (.code yp :: k)) cs)) (hL:Leavers Tryz.prog t gs q) (hP:tE (fun l=>∃a,l=.cell a/\e.Sb a.block) t) (hg:∀(i:Nat) (op:MemOp),t[i]?=some op->op.g<gs.size):
 ∃N gs' w' sl' t' a' todo q' O,runNT Tryz.prog N (crowd gs W sl) t=(.next (crowd gs' w' sl'),t')/\gs'.size=gs.size+d.rem 0/\gs'[0]?=some (G {b.at a' todo with mode:=.returning} cs)/\RJ L W d O a' w'/\Leavers Tryz.prog t' gs' q'/\tE (fun l=>∃a,l=.cell a/\(e.Sb a.block\/a.block=e.Wg)) t'/\(∀(i:Nat) (op:MemOp),t'[i]?=some op->op.g<gs'.size)/\
  (∀p,p<e.np->eu (e.pt p) ⟨false,false,false,0⟩ 0 w')/\bS 155 e.Wg ⟨0,false,0⟩ w'/\(∀(i:Nat) (x:ByteArray),d.keys[i]?=some x->¬d.En x->Q7 d.ab i x (fC (e.vl (e.pq x)) x e.ms) (valueOf (e.vl (e.pq x) (fC (e.vl (e.pq x)) x e.ms)) x) w')/\E6 W w':=by
 letI:=Nv
 obtain⟨Nn,UC,wg3⟩:=hE.wg
 have hsz:0<gs.size:=(Array.getElem?_eq_some_iff.1 h0).1
 let X:Ph:=Tf L W d e (gs.size-1) t.size (Qs L W d b cs)
 have hX:qX X:=WZ hD hE
 obtain⟨n,jr⟩:=YV (L:=L) (bI:=X.bI)
 have hwp:=fun f=>jr W d ⟨fun _=>False,.mn (.sp (d.rem 0)),f⟩ a (fun O' e a' w'=>e=.ret/\RJ L W d O' a' w') hD (Qr hD hE) hl rfl (fun _ h=>h.elim) (by rw[Nn,UC];exact uF.live) (fun O' a' w' h=>⟨rfl,h⟩) b k cs X.uo (fun _=>0) hb hbk (fun O' e a' w' hq=>by obtain⟨rfl,hq⟩:=hq;exact fun todo=>cy.stop fun w₁ h₁=>⟨a',todo,rfl,hq.rely hD h₁⟩)
 have O9:e.Wg<W.heap.size:=(Array.getElem?_eq_some_iff.1 uF).1
 let D:Nat->Wk:=fun _=>⟨L,0,0,fun _ _=>False,fun _=>False,.out,0,0,0,0⟩
 let M:Md:=⟨fun _=>False,.sp (d.rem 0),0+n⟩
 have hoff:X.off=gs.size-1:=rfl
 have hno:X.off+0+1=gs.size:=by rw[hoff];omega
 have hth:∀p i,iK D 0 p i=.out:=fun p i=>by simp[iK]
 have hI:Tg X (lR X 0 M D (fun _=>⟨false,false,false,0⟩) (fun _=>0),G6 X 0 M D (fun _=>false) q) gs W t:=by
  refine⟨lR X 0 M D (fun _=>⟨false,false,false,0⟩) (fun _=>0)+1,0,M,D,fun _=>false,fun _=>⟨false,false,false,0⟩,fun _=>0,⟨0,false,0⟩,q,by omega,⟨by omega,⟨_,h0,.run _ (zci _) ?_⟩,fun i h1 h2=>?_,fun i hi=>absurd hi (zcn _),?_⟩,rfl⟩
  ·have h:=hwp (lR X 0 M D (fun _=>⟨false,false,false,0⟩) (fun _=>0)+1);rw[Nn,UC]at h;exact h
  ·have hlt:i<gs.size:=by omega
   exact⟨gs[i],Array.getElem?_eq_getElem hlt,hL.old i _ (by omega) (Array.getElem?_eq_getElem hlt)⟩
  ·refine⟨zcm _,fun i hi=>absurd hi (zcn _),fun i k hi=>absurd hi (zcn _),fun i a hi=>absurd hi (zcn _),fun i hi=>absurd hi (zcn _),MB hD hE O9 hsb hsh D,fun p hp=>⟨W0 p hp,H7 fun i _=>.inl (hth p i)⟩,⟨uF,Jf _ fun i _=>by simp[lJ]⟩,fun i hi=>absurd hi (zcn _),(fun h=>by cases h),?_,hP.hears,fun i hi=>absurd hi (zcn _),fun j hj=>hL.above j (by omega),fun i a hi ha=>?_,fun j hj h=>?_,fun i hi=>absurd hi (zcn _),(fun h=>by cases h),Nat.lt_succ_self _,E6.refl W⟩
   ·exact Mh hP fun i op h=>by have:=hg i op h;omega
   ·obtain⟨op,ho,_⟩:=touch_of ha;have:=lt_size_of_getElem? ho;have h2:t.size<=i:=hi;omega
   ·have:=lt_of_act? h;have h2:t.size<=j:=hj;omega
 obtain⟨N,gs',w',sl',t',hrun,JS⟩:=MC hX _ gs W sl t hI
 obtain⟨a0,f,own,q',f1,f2,⟨a',todo,f3,f4⟩,f5,f6,f7,f8,f9,f10,f11,f12⟩:=JS.facts hX
 subst f3
 have hn:X.n=d.rem 0:=rfl
 refine⟨N,gs',w',sl',t',a',todo,q',_,hrun,by omega,f2,f4,f5,?_,fun i op h=>by have:=f10 i op h;omega,f7,f8,fun i x hx BD=>?_,f11⟩
 ·have e1:(fun l=>lI X.S l\/FH X.S.Wg l)=fun l=>∃a,l=.cell a/\(e.Sb a.block\/a.block=e.Wg):=by
   funext l;apply propext;constructor
   ·rintro(⟨a,h1,h2⟩|⟨a,h1,h2⟩)
    ·exact⟨a,h1,.inl h2⟩
    ·exact⟨a,h1,.inr h2⟩
   ·rintro⟨a,h1,h2|h2⟩
    ·exact .inl ⟨a,h1,h2⟩
    ·exact .inr ⟨a,h1,h2⟩
  rw[<-e1]
  exact f6
 ·have GR:1<=d.rem i:=by have:=((d.pe hx).2 BD).1;omega
  have Q3:d.rem i<=d.rem 0:=by
   rcases Nat.eq_zero_or_pos i with h|h
   ·rw[h];exact zci _
   ·have mono:∀j,d.rem j<=d.rem 0:=by intro j;unfold fL.rem;exact(List.Sublist.filter _ (List.drop_sublist j _)).length_le
    exact mono i
  have hv:=f9 (d.rem i) GR Q3
  exact⟨hv _ _ ⟨i,x,hx,BD,rfl,.inl ⟨rfl,rfl⟩⟩,hv _ _ ⟨i,x,hx,BD,rfl,.inr (.inl ⟨rfl,rfl⟩)⟩,hv _ _ ⟨i,x,hx,BD,rfl,.inr (.inr ⟨rfl,rfl⟩)⟩⟩
end
section
open Go Go.RowKit Go.MuLone Go.Conc
open Go.Maps (Keyed)
def VS(s:MS)(A:SA)(i:Nat)(r:MR)(x:ByteArray):ByteArray->Bool:=
 if A.R.hv i (bM r.keys x)=true then
  (match s.ws[r.found (bM r.keys x)-1]? with
  |some m=>if s.mode=1 then dX (m.items.map Prod.fst)else if s.mode=3 then Ew (ry (m.items.map Prod.fst))else fun _=>true
  |none=>fun _=>true)
 else fun _=>true
def j7(s:MS)(q:Nat)(n:Int):List KV:=match bF s n with
 |some m=>if m.dL q then aZ s.parts m.items q else []
 |none=> []
def CZ:Value->Option Addr
 |.slice a _ _=>a
 |_=>none
def C0:Value->Nat
 |.slice _ _ c=>c
 |_=>0
def nX(s:MS)(A:SA)(i:Nat)(r:MR)(ab ba bc:Nat):fL where
 pr:=A.R.pr i
 ba:=ba
 bc:=bc
 kb:=((CZ (A.R.ks i)).map (·.block)).getD 0
 N:=r.keys.length
 bC:=C0 (A.R.ks i)
 ab:=ab
 lS:=r.keys.length
 qm:=A.R.qm i
 keys:=r.keys
 f:=bW A.R i r
 qb x:=A.R.qb i (bM r.keys x)
 p x:=bM r.keys x<r.keys.length/\r.keys[bM r.keys x]?=some x
 wn x:=r.found (bM r.keys x)
 hv x:=A.R.hv i (bM r.keys x)
 tv x:=A.R.tv i (bM r.keys x)
 ts x:=A.R.ts i (bM r.keys x)
 fm:=VS s A i r
def XG(s:MS)(A:SA)(wg:Nat)(ms:List Int)(cv:Value)(Sb:Nat->Prop):Si where
 np:=s.parts
 pt:=A.pb
 kbp:=A.kb
 fk:=bE s A
 vl:=j7 s
 pq x:=(partOf s.parts x).toNat
 cb:=CZ cv
 eN:=C0 cv
 ms:=ms
 Wg:=wg
 Sb:=Sb
section
variable {w0 W:World}{τ:Nat->Tag}{aD b:Nat}{s:MS}{A:SA}{i:Nat}{r:MR}{ab ba bc wg:Nat}{ms:List Int}{cv:Value}{Sb:Nat->Prop}
structure bH(w0 W:World)(τ:Nat->Tag)(aD b:Nat)(s:MS)(A:SA)(i:Nat)(r:MR)(ab ba bc wg:Nat)(ms:List Int)(cv:Value)(Sb:Nat->Prop):Prop where
 rep:aW w0 τ aD b s A
 hr:s.rs[i]?=some r
 fin:r.fin=false
 same:∀k,k<w0.heap.size->k≠A.R.rm->W.heap[k]?=w0.heap[k]?
 NS:∃C,aT W ab C 62/\C.size=r.keys.length*3
 R8:aT W ba #[.slice (some ⟨ab,0,none⟩) r.keys.length r.keys.length] 42
 R9:aT W bc #[cv] 58
 cand:yH r ms
 row:W.ownsRow w0.heap.size 3 1 cv ms.length (ms.map (Value.int .i64))
 GZ:aT W wg #[.int .u64 0,.int .u32 0] 155
 ord:w0.heap.size<=ab/\ab<ba/\ba<bc/\bc<wg
 Sa:∀k,cv.ownBlock=some k->ba<k/\k<bc
 old:∀k,Sb k->k<w0.heap.size/\(τ k).1≠aD
theorem bH.blk(h:bH w0 W τ aD b s A i r ab ba bc wg ms cv Sb){g:Nat}{c:Array Value}{t:TypeId}(hb:aT w0 k c t)(ht:τ k=(aD,g,g'))(hg:g≠10):aT W k c t:=
 hb.of_eq (h.same k hb.lt fun e=>by rw[e,h.rep.reads.gS]at ht;simp at ht;omega)
theorem bH.map(h:bH w0 W τ aD b s A i r ab ba bc wg ms cv Sb){g:Nat}{t:TypeId}(hb:aK w0 Tryz.prog t k f)(ht:τ k=(aD,g,g'))(hg:g≠10):aK W Tryz.prog t k f:=
 hb.of_eq (h.same k hb.lt fun e=>by rw[e,h.rep.reads.gS]at ht;simp at ht;omega)
theorem bH.row'(h:bH w0 W τ aD b s A i r ab ba bc wg ms cv Sb){g:Nat}{e:TypeId}{xs:List Value}(hb:w0.ownsRow 0 e sz v n xs)(ht:∀k,v.ownBlock=some k->τ k=(aD,g,g'))(hg:g≠10):W.ownsRow 0 e sz v n xs:=
 ak hb fun k hk=>h.same k (aR hb k hk).2 fun e=>by have:=ht k hk;rw[e,h.rep.reads.gS]at this;simp at this;omega
theorem bH.size(h:bH w0 W τ aD b s A i r ab ba bc wg ms cv Sb):w0.heap.size<=ab/\wg<W.heap.size:=⟨h.ord.1,h.GZ.lt⟩
theorem bH.pt(h:bH w0 W τ aD b s A i r ab ba bc wg ms cv Sb){q:Nat}(hq:q<s.parts):A.pb q<w0.heap.size:=(h.rep.part q hq).lt
theorem bH.hab(h:bH w0 W τ aD b s A i r ab ba bc wg ms cv Sb):(nX s A i r ab ba bc).ab<W.heap.size:=by have:=h.ord;have:=h.GZ.lt;show ab<_;omega
theorem bH.Nc(h:bH w0 W τ aD b s A i r ab ba bc wg ms cv Sb):∀q,q< (XG s A wg ms cv Sb).np->(XG s A wg ms cv Sb).pt q<W.heap.size:=fun q hq=>by have:=h.pt hq;have:=h.ord;have:=h.GZ.lt;show A.pb q<_;omega
abbrev bH.L(h:bH w0 W τ aD b s A i r ab ba bc wg ms cv Sb):eg:=aeu W (nX s A i r ab ba bc) (XG s A wg ms cv Sb) h.hab h.Nc
theorem bH.fx(h:bH w0 W τ aD b s A i r ab ba bc wg ms cv Sb){g:Nat}(ht:τ k=(aD,g,g'))(hg:g≠2)(hk:k<w0.heap.size):h.L.Fx k:=by
 have h1:=h.ord;have h2:=h.GZ.lt;refine⟨by omega,fun e=>?_,fun e=>?_,fun q hq e=>?_,fun hs=>?_⟩
 ·have e':k=ab:=e;omega
 ·have e':k=wg:=e;omega
 ·have:=h.rep.cS q hq;have e':k=A.pb q:=e;rw[<-e',ht]at this;simp at this;omega
 ·exact(h.old k hs).2 (by rw[ht])
theorem bH.Sj(h:bH w0 W τ aD b s A i r ab ba bc wg ms cv Sb)(h1:ab<k)(h2:k<wg):h.L.Fx k:=by
 have h3:=h.ord;have h4:=h.GZ.lt;refine⟨by omega,fun e=>?_,fun e=>?_,fun q hq e=>?_,fun hs=>?_⟩
 ·have e':k=ab:=e;omega
 ·have e':k=wg:=e;omega
 ·have:=h.pt hq;have e':k=A.pb q:=e;omega
 ·have:=(h.old k hs).1;omega
theorem bH.q(h:bH w0 W τ aD b s A i r ab ba bc wg ms cv Sb){x:ByteArray}(hx:(nX s A i r ab ba bc).p x):aT W (A.R.qb i (bM r.keys x)) #[ptr (A.pb (partOf s.parts x).toNat),.bool (r.asked (bM r.keys x)),.int .i64 (r.found (bM r.keys x)),.bool (A.R.hv i (bM r.keys x)),.string (A.R.tv i (bM r.keys x)),A.R.ts i (bM r.keys x)] 146:=
 h.blk (h.rep.reads.q i r _ x h.hr h.fin hx.2) (h.rep.reads.lA i r _ x h.hr h.fin hx.2) (by omega)
theorem bH.found(h:bH w0 W τ aD b s A i r ab ba bc wg ms cv Sb){j:Nat}{x:ByteArray}(hx:r.keys[j]?=some x):r.found j<=200:=by
 by_cases e:r.found j=0
 ·omega
 ·obtain⟨m,hm,_⟩:=h.rep.told.fm i r j x h.hr h.fin hx e;have:=aE hm;have:=h.rep.ok.len;omega
theorem bH.La(h:bH w0 W τ aD b s A i r ab ba bc wg ms cv Sb){x:ByteArray}(hx:(nX s A i r ab ba bc).p x):rU h.L W (A.R.ts i (bM r.keys x)) (VS s A i r x):=by
 unfold VS;cases hv:A.R.hv i (bM r.keys x)with
 |false=>
  rw[(h.rep.told.t0 i r _ x h.hr h.fin hx.2 hv).2];simp only[Bool.false_eq_true,if_false];exact .none
 |true=>
  obtain⟨m,hm,_,h2⟩:=h.rep.told.tv i r _ x h.hr h.fin hx.2 hv;rw[h2,hm];simp only[if_true];have hl:=(h.rep.ok.items _ m hm).1;have hs:=h.rep.La _ m hm;generalize A.sv (r.found (bM r.keys x)-1)=sv at hs;generalize r.found (bM r.keys x)-1=n at hs;generalize hmo:s.mode=mode at hs;cases hs with
  |keys v h3 h4=>
   simp only[if_true];have h5:=h.row' h3 h4 (by omega);obtain⟨a,cap,rfl⟩:=gH h5;refine .keys a (m.items.map Prod.fst) cap (by simpa using hl) fun k y hy=>?_;have hk:=aE hy;obtain⟨g,cap',e,_,_,hc,_⟩:=dJ h5 (by omega);cases e;refine⟨g,h.fx (h4 g rfl) (by omega) (aR h3 g rfl).2,rfl,?_⟩;rw[hc k (by omega),List.getElem?_map,hy];rfl
  |mask=>
   simp only[show ¬((3:Int)=1) by omega,if_false,if_true];exact .mask _
  |none e1 e3=>
   simp only[e1,e3,if_false];exact .none
theorem Sk{k:TypeId}{b:Nat}{D:DataW Value}(h:u.ownsMap P k aL b n D)(hs:Says D f)(K:Keyed P k){L:List Lit}(hnd:L.Pairwise (fun a b=>a≠b))(hL:∀kl,f kl≠none↔kl∈L):Maps.size D=L.length:=by
 obtain⟨n2,D2,⟨xK,Ik,kQ,_,_,hD2⟩,hsz⟩:=aK.size ⟨n,D,h,hs⟩ K hnd hL;obtain⟨es,clock,hb,F,hn,hD⟩:=h;obtain⟨rfl,rfl⟩:xK=es/\Ik=clock:=by rw[hb]at kQ;injection kQ with e;injection e with e1 e2;exact⟨e1.symm,e2.symm⟩
 rw[hD,<-hD2];exact hsz
theorem bH.Z5(h:bH w0 W τ aD b s A i r ab ba bc wg ms cv Sb):∃g cap,A.R.ks i=.slice (some ⟨g,0,none⟩) r.keys.length cap/\h.L.Fx g/\∀(j:Nat) (x:ByteArray),r.keys[j]?=some x->W.cell? ⟨g,j,none⟩=some (.string x):=by have h1:=(h.rep.ok.keys i r h.hr).1;have hk:=h.rep.reads.ky i r h.hr h.fin;obtain⟨g,cap,e,_,_,hc,_⟩:=dJ (h.row' hk (fun k=>h.rep.reads.dF i r k h.hr h.fin) (by omega)) (by omega);refine⟨g,cap,e,h.fx (h.rep.reads.dF i r g h.hr h.fin (by rw[e];rfl)) (by omega) (aR hk g (by rw[e];rfl)).2,fun j x hx=>?_⟩;have hj:=aE hx;rw[hc j (by omega),List.getElem?_map,hx];rfl
theorem bH.tvz(h:bH w0 W τ aD b s A i r ab ba bc wg ms cv Sb)(hx:r.keys[j]?=some x):(A.R.tv i j).size<=64:=by
 cases hv:A.R.hv i j with
 |false=>rw[(h.rep.told.t0 i r j x h.hr h.fin hx hv).1];exact zcm _
 |true=>
  obtain⟨m,hm,t1,_⟩:=h.rep.told.tv i r j x h.hr h.fin hx hv;exact yQ (h.rep.ok.items _ m hm).2 t1
theorem bH.Oz(h:bH w0 W τ aD b s A i r ab ba bc wg ms cv Sb)(hx:r.keys[j]?=some x):bM r.keys x=j/\(nX s A i r ab ba bc).p x:=by have e:=lz (h.rep.ok.keys i r h.hr).2.2.2 hx;have hj:=aE hx;exact⟨e,by show bM r.keys x<_/\_;rw[e];exact⟨hj,hx⟩⟩
theorem bH.ZZ(h:bH w0 W τ aD b s A i r ab ba bc wg ms cv Sb):o9 h.L W (nX s A i r ab ba bc):=by
 have ho:=h.ord;have hg:=h.GZ.lt;obtain⟨k1,k8,kg,knd⟩:=h.rep.ok.keys i r h.hr;obtain⟨g,cap,ek,hgf,hgc⟩:=h.Z5;have hrd:=h.blk (h.rep.reads.rd i r h.hr h.fin) (h.rep.reads.iI i r h.hr h.fin) (by omega);have hrl:=(h.rep.reads.rd i r h.hr h.fin).lt;have Uh:=(h.rep.reads.u5 i r h.hr h.fin).lt;have ekb:(nX s A i r ab ba bc).kb=g:=by show ((CZ (A.R.ks i)).map (·.block)).getD 0=g;rw[ek];rfl
 have ekc:(nX s A i r ab ba bc).bC=cap:=by show C0 (A.R.ks i)=cap;rw[ek];rfl
 refine⟨⟨h.fx (h.rep.reads.iI i r h.hr h.fin) (by omega) hrl,hrd.cell (o:=4) rfl,h.fx (h.rep.reads.l5 i r h.hr h.fin) (by omega) Uh,h.map (h.rep.reads.u5 i r h.hr h.fin) (h.rep.reads.l5 i r h.hr h.fin) (by omega),jV A.R i r,
  fun x hx=>h.fx (h.rep.reads.lA i r _ x h.hr h.fin hx.2) (by omega) (h.rep.reads.q i r _ x h.hr h.fin hx.2).lt,fun x hx=>(h.q hx).cell (o:=2) rfl,fun x hx=>(h.q hx).cell (o:=3) rfl,fun x hx=>(h.q hx).cell (o:=4) rfl,fun x hx=>(h.q hx).cell (o:=5) rfl,fun x hx=>h.La hx,fun x hx=>by have:=h.found hx.2;show r.found _<=1000;omega⟩,
  fun u n D hu hs=>?_,fun x hx=>?_,rfl,k8,?_,by rw[ekb];exact hgf,fun j x hx=>?_,h.Sj (k:=ba) ho.2.1 (by omega),h.R8.cell (o:=0) rfl,fun x hx=>?_,fun hf=>hf.2.1 rfl,fun a ha e=>?_,fun e=>?_,.inl rfl,?_,h.hab,fun j x hx hE jj hjj=>⟨j,x,hx,hE,jj,hjj,rfl⟩,⟨fun hf=>hf.2.2.1 rfl,fun a ha e=>?_,fun a ha e=>?_,.inr (.inl rfl),hg⟩,zci _⟩
 ·rw[Sk hu hs dI (nV knd) uX];simpa[iz]using k8
 ·obtain⟨hj,_⟩:=hx;simp[nX,bW,pM,hj]
 ·rw[ekb,ekc];have:=hrd.cell (o:=3) (v:=A.R.ks i) rfl;rw[ek]at this;exact this
 ·obtain⟨e,hp⟩:=h.Oz hx;have Rf:=kg x (List.mem_of_getElem? hx);refine⟨by rw[ekb];exact hgc j x hx,by have:=(dG Rf).2;omega,hp,?_⟩;have hj:=hp.1;simp only[nX,bW,pM,hj,if_true];rfl
 ·have:=h.tvz hx.2;show (A.R.tv i _).size<=1000;omega
 ·obtain⟨_,_,q,hq,hb⟩:=ha;have:=h.pt hq;have e1:a.block=A.pb q:=hb;have e2:a.block=ab:=e;omega
 ·have e1:wg=ab:=e;omega
 ·obtain⟨C,hC,hs⟩:=h.NS;exact⟨C,_,hC,hs⟩
 ·obtain⟨_,_,q,hq,hb⟩:=ha;have:=h.pt hq;have e1:a.block=A.pb q:=hb;have e2:a.block=wg:=e;omega
 ·obtain⟨j,x,_,_,jj,_,rfl⟩:=ha;have e2:ab=wg:=e;omega
theorem bH.keeps(h:bH w0 W τ aD b s A i r ab ba bc wg ms cv Sb)(q:Nat)(m:Int):∃ad cap sv,(bE s A q (.int .i64 m)).getD (.agg #[.slice none 0 0,.nilIface])=.agg #[.slice ad (j7 s q m).length cap,sv]/\(j7 s q m).length<=8/\
 ∀(k:Nat) (x:KV),(j7 s q m)[k]?=some x->∃g,h.L.Fx g/\ad=some ⟨g,0,none⟩/\W.cell? ⟨g,k*2,none⟩=some (.string x.1)/\W.cell? ⟨g,k*2+1,none⟩=some (.string x.2):=by
 cases hf:bF s m with
 |none=>
  have e:j7 s q m= []:=by unfold j7;rw[hf]
  rw[e];exact⟨none,0,.nilIface,by simp[bE,hf],by simp,fun k x hx=>by simp at hx⟩
 |some mw=>
  cases hp:mw.dL q with
  |false=>
   have e:j7 s q m= []:=by unfold j7;rw[hf];simp[hp]
   rw[e];exact⟨none,0,.nilIface,by simp[bE,hf,hp],by simp,fun k x hx=>by simp at hx⟩
  |true=>
   have e:j7 s q m=aZ s.parts mw.items q:=by unfold j7;rw[hf];simp[hp]
   rw[e];obtain⟨_,_,hm,hc⟩:=eP hf;have Il:=h.rep.inv.po _ mw q hm hp;have hrow:=h.rep.it _ mw q hm hc Il;obtain⟨g,cap,hiv,_,_,hcell,_⟩:=dJ (h.row' hrow (fun k=>h.rep.fA _ mw q k hm hc Il) (by omega)) (pN Il);refine⟨some ⟨g,0,none⟩,cap,A.sv (m-1).toNat,by simp only[bE,hf,hp,if_true,Option.getD_some];rw[hiv],Nat.le_trans (nY _ _ _) (h.rep.ok.items _ mw hm).1,fun k x hx=>?_⟩;obtain⟨e1,e2⟩:=nT _ k x hx;have hk:=aE hx;exact⟨g,h.fx (h.rep.fA _ mw q g hm hc Il (by rw[hiv];rfl)) (by omega) (aR hrow g (by rw[hiv];rfl)).2,rfl,by rw[hcell (k*2) (by omega),e1],by rw[hcell (k*2+1) (by omega),e2]⟩
theorem bH.vsz(h:bH w0 W τ aD b s A i r ab ba bc wg ms cv Sb)(q:Nat)(n:Int)(x:ByteArray):(valueOf (j7 s q n) x).size<=64:=by
 unfold valueOf;cases hf:(j7 s q n).find? (fun y=>decide (y.1=x))with
 |none=>exact zcm _
 |some y=>
  have hy:=List.mem_of_find?_eq_some hf;unfold j7 at hy;split at hy
  ·rename_i mw hm;split at hy
   ·have hy2:y∈mw.items:=(List.mem_filter.1 hy).1;obtain⟨_,_,hm',_⟩:=eP hm;exact(gO ((h.rep.ok.items _ mw hm').2 y hy2)).2.2
   ·cases hy
  ·cases hy
theorem bH.aeo(h:bH w0 W τ aD b s A i r ab ba bc wg ms cv Sb):OC h.L W (nX s A i r ab ba bc) (XG s A wg ms cv Sb):=by
 have ho:=h.ord;have hg:=h.GZ.lt;have hp1:=h.rep.ok.p1;have hw0:wg≠ab:=by omega
 obtain⟨ca,eN,ecv⟩:=gH h.row;have ecb:(XG s A wg ms cv Sb).cb=ca:=by show CZ cv=ca;rw[ecv];rfl
 have ecc:(XG s A wg ms cv Sb).eN=eN:=by show C0 cv=eN;rw[ecv];rfl
 refine⟨fun x _=>?_,fun q hq=>⟨⟨rfl,zci _,q,hq,rfl⟩,h.fx (h.rep.cC q hq) (by omega) (h.rep.kept q hq).lt,(h.blk (h.rep.part q hq) (h.rep.cS q hq) (by omega)).cell (o:=2) rfl,h.map (h.rep.kept q hq) (h.rep.cC q hq) (by omega),fun m _ _=>?_⟩,fun x hx=>(h.q hx).cell (o:=0) rfl,h.Sj (k:=bc) (by omega) (by omega),?_,h.cand.le,fun m hm=>?_,fun k m hk=>?_,fun x hx=>?_,fun q q' hq fU e=>?_,fun q hq e=>?_,fun q hq e=>?_,fun q hq hs=>?_,fun hs=>?_,fun hs=>?_,fun a ha=>ha,fun a ha=>ha,fun q hq=>.inr (.inr ⟨q,hq,rfl⟩),fun k hk=>hk,⟨rfl,rfl,rfl⟩,h.Nc⟩
 ·have:=eM (s.parts:Int) x (by omega);show (partOf s.parts x).toNat<s.parts;omega
 ·exact h.keeps q m
 ·rw[ecb,ecc];have:=h.R9.cell (o:=0) (v:=cv) rfl;rw[ecv]at this;exact this
 ·obtain⟨j,x,hx,rfl⟩:=h.cand.of m hm;have:=h.found hx;omega
 ·have hk':ms[k]?=some m:=hk;have tu:=aE hk';obtain⟨g,cap',e,_,_,hc,_⟩:=dJ h.row (by omega);have h3:=h.Sa g (by rw[e];rfl);refine⟨g,h.Sj (by omega) (by omega),by rw[ecb];rw[ecv]at e;cases e;rfl,?_⟩;rw[hc k (by omega),List.getElem?_map,hk'];rfl
 ·have:=h.vsz (partOf s.parts x).toNat (fC (j7 s (partOf s.parts x).toNat) x ms) x;show (valueOf (j7 s (partOf s.parts x).toNat (fC (j7 s (partOf s.parts x).toNat) x ms)) x).size<=1000;omega
 ·have h1:=h.rep.cS q hq;have h2:=h.rep.cS q' fU;have e':A.pb q=A.pb q':=e;rw[e',h2]at h1;simpa using h1.symm
 ·have:=h.pt hq;have e1:A.pb q=wg:=e;omega
 ·have:=h.pt hq;have e1:A.pb q=ab:=e;omega
 ·exact(h.old _ hs).2 (by show (τ (A.pb q)).1=aD;rw[h.rep.cS q hq])
 ·have:=(h.old _ hs).1;have:wg<w0.heap.size:=this;omega
 ·have:=(h.old _ hs).1;have:ab<w0.heap.size:=this;omega
end
end
section
open Go Go.RowKit Go.MuLone Go.Conc
open Go.Maps (Keyed)
noncomputable def fnBody:Code:=Tryz.f23.body.getD .skip
noncomputable def Fb:Code:=cB (cB (cB (cB (cB fnBody))))
def opsOf:Code->Array Oper
 |.region _ ops _=>ops
 |_=>#[]
def VN(fr:Frame):Prop:=∃(b:Frame) (a:Act),fr=b.at a [.inRegion (opsOf (cA Fb)) (1 :: [2,3,4,5,6]),.code (cB Fb)]/\b.fn=23/\b.kind=.normal/\a.defers= []/\a.tmps.size=33
theorem VT:Fb=.seq (.region 8 (opsOf (cA Fb)) false) (cB Fb):=by kernel_rfl
theorem OD:List.range (opsOf (cA Fb)).size= [0,1,2,3,4,5,6]:=by kernel_rfl
theorem Z6:∃o,(opsOf (cA Fb))[0]?=some o/\o.guard=none/\o.dst=some 27/\o.op=.move (.tmp 7):=by refine⟨((opsOf (cA Fb))[0]?).getD default,?_,?_,?_,?_⟩ <;>kernel_rfl
theorem Ui:∃o,(opsOf (cA Fb))[1]?=some o/\o.guard=none/\o.dst=some 28/\∃cl:Call,o.op=.call cl/\cl.callee=.value (.func 44)/\cl.args=#[.tmp 27]:=by refine⟨((opsOf (cA Fb))[1]?).getD default,?_,?_,?_,(match (((opsOf (cA Fb))[1]?).getD default).op with|.call cl=>cl|_=>default),?_,?_,?_⟩ <;>kernel_rfl
theorem run_move{x:Operand}(h:o.op=.move x)(w:World):(execOp a.eval o).run P w=.ok (.value (a.eval x)) w:=by unfold execOp;rw[h];rfl
theorem BN{f:FuncId}{fn:Func}{c:Code}{cl:Call}(h1:o.op=.call cl)(h2:cl.callee=.value (.func f))(g1:P.funcs[f]?=some fn)(g2:(fn.name == "runtime.NumGoroutine")=false)(g3:fn.body=some c)(w:World):(execOp a.eval o).run P w=.ok (.enter f (cl.args.map a.eval)) w:=by
 have e:execOp a.eval o=callFunc f (cl.args.map a.eval):=by unfold execOp;rw[h1];simp only[resolve,h2,Act.eval,Deferred.ofValue];show invoke (.fn (.func f) #[]) (#[]++cl.args.map _)=_;simp[invoke]
 rw[e,<-Sem.runT_fst P _ w #[],fP g1 g2 g3]
theorem Sl(h7:a.tmps[7]?=some v)(hs:a.tmps.size=33)(h:To Tryz.prog Q (Frame.enter Tryz.prog 44 #[v] .normal) (b.at (a.put (some 27) v) [.inRegion (opsOf (cA Fb)) (1 :: [2,3,4,5,6]),.code (cB Fb)] :: c) w):To Tryz.prog Q (b.at a [.code Fb]) c w:=by
 rw[VT];refine .step (fun _=>step_seq) (.region ?_);rw[OD];obtain⟨o0,q1,q2,q3,q4⟩:=Z6;obtain⟨o1,r1,r2,r3,cl,r4,r5,r6⟩:=Ui;refine To.op q1 (mR q2 _) (run_move q4 _) ?_;rw[q3];have e7:a.eval (.tmp 7)=v:=by simp[Act.eval,Array.getD_eq_getD_getElem?,h7]
 rw[e7];refine To.enter r1 (mR r2 _) (BN r4 r5 Tryz.func44 (by kernel_rfl) rfl _) ?_;have e27:cl.args.map (a.put (some 27) v).eval=#[v]:=by rw[r6];simp[Act.eval,Act.put,Array.getD_eq_getD_getElem?,hs]
 rw[e27];exact h
section
variable {w:World}{τ:Nat->Tag}{aD b:Nat}{s:MS}{A:SA}
structure Ig(w:World)(τ:Nat->Tag)(aD b:Nat)(s:MS)(A:SA)(i:Nat)(r:MR)(Sb:Nat->Prop)(c:List Frame)(fr:Frame)(c':List Frame)(w':World):Prop where
 intro ::
 ex:∃(bf:Frame) (a:Act) (ab ba bc wg:Nat) (ms:List Int) (cv:Value) (fF:Frame),fr=bf.at a [.code yp]/\bf.fn=44/\bf.kind=.normal/\c'=fF :: c/\VN fF/\Ap a (A.R.pr i) ba bc wg 0/\bH w w' τ aD b s A i r ab ba bc wg ms cv Sb/\aW w' τ aD b (Fc s i r) A/\Stp aD τ w τ w'
theorem LF(h:aW w τ aD b s A)(n:Int)(hn: -9223372036854775808<=n)(hn':n<=9223372036854775807)(r:MR)(hf:gN s n=some r)(ha:iG r=true)(Sb:Nat->Prop)(Zn:∀k,Sb k->k<w.heap.size/\(τ k).1≠aD)(c:List Frame):
 To Tryz.prog (Ig w τ aD b s A (n-1).toNat r Sb c) (Frame.enter Tryz.prog 23 #[ptr b,.int .i64 n] .normal) c w:=by
 have LG:=nZ h n hn hn';obtain⟨h1,h2,hr,hc⟩:=pO hf;have hv:fQ s A n=(ptr (A.R.pr (n-1).toNat),true):=by unfold fQ;rw[hf]
 rw[hv]at LG;obtain⟨i,hi⟩:∃i:Nat,(n-1).toNat=i:=⟨_,rfl⟩
 have hni:n=(i:Int)+1:=by omega
 subst hni;rw[hi]at hr LG⊢;have c2:∀w1,u6 w w1->Calls Tryz.prog 42 #[ptr (A.R.pr i)] w1 fun e w'=>e=.returned (.bool true)/\Below w1.heap.size w1 w':=fun w1 hS=>by have:=pP (h.same hS) hr hc;rw[ha]at this;exact this
 have VU:dc s.rs A.R (.int .i64 ((i:Int)+1))=some (ptr (A.R.pr i)):=by have h9:fO s.rs ((i:Int)+1)=some r:=hf;simp only[dc,h9,hi]
 have Z7:∀(j:Nat) (x:ByteArray),r.keys[j]?=some x->yl (A.R.ts i j):=fun j x hx=>by
  cases hv:A.R.hv i j with
  |false=>rw[(h.told.t0 i r j x hr hc hx hv).2];exact .inl rfl
  |true=>
   obtain⟨m,hm,_,t2⟩:=h.told.tv i r j x hr hc hx hv;rw[t2];exact h.told.sv _ m hm
 have c3:∀w2:World,aW w2 τ aD b s A->Calls Tryz.prog 43 #[ptr b,.int .i64 ((i:Int)+1)] w2 fun e w'=>e=.returned (.bool true)/\aW w' τ aD b (Fc s i r) A/\Stp aD τ w2 τ w'/\Seen w' A i r/\(∀k,k≠A.R.rm->w'.heap[k]?=w2.heap[k]?)/\w'.heap.size=w2.heap.size:=fun w2 h2'=>by
  have:=pQ b A.R.rm _ _ h2'.blk rfl rfl h2'.reads.qR ((i:Int)+1) hn hn';rw[VU]at this;refine this.mono ?_;rintro e w3 ⟨rfl,G0,lU⟩;have hne:∀{k g g':Nat},τ k=(aD,g,g')->g≠10->w3.heap[k]?=w2.heap[k]? :=fun ht hg=>lU.block _ (fun e=>by rw[e,h2'.reads.gS]at ht;simp at ht;omega);obtain⟨k1,k2,k3,k4⟩:=h2'.ok.keys i r hr;refine⟨rfl,h2'.fin hr hc lU.block G0,⟨lU.os,lU.tape,lU.output,Nat.le_of_eq lU.size.symm,fun _ _=>rfl,fun k _ hk=>lU.block k (fun e=>hk (by rw[e,h2'.reads.gS]))⟩,⟨k4,k1,k2,fun x hx=>(dG (k3 x hx)).2,?_,?_,fun j x hx=>⟨ptr (A.pb (partOf s.parts x).toNat),?_⟩,?_,Z7⟩,lU.block,lU.size⟩
  ·exact(h2'.reads.rd i r hr hc).of_eq (hne (h2'.reads.iI i r hr hc) (by omega))
  ·exact(h2'.reads.u5 i r hr hc).of_eq (hne (h2'.reads.l5 i r hr hc) (by omega))
  ·exact(h2'.reads.q i r j x hr hc hx).of_eq (hne (h2'.reads.lA i r j x hr hc hx) (by omega))
  ·exact ak (h2'.reads.ky i r hr hc) (fun k hk=>hne (h2'.reads.dF i r k hr hc hk) (by omega))
 have H0:Hid (aW w τ aD b s A):=h;have HR:Hid (s.rs[i]?=some r):=hr;have HSB:Hid (∀k,Sb k->k<w.heap.size/\(τ k).1≠aD):=Zn;unfold ptr at LG c2 c3⊢;clear hf hv ha VU h hi h1 h2 hr Z7 Zn;have HN:∃m:Int,(i:Int)+1=m:=⟨_,rfl⟩
 obtain⟨m,hm⟩:=HN;rw[hm]at LG c3 hn hn'⊢;clear hm;rw[enter_at Tryz.func23 rfl];walk_nrmf Tryz.ntmps23;refine To.gP fun K hK=>?_;go_wp2_with fail
 refine To.gP fun K hK=>?_;go_wp2_with fail
 refine LG.mono ?_;rintro e w1 ⟨rfl,hS⟩;have d2:=c2 w1 hS;have HR1:Hid (aW w1 τ aD b s A):=H0.out.same hS;clear LG c2;go_wp2_with fail
 refine To.gP fun K hK=>?_;go_wp2_with fail
 refine To.gP fun K hK=>?_;go_wp2_with fail
 refine d2.mono ?_;rintro e w2 ⟨rfl,hB⟩;have HR2:Hid (aW w2 τ aD b s A):=HR1.out.below hB;have d3:=c3 w2 HR2.out;clear d2 c3;go_wp2_with fail
 refine To.gP fun K hK=>?_;go_wp2_with fail
 refine d3.mono ?_;rintro e w3 ⟨rfl,RY,Em,Rg,hE3,hz3⟩;clear d3;go_wp2_with fail
 refine Sl (v:=.pointer (some ⟨A.R.pr i,0,none⟩)) rfl rfl ?_;refine(LD Rg _).then ?_
 rintro fr c' w' ⟨rfl,bf,a,ab,ba,bc,wg,ms,cv,rfl,iR,kQ,hl,hF⟩;refine To.done ⟨bf,a,ab,ba,bc,wg,ms,cv,_,rfl,iR,kQ,rfl,⟨_,_,rfl,rfl,rfl,rfl,?_⟩,hl,?_,RY.below hF.below,?_⟩
 ·rfl
 ·have qQ:w1.heap.size=w.heap.size:=by rw[hS.heap]
  have w8:=hB.size;have ho:=hF.ord;refine⟨H0.out,HR.out,hc,fun k hk hne=>?_,hF.NS,hF.R8,hF.R9,hF.cand,yI hF.row (by omega),hF.GZ,⟨by omega,ho.2⟩,hF.Sa,HSB.out⟩;rw[hF.below.block k (by omega),hE3 k hne,hB.block k (by omega),hS.heap]
 ·exact((hS.nG _ _).trans (iw hB)).trans (Em.trans (iw hF.below))
end
theorem Sm(T:Array Value)(h:T.size=33):∃f:Nat->Value,T=#[f 0,f 1,f 2,f 3,f 4,f 5,f 6,f 7,f 8,f 9,f 10,f 11,f 12,f 13,f 14,f 15,f 16,f 17,f 18,f 19,f 20,f 21,f 22,f 23,f 24,f 25,f 26,f 27,f 28,f 29,f 30,f 31,f 32]:=⟨fun i=>T.toList.getD i undef,oV T 33 h⟩
theorem Sn:List.range' 2 ((opsOf (cA Fb)).toList.drop 2).length= [2,3,4,5,6]:=by kernel_rfl
theorem Sf(hF:VN fF){sl:Value}{n:Int}(h:∀fr:Frame,fr.fn=23->fr.leaving Tryz.prog w (.returned (.tuple #[sl,.int .i64 n,.int .i64 0]))->To Tryz.prog Q fr c w):To Tryz.prog Q (fF.finish (.tuple #[sl,.int .i64 n])) c w:=by
 obtain⟨b,⟨tms,EF⟩,rfl,hb,hk,hd,hs⟩:=hF;simp only at hd hs;subst hd;obtain⟨o1,r1,r2,r3,cl,r4,r5,r6⟩:=Ui;rw[yG r1,r3,<-Sn];refine To.T9 fun K hK=>?_;rw[yF];obtain⟨f,rfl⟩:=Sm tms hs;dsimp only[Fb,fnBody,cA,cB,opsOf,Tryz.f23,Option.getD_some,Act.put];simp only[List.drop];go_wp2_with fail
 clear r1 r2 r3 r4 r5 r6 hs;refine To.last (R:=fun a' w'=>w'=w/\a'.defers= []/\a'.tmps.getD 4 undef=sl/\a'.tmps.getD 5 undef=.int .i64 n/\a'.tmps.getD 6 undef=.int .i64 0) ?_ rfl ?_
 ·dsimp only[Fb,fnBody,cA,cB,opsOf,Tryz.f23,Option.getD_some];go_wp2_with fail
 ·rintro a' todo w' ⟨rfl,d0,q4,q5,q6⟩;refine h _ hb ⟨rfl,d0,hk,Tryz.f23,by show Tryz.prog.funcs[b.fn]?=_;rw[hb];exact Tryz.func23,?_⟩;rw[<-q4,<-q5,<-q6];simp[results,Frame.at]
end
section
open Go Go.RowKit Go.MuLone Go.Conc
noncomputable def yL:Code:=Tryz.f8.body.getD .skip
noncomputable def CP:Code:=cB (cB (cB (cB (cB (cB (cB (cB (cB (cB yL)))))))))
def ZQ(fr:Frame)(B lb kg n bC:Nat):Prop:=∃(b:Frame) (a:Act),fr=b.at a [.inRegion (opsOf (cA CP)) (2 :: [3,4,5,6,7,8,9]),.code (cB CP)]/\b.fn=8/\b.kind=.normal/\a.defers= []/\a.tmps.size=195/\a.tmps[20]?=some (.int .i64 B)/\a.tmps[21]?=some (.slice (some ⟨kg,0,none⟩) n bC)/\a.tmps[23]?=some (.int .i64 0)/\a.tmps[11]?=some (.pointer (some ⟨lb,0,none⟩))
theorem V0:CP=.seq (.region 35 (opsOf (cA CP)) false) (cB CP):=by kernel_rfl
theorem OS:List.range (opsOf (cA CP)).size= [0,1,2,3,4,5,6,7,8,9]:=by kernel_rfl
theorem aae:∃o,(opsOf (cA CP))[0]?=some o/\o.guard=none/\o.dst=some 121/\o.op=.move (.tmp 9):=by refine⟨((opsOf (cA CP))[0]?).getD default,?_,?_,?_,?_⟩ <;>kernel_rfl
theorem aaf:∃o,(opsOf (cA CP))[1]?=some o/\o.guard=none/\o.dst=some 122/\o.op=.move (.tmp 22):=by refine⟨((opsOf (cA CP))[1]?).getD default,?_,?_,?_,?_⟩ <;>kernel_rfl
theorem Ub:∃o,(opsOf (cA CP))[2]?=some o/\o.guard=none/\o.dst=some 123/\∃cl:Call,o.op=.call cl/\cl.callee=.value (.func 23)/\cl.args=#[.tmp 121,.tmp 122]:=by refine⟨((opsOf (cA CP))[2]?).getD default,?_,?_,?_,(match (((opsOf (cA CP))[2]?).getD default).op with|.call cl=>cl|_=>default),?_,?_,?_⟩ <;>kernel_rfl
theorem St{u:Value}(h9:a.tmps[9]?=some v)(Yk:a.tmps[22]?=some u)(hs:a.tmps.size=195)
 (h:To Tryz.prog Q (Frame.enter Tryz.prog 23 #[v,u] .normal) (b.at ((a.put (some 121) v).put (some 122) u) [.inRegion (opsOf (cA CP)) (2 :: [3,4,5,6,7,8,9]),.code (cB CP)] :: c) w):To Tryz.prog Q (b.at a [.code CP]) c w:=by
 rw[V0];refine .step (fun _=>step_seq) (.region ?_);rw[OS];obtain⟨o0,q1,q2,q3,q4⟩:=aae;obtain⟨o1,p1,p2,p3,p4⟩:=aaf;obtain⟨o2,r1,r2,r3,cl,r4,r5,r6⟩:=Ub;refine To.op q1 (mR q2 _) (run_move q4 _) ?_;rw[q3];have e9:a.eval (.tmp 9)=v:=by simp[Act.eval,Array.getD_eq_getD_getElem?,h9]
 rw[e9];refine To.op p1 (mR p2 _) (run_move p4 _) ?_;rw[p3];have e22:(a.put (some 121) v).eval (.tmp 22)=u:=by simp[Act.eval,Act.put,Array.getD_eq_getD_getElem?,Yk]
 rw[e22];refine To.enter r1 (mR r2 _) (BN r4 r5 Tryz.func23 (by kernel_rfl) rfl _) ?_;have e:cl.args.map ((a.put (some 121) v).put (some 122) u).eval=#[v,u]:=by rw[r6];simp[Act.eval,Act.put,Array.getD_eq_getD_getElem?,hs]
 rw[e];exact h
structure aeG(w0:World)(bf:Nat->Nat)(k B:Nat)(fr:Frame)(c':List Frame)(w':World):Prop where
 intro ::
 ex:∃(P:Nat) (M:Int) (τ:Nat->Tag) (sb xb lb kg bC:Nat) (A:SA) (wf:World) (fW:Frame),su w0 wf τ sb xb lb (nJ P M bf k [gR (aA B) (fun x=>lQ bf x k) 0]) A (fun j=>wZ bf j k)/\
  ZQ fW B lb kg (aA B).length bC/\(∀(j:Nat) (x:ByteArray),(aA B)[j]?=some x->wf.cell? ⟨kg,j,none⟩=some (.string x))/\kg<wf.heap.size/\(τ kg).1=0/\
  Ig wf τ 2 sb (nJ P M bf k [gR (aA B) (fun x=>lQ bf x k) 0]) A 0 (gR (aA B) (fun x=>lQ bf x k) 0) (fun _=>False) [fW] fr c' w'
def yO(w:World)(fr:Frame)(c:List Frame)(w':World):Prop:=∃(bf:Nat->Nat) (k B:Nat),k<=30/\(∀i,1<=bf i/\bf i<64)/\1<=B/\B<64/\aeG w bf k B fr c w'
theorem E5(T:Array Value)(h:T.size=195):∃f:Nat->Value,T=#[f 0,f 1,f 2,f 3,f 4,f 5,f 6,f 7,f 8,f 9,f 10,f 11,f 12,f 13,f 14,f 15,f 16,f 17,f 18,f 19,f 20,f 21,f 22,f 23,f 24,f 25,f 26,f 27,f 28,f 29,f 30,f 31,f 32,f 33,f 34,f 35,f 36,f 37,f 38,f 39,f 40,f 41,f 42,f 43,f 44,f 45,f 46,f 47,f 48,f 49,f 50,f 51,f 52,f 53,f 54,f 55,f 56,f 57,f 58,f 59,f 60,f 61,f 62,f 63,f 64,f 65,f 66,f 67,f 68,f 69,f 70,f 71,f 72,f 73,f 74,f 75,f 76,f 77,f 78,f 79,f 80,f 81,f 82,f 83,f 84,f 85,f 86,f 87,f 88,f 89,f 90,f 91,f 92,f 93,f 94,f 95,f 96,f 97,f 98,f 99,f 100,f 101,f 102,f 103,f 104,f 105,f 106,f 107,f 108,f 109,f 110,f 111,f 112,f 113,f 114,f 115,f 116,f 117,f 118,f 119,f 120,f 121,f 122,f 123,f 124,f 125,f 126,f 127,f 128,f 129,f 130,f 131,f 132,f 133,f 134,f 135,f 136,f 137,f 138,f 139,f 140,f 141,f 142,f 143,f 144,f 145,f 146,f 147,f 148,f 149,f 150,f 151,f 152,f 153,f 154,f 155,f 156,f 157,f 158,f 159,f 160,f 161,f 162,f 163,f 164,f 165,f 166,f 167,f 168,f 169,f 170,f 171,f 172,f 173,f 174,f 175,f 176,f 177,f 178,f 179,f 180,f 181,f 182,f 183,f 184,f 185,f 186,f 187,f 188,f 189,f 190,f 191,f 192,f 193,f 194]/\∀i v,T[i]?=some v->f i=v:=⟨fun i=>T.toList.getD i undef,oV T 195 h,fun i v hv=>by simp[hv]⟩
structure LL(w:World)(τ:Nat->Tag)(kg:Nat)(L:List ByteArray):Prop where
 lt:kg<w.heap.size
 tag:(τ kg).1=0
 cell:∀(j:Nat) (x:ByteArray),L[j]?=some x->w.cell? ⟨kg,j,none⟩=some (.string x)
theorem LL.step{w':World}{τ':Nat->Tag}{L:List ByteArray}(h:LL w τ kg L)(hs:Stp 2 τ w τ' w'):LL w' τ' kg L:=
 ⟨zcj h.lt hs.size,by rw[hs.tag kg h.lt];exact h.tag,fun j x hx=>(zcl (w:=w) (a:=⟨kg,j,none⟩) (hs.block kg h.lt (by rw[h.tag];decide))).trans (h.cell j x hx)⟩
theorem LL.set{q o:Nat}{L:List ByteArray}(h:LL w τ kg L)(hq:(τ q).1=1):LL (w.setCell ⟨q,o,none⟩ v) τ kg L:=
 ⟨by simpa[World.setCell]using h.lt,h.tag,fun j x hx=>(zcl (w:=w) (a:=⟨kg,j,none⟩) (Below.heap_setCell _ _ _ _ (fun e=>by have e':kg=q:=e;rw[<-e',h.tag]at hq;cases hq))).trans (h.cell j x hx)⟩
theorem Fe:∀b,1<=b->b<64->iH (aA b)=0:=by
 have:∀b,b<64->(1<=b->iH (aA b)=0):=by decide+kernel
 exact fun b h1 h2=>this b h2 h1
noncomputable def aag:Code:=cB (cB (cB (cB (cB (cB yL)))))
section
variable {w wr:World}
theorem wo(hb:b.fn=8)(hkd:b.kind=.normal)(hd:a.defers= [])(hs:a.tmps.size=195)(read:Int)(h1: -9223372036854775808<=read)(h2:read<=9223372036854775807)(g1:a.tmps[1]?=some (.int .i64 read))(g9:a.tmps[9]?=some (ptr sb))(Ou:a.tmps[11]?=some (ptr lb))
 {P:Nat} {M:Int} {bf:Nat->Nat} {k:Nat} {τ:Nat->Tag} {A:SA} (Ic:k<=30) (Hv:∀i,1<=bf i/\bf i<64) (hM:su w wr τ sb xb lb (nJ P M bf k []) A (fun j=>wZ bf j k)):
 To Tryz.prog (yO w) (b.at a [.code aag]) [] wr:=by
 have HM:Hid (su w wr τ sb xb lb (nJ P M bf k []) A (fun j=>wZ bf j k)):=hM;have Uc:Hid (∀i,1<=bf i/\bf i<64):=Hv;have Su:0<P:=hM.rep.ok.p1;obtain⟨B0,uQ,hBB⟩:=uV read 63 (by omega);rw[show ((63:Nat):Int)=63 from rfl]at hBB;have VY:=qv read 63 wr h1 h2 (by omega) (by omega);rw[hBB]at VY;obtain⟨OM,OO,OP,VZ⟩:=uT (B0+1) (by omega);have XC:Hid _:=OM;have Ud:Hid _:=OO;have HNX:Hid (∀x∈aA (B0+1),x≠kx):=LJ (B0+1) (by omega);have KQ:=OP (by omega);have ck:=EO (w:=wr) (B0+1);rw[show ((B0+1:Nat):Int)=1+(B0:Int)from by omega]at ck;obtain⟨tms,EF⟩:=a;simp only at hd hs g1 g9 Ou;subst hd;obtain⟨fv,hT,aj⟩:=E5 tms hs;replace g1:=aj 1 _ g1;replace g9:=aj 9 _ g9;replace Ou:=aj 11 _ Ou;clear hs aj OM OO OP hM Hv hBB;subst hT;simp only[g1,g9,Ou];clear g1 g9 Ou;unfold ptr;dsimp only[aag,yL,cB,Tryz.f8,Option.getD_some];refine To.gP fun K hK=>?_;go_wp2_with fail
 refine VY.mono ?_;rintro e w3 ⟨rfl,rfl⟩;clear VY;go_wp2_with fail
 refine To.gP fun K hK=>?_;go_wp2_with fail
 refine ck.mono ?_;rintro e wk ⟨kvl,rfl,hrow,hBk⟩;clear ck;obtain⟨kg,bC,yR,Ss,aad,mG,-⟩:=dJ hrow (by omega);have AI:kg<wk.heap.size:=(aR hrow kg (by rw[yR];rfl)).2;have OQ:w3.heap.size<=kg:=(aR hrow kg (by rw[yR];rfl)).1;subst yR;have Lv:Hid _:=HM.out.fresh hBk;have XD:Hid (LL wk (fresh τ w3.heap.size) kg (aA (B0+1))):=⟨AI,by unfold fresh;rw[if_pos OQ],fun j x hx=>by have hj:=aE hx;rw[mG j (by omega),List.getElem?_map,hx];rfl⟩
 generalize fresh τ w3.heap.size=τ2 at *;have c1:=TZ Lv.out.rep (some ⟨kg,0,none⟩) bC (L:=aA (B0+1)) (by unfold maxLen;omega) Ss aad (fun x hx=>by have:=(dG (Ud.out x hx)).2;unfold maxLen;omega) (fun j x hx=>⟨kg,0,rfl,by rw[Nat.zero_add];exact XD.out.cell j x hx⟩) (fun ib io e=>by cases e;rw[XD.out.tag];decide) (by show 0<_;omega);rw[Sq (v:=fun x=>lQ bf x k) (Fe _ (by omega) (by omega))]at c1;unfold ptr at c1;obtain⟨Ln,Lz⟩:∃Ln,(aA (B0+1)).length=Ln:=⟨_,rfl⟩
 have HLN:Hid ((aA (B0+1)).length=Ln):=Lz;rw[Lz]at c1 KQ VZ Ss⊢;clear hrow hBk mG HM AI OQ;go_wp2_with fail
 refine To.gP fun K hK=>?_;go_wp2_with fail
 refine c1.mono ?_;rintro e wb ⟨τb,A2,rfl,ZA,hPb⟩;clear c1;have HM3:Hid (su w wb τb sb xb lb (nJ P M bf k [gR (aA (B0+1)) (fun x=>lQ bf x k) Ln]) A2 (fun j=>wZ bf j k)/\LL wb τb kg (aA (B0+1))):=⟨Lv.out.step ZA hPb,XD.out.step hPb⟩
 clear ZA hPb Lv XD Lz;go_wp2_with fail
 refine To.gP fun K hK=>?_;go_wp2_with fail
 go_loopw [24] (fun u wr=>∃(m:Nat) (A':SA),m<=Ln/\u=.int .i64 ((m:Int)-1)/\Hid (su w wr τb sb xb lb (nJ P M bf k [gR (aA (B0+1)) (fun x=>lQ bf x k) m]) A' (fun j=>wZ bf j k)/\LL wr τb kg (aA (B0+1)))) (fun u _=>(intOf u+1).toNat)
 case atStart=>exact⟨Ln,A2,zci _,rfl,HM3⟩
 case round=>
  obtain⟨m,A3,hm,rfl,HM⟩:=hrel;clear HM3;by_cases h0:0<m
  ·obtain⟨m,rfl⟩:∃m',m=m'+1:=⟨m-1,by omega⟩
   have Lz:=HLN.out;have hx:(aA (B0+1))[m]?=some (aA (B0+1))[m]:=zck (by omega);have ck:=HM.out.2.cell m _ hx;have Rf:(aA (B0+1))[m]∈aA (B0+1):=List.getElem_mem _;generalize (aA (B0+1))[m]=x at *;have hz:=(dG (Ud.out x Rf)).2;have c2:=Zp HM.out.1.rep 1 x (by unfold maxLen;omega) (by omega) (by omega);rw[VX XC.out hx (Im Su (HNX.out x Rf))]at c2;unfold ptr at c2;have q0:(0:Int)<=((m+1:Nat):Int)-1:=by omega
   have q1:(((m+1:Nat):Int)-1).toNat=m:=by omega
   have q2:((m+1:Nat):Int)-1=(m:Int):=by omega
   have q3:(m:Int)<Ln:=by omega
   rw[q2];clear hx Rf Lz;go_wp2_with fail
   refine c2.mono ?_;rintro e wc ⟨A4,rfl,ZB,Nb⟩;clear c2;have HM4:Hid (su w wc τb sb xb lb (nJ P M bf k [gR (aA (B0+1)) (fun x=>lQ bf x k) m]) A4 (fun j=>wZ bf j k)/\LL wc τb kg (aA (B0+1))):=⟨HM.out.1.step ZB Nb,HM.out.2.step Nb⟩
   clear ZB Nb HM ck;go_wp2_with fail
   go_roundw
   case rel=>exact⟨m,A4,by omega,by go_num,HM4⟩
   case measure=>simp[intOf]
  ·have hm0:m=0:=by omega
   subst hm0;go_wp2_with fail
   refine St (v:=.pointer (some ⟨sb,0,none⟩)) (u:=.int .i64 1) rfl rfl rfl ?_;have ht:=LF HM.out.1.rep 1 (by omega) (by omega) (gR (aA (B0+1)) (fun x=>lQ bf x k) 0) rfl OK (fun _=>False) (fun _ h=>h.elim);refine(ht _).then ?_
   rintro fr c' w' hA;refine To.done ⟨bf,k,B0+1,Ic,Uc.out,by omega,by omega,⟨P,M,τb,sb,xb,lb,kg,bC,A3,wr,_,HM.out.1,⟨b,_,rfl,hb,hkd,rfl,rfl,?_,?_,rfl,rfl⟩,HM.out.2.cell,HM.out.2.lt,HM.out.2.tag,hA⟩⟩
   ·rw[show ((B0+1:Nat):Int)=1+(B0:Int)from by omega];rfl
   ·rw[HLN.out];rfl
end
end
section
open Go Go.RowKit Go.MuLone Go.Conc
theorem su.congr{w0:World}{lv lv':Nat->Nat}(h:su w0 w τ sb xb lb s A lv)(he:∀i,i<6->lv i=lv' i):su w0 w τ sb xb lb s A lv':=by
 have e:AF lv=AF lv':=by unfold AF;rw[he 0 (by omega),he 1 (by omega),he 2 (by omega),he 3 (by omega),he 4 (by omega),he 5 (by omega)]
 exact⟨h.rep,h.env,h.x,h.C2,by rw[<-e];exact h.last,h.jH⟩
section
variable {w:World}
theorem LC(oa:Option Addr)(LA:Nat)(O:List Int)(hO:∀(j:Nat) (z:Int),O[j]?=some z->∃ob oo,oa=some ⟨ob,oo,none⟩/\ob<w.heap.size/\w.cell? ⟨ob,oo+j,none⟩=some (.int .i64 z)/\-9223372036854775808<=z/\z<=9223372036854775807)
 (read parts mode:Int) (h1: -9223372036854775808<=read) (h2:read<=9223372036854775807) (h3: -9223372036854775808<=parts) (h4:parts<=9223372036854775807) (h5: -9223372036854775808<=mode) (h6:mode<=9223372036854775807):
 To Tryz.prog (yO w) (Frame.enter Tryz.prog 8 #[.slice oa O.length LA,.int .i64 read,.int .i64 parts,.int .i64 mode] .normal) [] w:=by
 obtain⟨p0,hp0,hpp⟩:=uV parts 4 (by omega);rw[show ((4:Nat):Int)=4 from rfl]at hpp;have hE:Env w w (fun _=>(0,0,0)):=⟨Below.refl _ _,fun _ _=>rfl⟩
 have c3:=Lg hE parts mode h3 h4 h5 h6;rw[hpp,show (1+(p0:Int)).toNat=p0+1 from by omega]at c3;generalize 1+eY mode 3=M at c3;have HO:Hid (∀(j:Nat) (z:Int),O[j]?=some z->∃ob oo,oa=some ⟨ob,oo,none⟩/\ob<w.heap.size/\w.cell? ⟨ob,oo+j,none⟩=some (.int .i64 z)/\-9223372036854775808<=z/\z<=9223372036854775807):=hO;let bf:Nat->Nat:=fun i=>(1+eY (O.getD i 0) 63).toNat;have Uc:Hid (∀i,1<=bf i/\bf i<64):=fun i=>by obtain⟨b1,b2⟩:=td (O.getD i 0) 63 (by omega);show 1<=(1+eY (O.getD i 0) 63).toNat/\(1+eY (O.getD i 0) 63).toNat<64;omega
 have HBI:Hid (∀(i:Nat) (z:Int),O[i]?=some z->(bf i:Int)=1+eY z 63):=fun i z hz=>by
  obtain⟨b1,b2⟩:=td (O.getD i 0) 63 (by omega);have e:O.getD i 0=z:=by simp[List.getD,hz]
  show (((1+eY (O.getD i 0) 63).toNat:Nat):Int)=_;rw[e]at b1 b2⊢;omega
 clear_value bf;unfold ptr at c3;clear hE hO h3 h4 h5 h6 hpp;rw[enter_at Tryz.func8 rfl];walk_nrmf Tryz.ntmps8;refine To.gP fun K hK=>?_;go_wp2_with fail
 refine To.gP fun K hK=>?_;go_wp2_with fail
 refine c3.mono ?_;rintro e wa ⟨τa,sb,A,rfl,hS,Q8⟩;clear c3;have HM0:Hid (su w ((wa.alloc (.cells #[ptr sb,dV,dV] 32)).alloc (.cells #[.int .i64 0,.int .i64 0,.int .i64 0,.int .i64 0,.int .i64 0,.int .i64 0] 64)) (fun q=>if q=wa.heap.size then(1,21,0)else if q=wa.heap.size+1 then(1,23,0)else τa q) sb wa.heap.size (wa.heap.size+1) (nJ (p0+1) M bf 0 []) A (fun j=>wZ bf j 0)):=by
  have ht:∀q,q<wa.heap.size->(if q=wa.heap.size then((1,21,0):Tag)else if q=wa.heap.size+1 then(1,23,0)else τa q)=τa q:=fun q hq=>by rw[if_neg (by omega),if_neg (by omega)]
  have hsz:=Q8.below.size;have hal:∀q,q<wa.heap.size->((wa.alloc (.cells #[ptr sb,dV,dV] 32)).alloc (.cells #[.int .i64 0,.int .i64 0,.int .i64 0,.int .i64 0,.int .i64 0,.int .i64 0] 64)).heap[q]?=wa.heap[q]? :=fun q hq=>(zch _ _ _ (by simp;omega)).trans (zch _ _ _ hq);refine⟨hS.frame (fun q hq _=>⟨hal q hq,ht q hq⟩),⟨(Q8.below.alloc hsz _).alloc (by simp;omega) _,fun q hq=>by rw[ht q (by omega)];exact Q8.yt q hq⟩,(aT.new wa _ _).of_eq (zch _ _ _ (by simp)),by simp,?_,by simp⟩;have:=aT.new (wa.alloc (.cells #[ptr sb,dV,dV] 32)) #[.int .i64 0,.int .i64 0,.int .i64 0,.int .i64 0,.int .i64 0,.int .i64 0] 64;simpa[AF,wZ]using this
 unfold ptr dV at HM0;clear hS Q8;go_wp2_with fail
 refine To.gP fun K hK=>?_;go_wp2_with fail
 refine To.gP fun K hK=>?_;go_wp2_with fail
 refine To.gP fun K hK=>?_;go_wp2_with fail
 generalize hxb:wa.heap.size=xb at *;generalize ((wa.alloc (.cells #[.pointer (some ⟨sb,0,none⟩),.slice none 0 0,.slice none 0 0] 32)).alloc (.cells #[.int .i64 0,.int .i64 0,.int .i64 0,.int .i64 0,.int .i64 0,.int .i64 0] 64))=wx at *;generalize (fun q=>if q=xb then((1,21,0):Tag)else if q=xb+1 then(1,23,0)else τa q)=τx at *;clear hxb;refine To.gP fun K hK=>?_;go_wp2_with fail
 go_loopw [12] (fun u wr=>∃(k:Nat) (τ:Nat->Tag) (A':SA),k<=O.length/\k<=30/\u=.int .i64 k/\Hid (su w wr τ sb xb (xb+1) (nJ (p0+1) M bf k []) A' (fun j=>wZ bf j k))) (fun u _=>30-(intOf u).toNat)
 case atStart=>exact⟨0,τx,A,zcm _,by omega,rfl,HM0⟩
 case round=>
  obtain⟨k,τ,A1,hkO,Ic,rfl,HM⟩:=hrel;by_cases hlt:k<O.length/\k<30
  ·obtain⟨Z9,ahf⟩:=hlt;have q0:(k:Int)< (O.length:Int):=by omega
   have q1:(k:Int)<30:=by omega
   obtain⟨ob,oo,rfl,Sr,hoc,LK,OL⟩:=HO.out k _ (zck Z9);have hbz:=HBI.out k _ (zck Z9);generalize O[k]=z at *;have VY:=qv z 63 wr LK OL (by omega) (by omega);have oc1:wr.cell? ⟨ob,oo+k,none⟩=some (.int .i64 z):=(HM.out.env.below.cell (p:=⟨ob,oo+k,none⟩) Sr).trans hoc;obtain⟨pz,hpz,hpe⟩:=uV z 63 (by omega);rw[show ((63:Nat):Int)=63 from rfl]at hpe;rw[hpe]at VY hbz;obtain⟨iR,kQ⟩:=Uc.out k;have ck:=EO (w:=wr) (bf k);obtain⟨OM,OO,OP,VZ⟩:=uT (bf k) kQ;have XC:Hid _:=OM;have Ud:Hid _:=OO;have KQ:=OP iR;have HBZ:Hid ((bf k:Int)=1+(pz:Int)):=hbz;rw[hbz]at ck;clear OM OO OP hbz hpe hoc;go_wp2_with fail
   refine VY.mono ?_;rintro e w3 ⟨rfl,rfl⟩;clear VY oc1;go_wp2_with fail
   refine ck.mono ?_;rintro e wk ⟨kvl,rfl,hrow,hBk⟩;clear ck;obtain⟨kg,bC,yR,Ss,aad,mG,-⟩:=dJ hrow (by omega);have AI:kg<wk.heap.size:=(aR hrow kg (by rw[yR];rfl)).2;have OQ:w3.heap.size<=kg:=(aR hrow kg (by rw[yR];rfl)).1;subst yR;have Lv:Hid _:=HM.out.fresh hBk;have HFt:Hid (fresh τ w3.heap.size kg=(0,0,0)):=by unfold Hid fresh;rw[if_pos OQ]
   have hkc:∀(j:Nat) (x:ByteArray),(aA (bf k))[j]?=some x->wk.cell? ⟨kg,j,none⟩=some (.string x):=fun j x hx=>by have hj:=aE hx;rw[mG j (by omega),List.getElem?_map,hx];rfl
   have Zu:Hid _:=hkc;have cw:=Lm Lv.out.rep kg bC (L:=aA (bf k)) KQ (by omega) XC.out Ud.out hkc AI (by rw[HFt.out]) (by rw[tF];omega);rw[tF,show (nJ (p0+1) M bf k []).parts=p0+1 from rfl,OE,show ((2*k:Nat):Int)+2=((2*k+2:Nat):Int)from by omega]at cw;unfold ptr at cw;obtain⟨nn,hnn⟩:∃nn,2*k+2=nn:=⟨_,rfl⟩
   rw[hnn]at cw;have hn0:((nn:Int)== 0)=false:=by simp;omega
   generalize fresh τ w3.heap.size=τ2 at *;obtain⟨Ln,Lz⟩:∃Ln,(aA (bf k)).length=Ln:=⟨_,rfl⟩
   rw[Lz]at cw KQ VZ Ss⊢;clear hrow hBk mG hkc HM;go_wp2_with fail
   refine cw.mono ?_;rintro e w4 ⟨τ4,A4,rfl,hR4,G1⟩;clear cw;have HN5:Hid (LI w (w4.alloc (.cells #[.int .i64 nn,.slice (some ⟨kg,0,none⟩) Ln bC,.bool false,.bool false,.bool false,.bool false] 48)) (fun q=>if q=w4.heap.size then(1,20,0)else τ4 q) sb xb (xb+1) (Nd (p0+1) M bf k 0) A4 (fun j=>wZ bf j k) w4.heap.size nn (.slice (some ⟨kg,0,none⟩) Ln bC) (dS (p0+1) ((aA (bf k)).take 0))/\kg<w4.heap.size/\(τ4 kg).1=0/\∀(j:Nat) (x:ByteArray),(aA (bf k))[j]?=some x->w4.cell? ⟨kg,j,none⟩=some (.string x)):=by
    have h5:=Lv.out.step hR4 G1;have ht:∀q,q<w4.heap.size->(if q=w4.heap.size then((1,20,0):Tag)else τ4 q)=τ4 q:=fun q hq=>by rw[if_neg (by omega)]
    have hsz:=h5.env.below.size;refine⟨⟨h5.frame (h5.rep.frame (fun q hq _=>⟨zch _ _ _ hq,ht q hq⟩)) ⟨h5.env.below.alloc hsz _,fun q hq=>by rw[ht q (by omega)];exact h5.env.yt q hq⟩ (fun q hq _=>⟨zch _ _ _ hq,ht q hq⟩),?_,by simp⟩,zcj AI G1.size,by rw[G1.tag kg AI,HFt.out],fun j x hx=>(zcl (w:=wk) (a:=⟨kg,j,none⟩) (G1.block kg AI (by rw[HFt.out];decide))).trans (Zu.out j x hx)⟩;have:=aT.new w4 #[.int .i64 nn,.slice (some ⟨kg,0,none⟩) Ln bC,.bool false,.bool false,.bool false,.bool false] 48;simpa[iy,uU]using this
   clear hR4 G1 Lv HFt Zu AI OQ;have HN6:Hid (LI w (w4.alloc (.cells #[.int .i64 nn,.slice (some ⟨kg,0,none⟩) Ln bC,.bool false,.bool false,.bool false,.bool false] 48)) (fun q=>if q=w4.heap.size then(1,20,0)else τ4 q) sb xb (xb+1) (Nd (p0+1) M bf k 0) A4 (fun j=>wZ bf j k) w4.heap.size nn (.slice (some ⟨kg,0,none⟩) Ln bC) (dS (p0+1) ((aA (bf k)).take 0))/\LL (w4.alloc (.cells #[.int .i64 nn,.slice (some ⟨kg,0,none⟩) Ln bC,.bool false,.bool false,.bool false,.bool false] 48)) (fun q=>if q=w4.heap.size then(1,20,0)else τ4 q) kg (aA (bf k))):=by obtain⟨a1,a2,a3,a4⟩:=HN5.out;refine⟨a1,by simp;omega,by show (if kg=w4.heap.size then((1,20,0):Tag)else τ4 kg).1=0;rw[if_neg (by omega)];exact a3,fun j x hx=>(zcl (w:=w4) (a:=⟨kg,j,none⟩) (zch _ _ _ a2)).trans (a4 j x hx)⟩
   clear HN5;go_wp2_with fail
   generalize hkb:w4.heap.size=kb at *;generalize w4.alloc (.cells #[.int .i64 nn,.slice (some ⟨kg,0,none⟩) Ln bC,.bool false,.bool false,.bool false,.bool false] 48)=w5 at *;generalize (fun q=>if q=kb then((1,20,0):Tag)else τ4 q)=τ5 at *;clear hkb;go_loopw [17] (fun u wr=>∃(j:Nat) (A':SA),j<=Ln/\u=.int .i64 j/\Hid (LI w wr τ5 sb xb (xb+1) (Nd (p0+1) M bf k j) A' (fun j=>wZ bf j k) kb nn (.slice (some ⟨kg,0,none⟩) Ln bC) (dS (p0+1) ((aA (bf k)).take j))/\LL wr τ5 kg (aA (bf k)))) (fun u _=>Ln-(intOf u).toNat)
   case atStart=>exact⟨0,A4,zcm _,rfl,HN6⟩
   case round=>
    rename World=>Rc
    obtain⟨j,A5,hj,rfl,HN⟩:=hrel;clear HN6;by_cases hjl:j<Ln
    ·have hx:(aA (bf k))[j]?=some (aA (bf k))[j]:=zck (by omega);have Rf:(aA (bf k))[j]∈aA (bf k):=List.getElem_mem _;have HT:Hid ((aA (bf k)).take (j+1)=(aA (bf k)).take j++ [(aA (bf k))[j]]):=List.take_succ_eq_append_getElem _;have ck:=HN.out.2.cell j _ hx;generalize (aA (bf k))[j]=x at *;obtain⟨b1,b2⟩:=eM ((p0+1:Nat):Int) x (by omega);obtain⟨p,hp⟩:∃p:Nat,partOf ((p0+1:Nat):Int) x=p:=⟨(partOf ((p0+1:Nat):Int) x).toNat,by omega⟩
     have HY:p<4:=by omega
     have c4:=EU HN.out.1.rep xb kb _ HN.out.1.x rfl (by rw[HN.out.1.C2];decide) nn (by omega) (.slice (some ⟨kg,0,none⟩) Ln bC) _ HN.out.1.kn (by rw[HN.out.1.vZ];decide) x (Ud.out x Rf) p hp (m:={El (p0+1) (bf k) (2*k+2)with comm:=dS (p0+1) ((aA (bf k)).take j)}) (by rw[<-hnn];exact Sp j) (Z8 Rf hp) VV rfl;rw[<-hnn,LH hx hp]at c4;unfold ptr at c4;have HFO:Hid (put (dS (p0+1) ((aA (bf k)).take j)) p=dS (p0+1) ((aA (bf k)).take (j+1))):=by unfold Hid;rw[HT.out,rX hp]
     have q5:(j:Int)<Ln:=by omega
     clear hx Rf hp b1 b2;go_wp2_with fail
     refine c4.mono ?_;rintro e we ⟨A6,wd,rfl,ZF,Q9,rfl⟩;clear c4;have HN7:Hid (LI w (wd.setCell ⟨kb,2+p,none⟩ (.bool true)) τ5 sb xb (xb+1) (Nd (p0+1) M bf k (j+1)) A6 (fun j=>wZ bf j k) kb nn (.slice (some ⟨kg,0,none⟩) Ln bC) (dS (p0+1) ((aA (bf k)).take (j+1)))/\LL (wd.setCell ⟨kb,2+p,none⟩ (.bool true)) τ5 kg (aA (bf k))):=by have a1:=(HN.out.1.step ZF Q9).known HY;rw[HFO.out]at a1;exact⟨a1,(HN.out.2.step Q9).set (by rw[HN.out.1.vZ])⟩
     clear ZF Q9 HN ck HFO HT;generalize wd.setCell ⟨kb,2+p,none⟩ (.bool true)=we at *;go_wp2_with fail
     go_roundw
     case rel=>exact⟨j+1,A6,by omega,by go_num,HN7⟩
     case measure=>simp[intOf];omega
    ·have hjn:j=Ln:=by omega
     subst hjn;have HM7:Hid (su w Rc τ5 sb xb (xb+1) (nJ (p0+1) M bf (k+1) []) A5 (fun i=>if i<0/\jv (bf k) i=true then nn else wZ bf i k)):=by have a1:=HN.out.1.tosu;rw[<-Lz,So]at a1;exact a1.congr fun i _=>by rw[if_neg (by omega)]
     clear HN;go_wp2_with fail
     go_loopw [19] (fun u wr=>∃(i:Nat),i<=6/\u=.int .i64 i/\Hid (su w wr τ5 sb xb (xb+1) (nJ (p0+1) M bf (k+1) []) A5 (fun i'=>if i'<i/\jv (bf k) i'=true then nn else wZ bf i' k))) (fun u _=>6-(intOf u).toNat)
     case atStart=>exact⟨0,by omega,rfl,HM7⟩
     case round=>
      rename World=>XB
      obtain⟨i,hi,rfl,Uk⟩:=hrel;clear HM7;by_cases hi6:i<6
      ·obtain⟨bt,xG⟩:∃bt,jv (bf k) i=bt:=⟨_,rfl⟩
       have VL:Hid (jv (bf k) i=bt):=xG;unfold jv at xG;rw[HBZ.out]at xG;have y1:=Uk.out.last.cell (o:=i) (J7 hi6);have f1:=Uk.out.last.frozen i;have q6:(i:Int)<6:=by omega
       cases bt with
       |true=>
        have HM9:Hid (su w (XB.setCell ⟨xb+1,i,none⟩ (.int .i64 nn)) τ5 sb xb (xb+1) (nJ (p0+1) M bf (k+1) []) A5 (fun i'=>if i'<i+1/\jv (bf k) i'=true then nn else wZ bf i' k)):=(Uk.out.put (m:=nn) hi6).congr fun i' _=>by
         by_cases e:i'=i
         ·subst e;rw[if_pos rfl,if_pos ⟨by omega,VL.out⟩]
         ·rw[if_neg e];by_cases e2:i'<i/\jv (bf k) i'=true
          ·rw[if_pos e2,if_pos ⟨by omega,e2.2⟩]
          ·rw[if_neg e2,if_neg (fun h=>e2 ⟨by omega,h.2⟩)]
        clear Uk;go_wp2_with fail
        generalize XB.setCell ⟨xb+1,i,none⟩ (.int .i64 nn)=wr4 at *;go_roundw
        case rel=>exact⟨i+1,by omega,by go_num,HM9⟩
        case measure=>simp[intOf];omega
       |false=>
        have HM9:Hid (su w XB τ5 sb xb (xb+1) (nJ (p0+1) M bf (k+1) []) A5 (fun i'=>if i'<i+1/\jv (bf k) i'=true then nn else wZ bf i' k)):=Uk.out.congr fun i' _=>by
         by_cases e:i'=i
         ·subst e;rw[if_neg (by omega),if_neg (fun h=>by rw[VL.out]at h;cases h.2)]
         ·by_cases e2:i'<i/\jv (bf k) i'=true
          ·rw[if_pos e2,if_pos ⟨by omega,e2.2⟩]
          ·rw[if_neg e2,if_neg (fun h=>e2 ⟨by omega,h.2⟩)]
        clear Uk;go_wp2_with fail
        go_roundw
        case rel=>exact⟨i+1,by omega,by go_num,HM9⟩
        case measure=>simp[intOf];omega
      ·have aeF:i=6:=by omega
       subst aeF;have HMA:Hid (su w XB τ5 sb xb (xb+1) (nJ (p0+1) M bf (k+1) []) A5 (fun i=>wZ bf i (k+1))):=Uk.out.congr fun i hi=>by
        show _=if jv (bf k) i=true then 2*k+2 else wZ bf i k
        rw[hnn];by_cases e:jv (bf k) i=true
        ·rw[if_pos ⟨hi,e⟩,if_pos e]
        ·rw[if_neg (fun h=>e h.2),if_neg e]
       clear Uk;go_wp2_with fail
       go_roundw
       case rel=>exact⟨k+1,τ5,A5,by omega,by omega,by go_num,HMA⟩
       case measure=>simp[intOf];omega
  ·by_cases h1':(k:Int)< (O.length:Int)
   ·have h2':¬((k:Int)<30):=by omega
    go_wp2_with fail
    refine wo ?_ ?_ ?_ ?_ read h1 h2 ?_ (sb:=sb) (xb:=xb) (lb:=xb+1) ?_ ?_ Ic Uc.out HM.out<;>rfl
   ·go_wp2_with fail
    refine wo ?_ ?_ ?_ ?_ read h1 h2 ?_ (sb:=sb) (xb:=xb) (lb:=xb+1) ?_ ?_ Ic Uc.out HM.out<;>rfl
end
end
section
open Go Go.RowKit Go.MuLone Go.Conc
theorem R5:List.range' 3 ((opsOf (cA CP)).toList.drop 3).length= [3,4,5,6,7,8,9]:=by kernel_rfl
theorem yK{b j:Nat}:∀n,j<=n->∃l,bV b n=bV b j++l
 | 0,h=>by obtain rfl:j=0:=by omega
           exact⟨[],by simp⟩
 |n+1,h=>by
  by_cases e:j=n+1
  ·subst e;exact⟨[],by simp⟩
  ·obtain⟨l,hl⟩:=yK (b:=b) (j:=j) n (by omega);exact⟨l++(if jv b n then [Eh n]else []),by show bV b n++_=_;rw[hl,List.append_assoc]⟩
theorem Lx{b:Nat}(hj:j<6)(hb:jv b j=true):(aA b)[(bV b j).length]?=some (Eh j):=by
 obtain⟨l,hl⟩:=yK (b:=b) (j:=j+1) 6 (by omega);have e:bV b (j+1)=bV b j++ [Eh j]:=by show bV b j++(if jv b j=true then [Eh j]else [])=_;rw[hb];rfl
 show (bV b 6)[_]?=_;rw[hl,e,List.append_assoc,List.getElem?_append_right (zci _),Nat.sub_self];rfl
theorem Ly:∀b,b<64->∀j,j<6->dX (aA b) (Eh j)=jv b j:=by decide+kernel
theorem CQ{bf:Nat->Nat}(h:∀i,1<=bf i/\bf i<64){j:Nat}(hj:j<6):∀k,lQ bf (Eh j) k=wZ bf j k
 | 0=>rfl
 |k+1=>by
  show (if dX (aA (bf k)) (Eh j)=true then 2*k+2 else lQ bf (Eh j) k)=if jv (bf k) j=true then 2*k+2 else wZ bf j k
  rw[Ly (bf k) (h k).2 j hj,CQ h hj k]
theorem Ot:∀b,b<64->∀j,j<6->jv b j=false->(Go.bits BinOp.and IntKind.i64 ((b:Int)/ 2 ^ j) 1 == 0)=true:=by decide+kernel
structure ZP(v:World)(ab:Nat)(L:List ByteArray)(V:ByteArray->Nat):Prop where
 lt:ab<v.heap.size
 key:∀(j:Nat) (x:ByteArray),L[j]?=some x->v.cell? ⟨ab,j*3,none⟩=some (.string x)
 wr:∀(j:Nat) (x:ByteArray),L[j]?=some x->v.cell? ⟨ab,j*3+1,none⟩=some (.int .i64 (V x))
 val:∀(j:Nat) (x:ByteArray),L[j]?=some x->V x≠0->v.cell? ⟨ab,j*3+2,none⟩=some (.string (x++oM (V x)))
section
variable {P:Program}{md:Region.Mode}{ops:Array Oper}{Q:Exit->Act->World->Prop}{S:World->Prop}{i fuel:Nat}{oi:Oper}{v:Value}{listed:Array Bool}{a:Act}{w:World}
theorem tD(hi:ops[i]?=some oi)(hk:(Region.noSelect ops && Region.free md ops listed i &&(Region.ready md ops listed).contains i)=true)(hQ:∀c a w,Q (.panic c) (a.put oi.dst v) w->Q (.panic c) a w)(hw:Region.wanted oi (yielded ops a.tmps)=true)
 (hy:∀W,S W->(execOp a.eval oi).run P W=.ok (.value v) W) (hS:S w) (h:wpAnyH P md ops Q S fuel (listed.setIfInBounds i true) (a.put oi.dst v) w):wpAnyH P md ops Q S (fuel+1) listed a w:=by simp only[Bool.and_eq_true]at hk;exact wpAnyH_take hi hk.1.1 hk.1.2 hk.2 hQ (.inl ⟨hw,hy⟩) hS h
theorem Ib(hi:ops[i]?=some oi)(hk:(Region.noSelect ops && Region.free md ops listed i &&(Region.ready md ops listed).contains i)=true)(hQ:∀c a w,Q (.panic c) (a.put oi.dst undef) w->Q (.panic c) a w)(hw:Region.wanted oi (yielded ops a.tmps)=false)
 (hS:S w) (h:wpAnyH P md ops Q S fuel (listed.setIfInBounds i true) (a.put oi.dst undef) w):wpAnyH P md ops Q S (fuel+1) listed a w:=by simp only[Bool.and_eq_true]at hk;exact wpAnyH_take hi hk.1.1 hk.1.2 hk.2 hQ (.inr ⟨hw,rfl⟩) hS h
end
theorem R6{fW:Frame}{B bC:Nat}(hW:ZQ fW B lb kg (aA B).length bC)(R7:B<64){v:World}{n:Int}(Ic:k<=30)(Hv:∀i,1<=bf i/\bf i<64)(hA:ZP v ab (aA B) (fun x=>lQ bf x k))(hl:aT v lb (AF (fun j=>wZ bf j k)) 64)(hkg:kg<v.heap.size)(hkc:∀(j:Nat) (x:ByteArray),(aA B)[j]?=some x->v.cell? ⟨kg,j,none⟩=some (.string x)):
 To Tryz.prog (fun fr c w'=>c= []/\fr.fn=8/\(∀u,fr.leaving Tryz.prog u (.returned (.bool true)))/\Below v.heap.size v w') (fW.finish (.tuple #[.slice (some ⟨ab,0,none⟩) (aA B).length (aA B).length,.int .i64 n,.int .i64 0])) [] v:=by
 obtain⟨b,⟨tms,EF⟩,rfl,hb,hk,hd,hs,ZR,ZS,uO,Ou⟩:=hW;simp only at hd hs ZR ZS uO Ou;subst hd;obtain⟨o2,r1,r2,r3,cl,r4,r5,r6⟩:=Ub;rw[yG r1,r3,<-R5];have HA:Hid (ZP v ab (aA B) (fun x=>lQ bf x k)):=hA;have HL:Hid (aT v lb (AF (fun j=>wZ bf j k)) 64):=hl;have Uc:Hid (∀i,1<=bf i/\bf i<64):=Hv;have Zu:Hid (∀(j:Nat) (x:ByteArray),(aA B)[j]?=some x->v.cell? ⟨kg,j,none⟩=some (.string x)):=hkc;obtain⟨_,Ud,_,hl6⟩:=uT B R7;have XD:Hid (∀x∈aA B,bK x=true):=Ud;clear hA hl Hv hkc r1 r2 r3 r4 r5 r6 Ud;refine To.T9 fun K hK=>?_;rw[yF];obtain⟨fv,hT,aj⟩:=E5 tms hs;replace ZR:=aj 20 _ ZR;replace ZS:=aj 21 _ ZS;replace uO:=aj 23 _ uO;replace Ou:=aj 11 _ Ou;clear hs aj;subst hT;simp only[ZR,ZS,uO,Ou];clear ZR ZS uO Ou;obtain⟨Ln,Lz⟩:∃Ln,(aA B).length=Ln:=⟨_,rfl⟩
 have HLN:Hid ((aA B).length=Ln):=Lz;rw[Lz];rw[Lz]at hl6;clear Lz;dsimp only[CP,yL,cA,cB,opsOf,Tryz.f8,Option.getD_some,Act.put];simp only[List.drop];go_wp2_with fail
 dsimp only[CP,yL,cA,cB,opsOf,Tryz.f8,Option.getD_some];refine To.gP fun K hK=>?_;go_wp2_with fail
 refine To.gP fun K hK=>?_;go_wp2_with fail
 refine To.gP fun K hK=>?_;go_wp2_with fail
 go_loopw [29,30] (fun s29 u wr=>∃(j:Nat),j<=6/\s29=.int .i64 (bV B j).length/\u=.int .i64 j/\Below v.heap.size v wr) (fun _ u _=>6-(intOf u).toNat)
 case atStart=>exact⟨0,by omega,rfl,rfl,Below.refl _ _⟩
 case round=>
  obtain⟨j,hj,rfl,rfl,hB⟩:=hrel;have hlk:=yu B j;by_cases ZT:j<6
  ·obtain⟨bt,xG⟩:∃bt,jv B j=bt:=⟨_,rfl⟩
   have VL:Hid (jv B j=bt):=xG;unfold jv at xG;have q6:(j:Int)<6:=by omega
   cases bt with
   |true=>
    have aeg:(Go.bits BinOp.and IntKind.i64 ((B:Int)/ 2 ^ j) 1 == 0)=false:=by have:=beq_iff_eq.1 xG;rw[this];rfl
    have hx:=Lx ZT VL.out;have ZU:Hid ((bV B (j+1)).length=(bV B j).length+1):=by show (bV B j++(if jv B j=true then [Eh j]else [])).length=_;rw[VL.out];simp
    have hxl:=aE hx;rw[HLN.out]at hxl;have hz:=(dG (XD.out _ (List.mem_of_getElem? hx))).2;have a1:=(hB.cell (p:=⟨ab,(bV B j).length*3,none⟩) HA.out.lt).trans (HA.out.key _ _ hx);have a2:=(hB.cell (p:=⟨ab,(bV B j).length*3+1,none⟩) HA.out.lt).trans (HA.out.wr _ _ hx);have k1:=(hB.cell (p:=⟨kg,(bV B j).length,none⟩) hkg).trans (Zu.out _ _ hx);have l1:=(hB.cell (p:=⟨lb,j,none⟩) HL.out.lt).trans (HL.out.cell (o:=j) (J7 ZT));have HV:=HA.out.val _ _ hx;simp only[CQ Uc.out ZT]at a2 HV;obtain⟨lv,hlv⟩:∃lv,wZ bf j k=lv:=⟨_,rfl⟩
    have ZV:lv<=60:=by rw[<-hlv,<-CQ Uc.out ZT];have:=Ov (bf:=bf) (Eh j) k;omega
    rw[hlv]at a2 HV;simp only[hlv]at l1;generalize Eh j=x at *;have q8:(((bV B j).length:Nat):Int)< (Ln:Int):=by omega
    obtain⟨Ie,hat⟩:∃Ie,(bV B j).length=Ie:=⟨_,rfl⟩
    rw[hat]at a1 a2 k1 q8 ZU HV⊢;have ajy:(x.toList == x.toList)=true:=by simp
    have EL:=HA.out.lt;clear hx hlv hxl hat hlk;by_cases h0:lv=0
    ·subst h0;clear HV ZV;replace a2:wr.cell? ⟨ab,Ie*3+1,none⟩=some (.int .i64 0):=a2;replace l1:wr.cell? ⟨lb,j,none⟩=some (.int .i64 0):=l1;go_wp2_with fail
     refine wp_region_held_drew (S:=fun W=>W.cell? ⟨ab,Ie*3,none⟩=some (.string x)/\W.cell? ⟨ab,Ie*3+1,none⟩=some (.int .i64 0)/\W.cell? ⟨kg,Ie,none⟩=some (.string x)/\W.cell? ⟨lb,j,none⟩=some (.int .i64 0)) (by kernel_rfl) (by simp[*]) (fun hHeld=>?_);(co_applyP tD (i:=0) rfl (by kernel_rfl) (by exact fun _ _ _ h=>h) (by rfl) (fun W jy=>?b0) (by assumption);(case b0=>(try dsimp only at jy);go_simp;all_goals with_reducible rfl);try walk_nrm);(co_applyP tD (i:=1) rfl (by kernel_rfl) (by exact fun _ _ _ h=>h) (by rfl) (fun W jy=>?b1) (by assumption);(case b1=>(try dsimp only at jy);go_simp;all_goals with_reducible rfl);try walk_nrm);(co_applyP tD (i:=2) rfl (by kernel_rfl) (by exact fun _ _ _ h=>h) (by rfl) (fun W jy=>?b2) (by assumption);(case b2=>(try dsimp only at jy);go_simp;all_goals with_reducible rfl);try walk_nrm);(co_applyP tD (i:=3) rfl (by kernel_rfl) (by exact fun _ _ _ h=>h) (by rfl) (fun W jy=>?b3) (by assumption);(case b3=>(try dsimp only at jy);go_simp;all_goals with_reducible rfl);try walk_nrm);(co_applyP tD (i:=4) rfl (by kernel_rfl) (by exact fun _ _ _ h=>h) (by rfl) (fun W jy=>?b4) (by assumption);(case b4=>(try dsimp only at jy);go_simp;all_goals with_reducible rfl);try walk_nrm);(co_applyP tD (i:=5) rfl (by kernel_rfl) (by exact fun _ _ _ h=>h) (by rfl) (fun W jy=>?b5) (by assumption);(case b5=>(try dsimp only at jy);go_simp;all_goals with_reducible rfl);try walk_nrm);(co_applyP tD (i:=6) rfl (by kernel_rfl) (by exact fun _ _ _ h=>h) (by rfl) (fun W jy=>?b6) (by assumption);(case b6=>(try dsimp only at jy);go_simp;all_goals with_reducible rfl);try walk_nrm);(co_applyP tD (i:=7) rfl (by kernel_rfl) (by exact fun _ _ _ h=>h) (by rfl) (fun W jy=>?b7) (by assumption);(case b7=>(try dsimp only at jy);go_simp;all_goals with_reducible rfl);try walk_nrm);(co_applyP tD (i:=8) rfl (by kernel_rfl) (by exact fun _ _ _ h=>h) (by rfl) (fun W jy=>?b8) (by assumption);(case b8=>(try dsimp only at jy);go_simp;all_goals with_reducible rfl);try walk_nrm);(co_applyP tD (i:=9) rfl (by kernel_rfl) (by exact fun _ _ _ h=>h) (by rfl) (fun W jy=>?b9) (by assumption);(case b9=>(try dsimp only at jy);go_simp;all_goals with_reducible rfl);try walk_nrm);(co_applyP tD (i:=10) rfl (by kernel_rfl) (by exact fun _ _ _ h=>h) (by rfl) (fun W jy=>?Vf) (by assumption);(case Vf=>(try dsimp only at jy);go_simp;all_goals with_reducible rfl);try walk_nrm);(co_applyP tD (i:=11) rfl (by kernel_rfl) (by exact fun _ _ _ h=>h) (by rfl) (fun W jy=>?Vg) (by assumption);(case Vg=>(try dsimp only at jy);go_simp;all_goals with_reducible rfl);try walk_nrm);(co_applyP tD (i:=12) rfl (by kernel_rfl) (by exact fun _ _ _ h=>h) (by rfl) (fun W jy=>?Vh) (by assumption);(case Vh=>(try dsimp only at jy);go_simp;all_goals with_reducible rfl);try walk_nrm);(co_applyP tD (i:=13) rfl (by kernel_rfl) (by exact fun _ _ _ h=>h) (by rfl) (fun W jy=>?Vi) (by assumption);(case Vi=>(try dsimp only at jy);go_simp;all_goals with_reducible rfl);try walk_nrm);(co_applyP tD (i:=14) rfl (by kernel_rfl) (by exact fun _ _ _ h=>h) (by rfl) (fun W jy=>?Vj) (by assumption);(case Vj=>(try dsimp only at jy);go_simp;all_goals with_reducible rfl);try walk_nrm);(co_applyP tD (i:=15) rfl (by kernel_rfl) (by exact fun _ _ _ h=>h) (by rfl) (fun W jy=>?b15) (by assumption);(case b15=>(try dsimp only at jy);go_simp;all_goals with_reducible rfl);try walk_nrm);(co_applyP tD (i:=16) rfl (by kernel_rfl) (by exact fun _ _ _ h=>h) (by rfl) (fun W jy=>?b16) (by assumption);(case b16=>(try dsimp only at jy);go_simp;all_goals with_reducible rfl);try walk_nrm);(co_applyP tD (i:=17) rfl (by kernel_rfl) (by exact fun _ _ _ h=>h) (by rfl) (fun W jy=>?b17) (by assumption);(case b17=>(try dsimp only at jy);go_simp;all_goals with_reducible rfl);try walk_nrm);(co_applyP tD (i:=18) rfl (by kernel_rfl) (by exact fun _ _ _ h=>h) (by rfl) (fun W jy=>?b18) (by assumption);(case b18=>(try dsimp only at jy);go_simp;all_goals with_reducible rfl);try walk_nrm);(co_applyP tD (i:=19) rfl (by kernel_rfl) (by exact fun _ _ _ h=>h) (by rfl) (fun W jy=>?b19) (by assumption);(case b19=>(try dsimp only at jy);go_simp;all_goals with_reducible rfl);try walk_nrm);(co_applyP tD (i:=20) rfl (by kernel_rfl) (by exact fun _ _ _ h=>h) (by rfl) (fun W jy=>?b20) (by assumption);(case b20=>(try dsimp only at jy);go_simp;all_goals with_reducible rfl);try walk_nrm);(co_applyP tD (i:=21) rfl (by kernel_rfl) (by exact fun _ _ _ h=>h) (by rfl) (fun W jy=>?b21) (by assumption);(case b21=>(try dsimp only at jy);go_simp;all_goals with_reducible rfl);try walk_nrm);(co_applyP tD (i:=22) rfl (by kernel_rfl) (by exact fun _ _ _ h=>h) (by rfl) (fun W jy=>?b22) (by assumption);(case b22=>(try dsimp only at jy);go_simp;all_goals with_reducible rfl);try walk_nrm);(co_applyP tD (i:=23) rfl (by kernel_rfl) (by exact fun _ _ _ h=>h) (by rfl) (fun W jy=>?b23) (by assumption);(case b23=>(try dsimp only at jy);go_simp;all_goals with_reducible rfl);try walk_nrm);(co_applyP tD (i:=24) rfl (by kernel_rfl) (by exact fun _ _ _ h=>h) (by rfl) (fun W jy=>?b24) (by assumption);(case b24=>(try dsimp only at jy);go_simp;all_goals with_reducible rfl);try walk_nrm);(co_applyP tD (i:=25) rfl (by kernel_rfl) (by exact fun _ _ _ h=>h) (by rfl) (fun W jy=>?b25) (by assumption);(case b25=>(try dsimp only at jy);go_simp;all_goals with_reducible rfl);try walk_nrm);(co_applyP tD (i:=26) rfl (by kernel_rfl) (by exact fun _ _ _ h=>h) (by rfl) (fun W jy=>?b26) (by assumption);(case b26=>(try dsimp only at jy);go_simp;all_goals with_reducible rfl);try walk_nrm);(co_applyP Ib (i:=27) rfl (by kernel_rfl) (by exact fun _ _ _ h=>h) (by rfl) (by assumption);try walk_nrm);(co_applyP Ib (i:=28) rfl (by kernel_rfl) (by exact fun _ _ _ h=>h) (by rfl) (by assumption);try walk_nrm);(co_applyP Ib (i:=29) rfl (by kernel_rfl) (by exact fun _ _ _ h=>h) (by rfl) (by assumption);try walk_nrm);(co_applyP Ib (i:=30) rfl (by kernel_rfl) (by exact fun _ _ _ h=>h) (by rfl) (by assumption);try walk_nrm);(co_applyP Ib (i:=31) rfl (by kernel_rfl) (by exact fun _ _ _ h=>h) (by rfl) (by assumption);try walk_nrm);(co_applyP Ib (i:=32) rfl (by kernel_rfl) (by exact fun _ _ _ h=>h) (by rfl) (by assumption);try walk_nrm);(co_applyP Ib (i:=33) rfl (by kernel_rfl) (by exact fun _ _ _ h=>h) (by rfl) (by assumption);try walk_nrm);(co_applyP Ib (i:=34) rfl (by kernel_rfl) (by exact fun _ _ _ h=>h) (by rfl) (by assumption);try walk_nrm);(co_applyP Ib (i:=35) rfl (by kernel_rfl) (by exact fun _ _ _ h=>h) (by rfl) (by assumption);try walk_nrm);(co_applyP Ib (i:=36) rfl (by kernel_rfl) (by exact fun _ _ _ h=>h) (by rfl) (by assumption);try walk_nrm);(co_applyP Ib (i:=37) rfl (by kernel_rfl) (by exact fun _ _ _ h=>h) (by rfl) (by assumption);try walk_nrm);(co_applyP Ib (i:=38) rfl (by kernel_rfl) (by exact fun _ _ _ h=>h) (by rfl) (by assumption);try walk_nrm);(co_applyP Ib (i:=39) rfl (by kernel_rfl) (by exact fun _ _ _ h=>h) (by rfl) (by assumption);try walk_nrm);(co_applyP Ib (i:=40) rfl (by kernel_rfl) (by exact fun _ _ _ h=>h) (by rfl) (by assumption);try walk_nrm);(co_applyP Ib (i:=41) rfl (by kernel_rfl) (by exact fun _ _ _ h=>h) (by rfl) (by assumption);try walk_nrm);(co_applyP tD (i:=42) rfl (by kernel_rfl) (by exact fun _ _ _ h=>h) (by rfl) (fun W jy=>?b42) (by assumption);(case b42=>(try dsimp only at jy);go_simp;all_goals with_reducible rfl);try walk_nrm);(co_applyP tD (i:=43) rfl (by kernel_rfl) (by exact fun _ _ _ h=>h) (by rfl) (fun W jy=>?b43) (by assumption);(case b43=>(try dsimp only at jy);go_simp;all_goals with_reducible rfl);try walk_nrm);refine wpAnyH_done (by kernel_rfl) ?_ _;clear a1 a2 k1 l1;go_wp2_with fail
     go_roundw
     case rel=>exact⟨j+1,by omega,by rw[ZU.out];go_num,by go_num,hB.drew⟩
     case measure=>simp[intOf];omega
    ·have a3:=(hB.cell (p:=⟨ab,Ie*3+2,none⟩) EL).trans (HV h0);have cd:=yx (w:=wr.drew) lv (by omega) (by omega);have hdz:=uW lv;clear HV;generalize oM lv=dg at *;have hxd:x.size+dg.size<=9223372036854775807:=by omega
     have yA:∀W:World,(Op.stringOp BinOp.add x dg).run Tryz.prog W=.ok (.string (x++dg)) W:=by intro W;go_simp
     have ZW:((x++dg).toList ==(x++dg).toList)=true:=by simp
     have hg2:decide (0<lv)=true:=by simp;omega
     go_wp2_with fail
     go_region_held3 (fun W=>W.cell? ⟨ab,Ie*3,none⟩=some (.string x)/\W.cell? ⟨ab,Ie*3+1,none⟩=some (.int .i64 (lv:Int))/\W.cell? ⟨ab,Ie*3+2,none⟩=some (.string (x++dg))/\W.cell? ⟨kg,Ie,none⟩=some (.string x)/\W.cell? ⟨lb,j,none⟩=some (.int .i64 (lv:Int))) (simp[*]) ((go_at_call 25;refine cd.mono ?_;rintro e wj ⟨rfl,XE⟩;have m1:=(XE.cell (p:=⟨ab,Ie*3,none⟩) (zcj EL hB.size)).trans a1;have m2:=(XE.cell (p:=⟨ab,Ie*3+1,none⟩) (zcj EL hB.size)).trans a2;have m3:=(XE.cell (p:=⟨ab,Ie*3+2,none⟩) (zcj EL hB.size)).trans a3;have m4:=(XE.cell (p:=⟨kg,Ie,none⟩) (zcj hkg hB.size)).trans k1;have m5:=(XE.cell (p:=⟨lb,j,none⟩) (zcj HL.out.lt hB.size)).trans l1))
     clear cd a1 a2 a3 k1 l1 m1 m2 m3 m4 m5 yA ZW;have dP:Below v.heap.size v wj:=hB.drew.trans (XE.mono hB.size);go_wp2_with fail
     go_roundw
     case rel=>exact⟨j+1,by omega,by rw[ZU.out];go_num,by go_num,dP⟩
     case measure=>simp[intOf];omega
   |false=>
    have aeg:(Go.bits BinOp.and IntKind.i64 ((B:Int)/ 2 ^ j) 1 == 0)=true:=Ot B R7 j ZT VL.out;have ZU:Hid ((bV B (j+1)).length=(bV B j).length):=by show (bV B j++(if jv B j=true then [Eh j]else [])).length=_;rw[VL.out];simp
    go_wp2_with fail
    go_roundw
    case rel=>exact⟨j+1,by omega,by rw[ZU.out],by go_num,hB⟩
    case measure=>simp[intOf];omega
  ·have aen:j=6:=by omega
   subst aen;go_wp2_with fail
   refine To.last (R:=fun a' w'=>w'=wr/\a'.defers= []/\a'.tmps.getD 8 undef=.bool true) ?_ rfl ?_
   ·go_wp2_with fail
   ·rintro a' todo w' ⟨rfl,d0,q8⟩;refine To.done ⟨rfl,hb,fun u=>⟨rfl,d0,hk,Tryz.f8,by show Tryz.prog.funcs[b.fn]?=_;rw[hb];exact Tryz.func8,?_⟩,hB⟩;rw[<-q8];exact results_tmp rfl _ _ _
end
section
open Go Go.RowKit Go.MuLone Go.Conc
open Go.Maps (Keyed)
section
variable {w W W':World}{τ:Nat->Tag}{aD b:Nat}{s:MS}{A:SA}{i:Nat}{r:MR}{ab ba bc wg:Nat}{ms:List Int}{cv:Value}{Sb:Nat->Prop}
theorem bH.of_heap(h:bH w W τ aD b s A i r ab ba bc wg ms cv Sb)(e:W'.heap=W.heap):bH w W' τ aD b s A i r ab ba bc wg ms cv Sb:=by
 have eb:∀k:Nat,W'.heap[k]?=W.heap[k]? :=fun k=>by rw[e]
 obtain⟨C,hC,hz⟩:=h.NS;exact⟨h.rep,h.hr,h.fin,fun k hk hn=>(eb k).trans (h.same k hk hn),⟨C,hC.of_eq (eb _),hz⟩,h.R8.of_eq (eb _),h.R9.of_eq (eb _),h.cand,ak h.row (fun k _=>eb k),h.GZ.of_eq (eb _),h.ord,h.Sa,h.old⟩
structure Ow(H:bH w W τ aD b s A i r ab ba bc wg ms cv Sb)(w2:World):Prop where
 rs:RS H.L W w2
 VM:∀(j:Nat) (x:ByteArray),r.keys[j]?=some x->(nX s A i r ab ba bc).En x->Q7 ab j x ((nX s A i r ab ba bc).wn x) ((nX s A i r ab ba bc).tv x) w2
 ZX:∀(j:Nat) (x:ByteArray),r.keys[j]?=some x->¬(nX s A i r ab ba bc).En x->Q7 ab j x (fC (j7 s (partOf s.parts x).toNat) x ms) (valueOf (j7 s (partOf s.parts x).toNat (fC (j7 s (partOf s.parts x).toNat) x ms)) x) w2
 mu:∀q,q<s.parts->eu (A.pb q) ⟨false,false,false,0⟩ 0 w2
 GZ:bS 155 wg ⟨0,false,0⟩ w2
 kp:E6 W w2
theorem bH.mu(h:bH w W τ aD b s A i r ab ba bc wg ms cv Sb){q:Nat}(hq:q<s.parts):eu (A.pb q) ⟨false,false,false,0⟩ 0 W:=by have hb:=h.blk (h.rep.part q hq) (h.rep.cS q hq) (by omega);have iR:W.heap[A.pb q]?=some (.cells #[fy,gF,.map (some (A.kb q)),.map (some (A.vb q))] 202):=hb;exact⟨hb.cell (o:=0) rfl,hb.cell (o:=1) rfl,fun o=>by simp[World.frozen?,iR]⟩
theorem bH.gw(h:bH w W τ aD b s A i r ab ba bc wg ms cv Sb):bS 155 wg ⟨0,false,0⟩ W:=h.GZ
end
theorem Sc{d:Nat}{fr':Frame}(h:AG w7 d fr c)(hf:fr.fn=44)(e1:fr'.fn=fr.fn)(e2:fr'.kind=fr.kind)(e3:fr'.roundOf=fr.roundOf)(e4:fr'.defers= [])(e5:fr'.mode=.returning):AG w7 0 fr' c:=by
 obtain⟨out,⟨h1,h2⟩,h3⟩:=h;have hout:out=0:=by
  obtain⟨a,ha⟩:=h1.j8;rw[hf]at ha;have h4:=CR.two _ _ _ ha;rcases Nat.lt_or_ge a 1 with h5|h5
  ·obtain rfl:a=0:=by omega
   have e:w7.j8 44 0=some 0:=by kernel_rfl
   rw[e]at ha;cases ha;rfl
  ·obtain rfl:a=1:=by omega
   have e:w7.j8 44 1=none:=by kernel_rfl
   rw[e]at ha;cases ha
 subst hout;refine⟨0,⟨⟨by rw[e3];exact h1.round,(fun x hx=>by rw[e4]at hx;simp at hx),by rw[e2];exact h1.kind,by rw[e1];exact h1.j8,.inr (.inl e4)⟩,?_⟩,by rw[e2];exact h3⟩;unfold gQ;rw[e5];show 0=0+oT w7 fr';unfold oT;rw[e1,hf];rfl
section
variable {w v:World}{τ:Nat->Tag}{aD b:Nat}{s:MS}{A:SA}{i:Nat}{r:MR}{Sb:Nat->Prop}
theorem CS{c0:List Frame}{q:Nat->Nat}{d:Nat}(hA:Ig w τ aD b s A i r Sb c0 fr c v)(hC:Crowd Tryz.prog w7 Sb d fr c cs gs t q)(hv:W.heap=v.heap)(sl:Option (Nat×Nat)):
 ∃(ab ba bc wg:Nat) (ms:List Int) (cv:Value) (fF:Frame) (H:bH w W τ aD b s A i r ab ba bc wg ms cv Sb) (N:Nat) (gs':Array Goroutine) (w2:World) (sl':Option (Nat×Nat)) (t':Trace) (q':Nat->Nat) (XF:Frame) (n:Int),
  c=fF :: c0/\VN fF/\runNT Tryz.prog N (crowd gs W sl) t=(.next (crowd gs' w2 sl'),t')/\Crowd Tryz.prog w7 (fun k=>Sb k\/k=wg) 0 XF (fF :: c0) cs gs' t' q'/\
  (∀w',XF.leaving Tryz.prog w' (.returned (.tuple #[.slice (some ⟨ab,0,none⟩) r.keys.length r.keys.length,.int .i64 n])))/\Ow H w2:=by
 obtain⟨bf,a,ab,ba,bc,wg,ms,cv,fF,rfl,hb,hk,rfl,hF,hl,hI,hR,hS⟩:=hA.ex
 have H:=hI.of_heap hv
 have hd:d=0:=Sd hC.stk hb rfl rfl
 subst hd
 have hP:tE (J8 Sb) t:=hC.past.ZY hC.deaf
 have h1:=H.size
 have h2:=H.ord
 obtain⟨N,gs',w2,sl',t',a',todo,q',O,r1,r2,r3,r4,r5,r6,r7,r8,r9,r10,r11⟩:=CU (sl:=sl) H.ZZ H.aeo (fun k hk=>by have:=(H.old k hk).1;omega) (fun k hk=>by
  refine⟨?_,fun hx=>?_⟩
  ·rcases hk with hk|hk|⟨q,hq,hk⟩
   ·rw[hk];exact H.hab
   ·rw[hk];exact h1.2
   ·rw[hk];exact H.Nc q hq
  ·rcases hk with hk|hk|⟨q,hq,hk⟩
   ·exact hx.2.1 hk
   ·exact hx.2.2.1 hk
   ·exact hx.2.2.2.1 q hq hk) hb (by rw[hk];decide) hl H.gw (fun p hp=>H.mu hp) hC.at0 hC.lv hP hC.bd
 refine⟨ab,ba,bc,wg,ms,cv,fF,H,N,gs',w2,sl',t',q',{bf.at a' todo with mode:=.returning},((nX s A i r ab ba bc).uR (nX s A i r ab ba bc).N:Nat),rfl,hF,r1,⟨r3,Sc hC.stk hb rfl rfl rfl r4.d0 rfl,r6.hears,r5,r6.Z0,r7⟩,fun w'=>⟨rfl,r4.d0,hk,Tryz.f44,by show Tryz.prog.funcs[bf.fn]?=_;rw[hb];exact Tryz.func44,?_⟩,⟨r4.rs,fun j x hx he=>r4.NS j x hx he,fun j x hx he=>r10 j x hx he,r8,r9,r11⟩⟩
 have q2:=r4.r2
 have q3:=r4.r3
 simp[results,Frame.at,Array.getD_eq_getD_getElem?,q2,q3]
 exact⟨rfl,rfl,rfl⟩
end
end
section
open Go Go.RowKit Go.MuLone Go.Conc
theorem E7{L:List ByteArray}(n:Nat)(h:x∈L):(aS L n).find? (fun y=>decide (y.1=x))=some (x,x++oM n):=by
 induction L with
 |nil=>cases h
 |cons y L ih=>
  show ((y,y++oM n):: aS L n).find? _=_;by_cases e:y=x
  ·subst e;simp
  ·rw[List.find?_cons_of_neg (by simpa using e)];exact ih (by rcases List.mem_cons.1 h with h|h;exact absurd h.symm e;exact h)
theorem vX(P:Int)(L:List ByteArray)(n:Nat)(q:Int):aZ P (aS L n) q=aS (L.filter (fun x=>decide (partOf P x=q))) n:=by
 unfold aZ aS;induction L with
 |nil=>rfl
 |cons y L ih=>
  simp only[List.map_cons,List.filter_cons];by_cases e:partOf P y=q
  ·simp[e,ih]
  ·simp[e,ih]
theorem J9{vl:Int->List KV}{x:ByteArray}{V:Int}(h0:0<=V):∀(ms:List Int) (g:Int),g<=V->(∀m∈ms,aH (vl m) x=true->m<=V)->(g=V\/(V∈ms/\aH (vl V) x=true))->ms.foldl (fun g m=>if aH (vl m) x then(if m > g then m else g)else g) g=V
 | [],g,hg,_,hV=>by rcases hV with h|⟨h,_⟩;exact h;cases h
 |m :: ms,g,hg,hm,hV=>by
  show ms.foldl _ (if aH (vl m) x then(if m > g then m else g)else g)=V;have h1:=hm m (by simp);refine J9 h0 ms _ ?_ (fun m' h'=>hm m' (by simp[h'])) ?_
  ·split
   ·rename_i hk;have:=h1 hk;split<;>omega
   ·exact hg
  ·rcases hV with h|⟨h,hk⟩
   ·left;split
    ·rename_i hk;have:=h1 hk;split<;>omega
    ·exact h
   ·rcases List.mem_cons.1 h with h|h
    ·left;subst h;rw[if_pos hk];split<;>omega
    ·exact .inr ⟨h,hk⟩
section
variable {P:Nat}{M:Int}{bf:Nat->Nat}{k:Nat}{rs:List MR}
theorem E8(hj:j<k):bF (nJ P M bf k rs) ((2*j+2:Nat):Int)=some (El P (bf j) (2*j+2)):=by
 have h1:=(xJ (P:=P) (bf:=bf) hj).2;have h2:(nJ P M bf k rs).ws.length=2*k:=tF;have e:(((2*j+2:Nat):Int)-1).toNat=2*j+1:=by omega
 unfold bF;rw[if_neg (by omega),e,show (nJ P M bf k rs).ws=uZ P bf k from rfl,h1];rfl
theorem Ue(hP:0<P)(hj:j<k)(hx:x∈aA (bf j)):(j7 (nJ P M bf k rs) (partOf (P:Int) x).toNat ((2*j+2:Nat):Int)).find? (fun y=>decide (y.1=x))=some (x,x++oM (2*j+2)):=by unfold j7;rw[E8 hj];have hp:(El P (bf j) (2*j+2)).dL (partOf (P:Int) x).toNat=true:=Ka hP hx;simp only[hp,if_true];rw[show (nJ P M bf k rs).parts=P from rfl,show (El P (bf j) (2*j+2)).items=aS (aA (bf j)) (2*j+2)from rfl,vX];refine E7 _ (List.mem_filter.2 ⟨hx,?_⟩);have:=(eM (P:Int) x (by omega)).1;exact decide_eq_true (by omega)
theorem Ox(hj:j<k){q:Nat}(h:aH (j7 (nJ P M bf k rs) q ((2*j+2:Nat):Int)) x=true):x∈aA (bf j):=by
 unfold j7 at h;rw[E8 hj]at h;dsimp only at h;split at h
 ·rw[show (El P (bf j) (2*j+2)).items=aS (aA (bf j)) (2*j+2)from rfl,vX,rY]at h;exact(List.mem_filter.1 (jE.1 h)).1
 ·simp[aH]at h
theorem Se(hP:0<P){L:List ByteArray}{ms:List Int}(hc:yH (gR L (fun x=>lQ bf x k) 0) ms)(hx:L[j]?=some x):fC (j7 (nJ P M bf k rs) (partOf (P:Int) x).toNat) x ms=(lQ bf x k:Int):=by
 refine J9 (by omega) ms 0 (by omega) (fun m hm hk=>?_) ?_
 ·obtain⟨j',y,hy,rfl⟩:=hc.of m hm;rw[sj (L:=L) hy]at hk⊢;by_cases h0:lQ bf y k=0
  ·omega
  ·obtain⟨i,h1,h2,h3⟩:=pK y k h0;rw[h2]at hk⊢;have:=Kb h1 (Ox h1 hk);omega
 ·by_cases h0:lQ bf x k=0
  ·exact .inl (by omega)
  ·obtain⟨i,h1,h2,h3⟩:=pK x k h0;refine .inr ⟨?_,?_⟩
   ·have:=hc.all j x hx;rwa [sj hx]at this
   ·rw[h2,pL,Ue hP h1 h3];rfl
theorem Oy(hP:0<P)(h0:lQ bf x k≠0):valueOf (j7 (nJ P M bf k rs) (partOf (P:Int) x).toNat (lQ bf x k:Int)) x=x++oM (lQ bf x k):=by obtain⟨i,h1,h2,h3⟩:=pK x k h0;rw[h2];unfold valueOf;rw[Ue hP h1 h3]
end
theorem sn{w2:World}{P:Nat}{M:Int}{L:List ByteArray}{wg:Nat}{ms:List Int}{Sb:Nat->Prop}(hP:0<P)(H:bH w W τ 2 sb (nJ P M bf k [gR L (fun x=>lQ bf x k) 0]) A 0 (gR L (fun x=>lQ bf x k) 0) ab ba bc wg ms cv Sb)(h:Ow H w2)(hx:L[j]?=some x):
 ∃val,Q7 ab j x (lQ bf x k:Int) val w2/\(lQ bf x k≠0->val=x++oM (lQ bf x k)):=by
 have hi:=(H.Oz (j:=j) (x:=x) hx).1;have yM:(gR L (fun x=>lQ bf x k) 0).found j=lQ bf x k:=sj hx;by_cases hE:(nX (nJ P M bf k [gR L (fun x=>lQ bf x k) 0]) A 0 (gR L (fun x=>lQ bf x k) 0) ab ba bc).En x
 ·have ha:=h.VM j x hx hE;have e1:(nX (nJ P M bf k [gR L (fun x=>lQ bf x k) 0]) A 0 (gR L (fun x=>lQ bf x k) 0) ab ba bc).wn x=lQ bf x k:=by show (gR L (fun x=>lQ bf x k) 0).found (bM _ x)=_;rw[hi,yM]
  rw[e1]at ha;refine⟨_,ha,fun h0=>?_⟩;have h1:=hE.1;rw[e1]at h1;have hv:A.R.hv 0 j=true:=by
   cases hv:A.R.hv 0 j with
   |true=>rfl
   |false=>exact absurd ⟨h0,by show A.R.hv 0 (bM _ x)=false;rw[hi];exact hv⟩ h1
  obtain⟨m,t1,t2,_⟩:=H.rep.told.tv 0 _ j x H.hr rfl hx hv;obtain⟨i,g1,g2,g3⟩:=pK x k h0;rw[yM,g2,show 2*i+2-1=2*i+1 from rfl,show (nJ P M bf k [gR L (fun x=>lQ bf x k) 0]).ws=uZ P bf k from rfl,(xJ g1).2]at t1;cases t1;show A.R.tv 0 (bM _ x)=_;rw[hi,g2];unfold jg at t2;rw[show (El P (bf i) (2*i+2)).items=aS (aA (bf i)) (2*i+2)from rfl,E7 _ g3]at t2;simpa using t2.symm
 ·have ha:=h.ZX j x hx hE;have e:=Se (M:=M) (rs:= [gR L (fun x=>lQ bf x k) 0]) hP H.cand hx;rw[show (nJ P M bf k [gR L (fun x=>lQ bf x k) 0]).parts=P from rfl,e]at ha;exact⟨_,ha,fun h0=>Oy hP h0⟩
end
section
open Go Go.RowKit Go.MuLone Go.Conc
theorem bH.fxo{aD b:Nat}{r:MR}{wg:Nat}{ms:List Int}{Sb:Nat->Prop}(h:bH w W τ aD b s A i r ab ba bc wg ms cv Sb)(hk:k<w.heap.size)(ht:(τ k).1≠aD)(hs:¬Sb k):h.L.Fx k:=by
 have h1:=h.ord;have h2:=h.GZ.lt;refine⟨by omega,fun e=>?_,fun e=>?_,fun q hq e=>?_,hs⟩
 ·have e':k=ab:=e;omega
 ·have e':k=wg:=e;omega
 ·have:=h.rep.cS q hq;have e':k=A.pb q:=e;rw[<-e']at this;rw[this]at ht;exact ht rfl
theorem yN{m m1:Machine}{t1:Trace}{a:Nat}(b:Nat)(h:runNT P a m t=(.next m1,t1)):runN P (a+b) m=runN P b m1:=by rw[<-runNT_fst P _ _ t,<-runNT_fst P _ _ t1,mS a b h]
theorem Ih{f:Func}{t:Tmp}(h:fr.leaving P w (.returned v))(hi:P.inits.idxOf? fr.fn=none)(hf:P.funcs[fr.fn]?=some f)(ht:f.results=#[.tmp t]):stepG P true (G fr []) w=.ended (.done v) w #[]:=by
 obtain⟨hm,hd,hk,fn,hf',hr⟩:=h;rw[hf]at hf';cases hf';have e:Sem.events P (results f fr.tmps) w #[]=#[]:=by simp[results,ht]
 simp[G,stepG,unwind,doReturn,hm,hd,hk,hf,hr,hi,e,seen,GStep.after]
def WhQ(W:World)(fr:Frame)(c:List Frame)(v:World):Prop:=∃tp n w'',v.heap=w''.heap/\v.os=w''.os/\v.output=w''.output/\yO (wt W tp n) fr c w''
theorem yO.Z1(h:yO W fr c w):iT fr c:=by obtain⟨bf,k,B,_,_,_,_,hA⟩:=h;obtain⟨P,M,τ,sb,xb,lb,kg,bC,A,wf,fW,_,hW,_,_,_,hL⟩:=hA.ex;obtain⟨b,a,ab,ba,bc,wg,ms,cv,fF,rfl,_,_,rfl,hF,_⟩:=hL.ex;obtain⟨b1,a1,rfl,_⟩:=hW;obtain⟨b2,a2,rfl,_⟩:=hF;intro x hx ch;simp only[List.mem_cons,List.not_mem_nil,or_false]at hx;rcases hx with rfl|rfl|rfl<;>simp[Frame.at]
def WhE(v0:World)(fr:Frame)(c:List Frame)(v:World):Prop:=c= []/\fr.fn=8/\(∀u,fr.leaving Tryz.prog u (.returned (.bool true)))/\(∀k,k<v0.heap.size->v.heap[k]?=v0.heap[k]?)/\v0.heap.size<=v.heap.size/\v.os=v0.os/\v.output=v0.output
theorem CV(W:World)(oa:Option Addr)(LA:Nat)(O:List Int)(hO:∀(j:Nat) (z:Int),O[j]?=some z->∃ob oo,oa=some ⟨ob,oo,none⟩/\ob<W.heap.size/\W.cell? ⟨ob,oo+j,none⟩=some (.int .i64 z)/\-9223372036854775808<=z/\z<=9223372036854775807)
 (read parts mode:Int) (h1: -9223372036854775808<=read) (h2:read<=9223372036854775807) (h3: -9223372036854775808<=parts) (h4:parts<=9223372036854775807) (h5: -9223372036854775808<=mode) (h6:mode<=9223372036854775807):
 ∃N gs' fr' c' w' sl' t' q' d',runNT Tryz.prog N (solo (G (Frame.enter Tryz.prog 8 #[.slice oa O.length LA,.int .i64 read,.int .i64 parts,.int .i64 mode] .normal) []) W) #[]=(.next (crowd gs' w' sl'),t')/\WhQ W fr' c' w'/\Crowd Tryz.prog w7 (fun _=>False) d' fr' c' [] gs' t' q':=by
 have hS:AG w7 0 (Frame.enter Tryz.prog 8 #[.slice oa O.length LA,.int .i64 read,.int .i64 parts,.int .i64 mode] .normal) []:=Ii CR (b:=0) (by kernel_rfl) (by omega) _ (fun n hn=>by
  have e:w7.vY 8= []:=by kernel_rfl
  rw[e]at hn;cases hn)
 obtain⟨N,gs',fr',c',v',w',sl',t',q',d',r1,r2,r3,r4,r5⟩:=beside (Q:=WhQ W) (fun fr c v tp n h=>by
  obtain⟨a1,a2,a3,a4,a5,a6,a7⟩:=h;exact⟨a1,a2,a3,a4,a5,a6,a7⟩) (E9 hS) (w:=W) (fun b hb=>hb.elim) (fun tp n=>by
  rw[LB];refine((LC (w:=wt W tp n) oa LA O hO read parts mode h1 h2 h3 h4 h5 h6).then fun fr c w hq=>To.done ?_).reach (fun fr c w h=>?_)
  ·exact⟨tp,n,w,rfl,rfl,rfl,hq⟩
  ·obtain⟨a1,a2,a3,a4,a5,a6,a7⟩:=h;exact a7.Z1) none
 obtain⟨tp,n,w'',e1,e2,e3,hq⟩:=r3;exact⟨N,gs',fr',c',w',sl',t',q',d',r1,⟨tp,n,w'',(OA r4).symm.trans e1,r4.os.symm.trans e2,r4.out.symm.trans e3,hq⟩,r5⟩
end
section
open Go Go.RowKit Go.MuLone Go.Conc
theorem CW:Tryz.prog.inits.idxOf? 8=none:=by kernel_rfl
theorem AH{W1:World}{q:Nat->Nat}{d:Nat}(hq:WhQ W fr c W1)(hC:Crowd Tryz.prog w7 (fun _=>False) d fr c [] gs t q)(sl:Option (Nat×Nat)){Post:Value->World->Prop}
 (Z2:∀w',W.heap.size<=w'.heap.size->(∀k,k<W.heap.size->w'.heap[k]?=W.heap[k]?)->w'.output=W.output->Go.ConcM.OsLater W.os w'.os->Post (.bool true) w'):
 ∃N last o w' t',runNT Tryz.prog (N+1) (crowd gs W1 sl) t=(.ended o w',t')/\runN Tryz.prog N (crowd gs W1 sl)=.next last/\step Tryz.prog last=.ended o w'/\Conc.Good Tryz.prog Post last o w' t':=by
 obtain⟨tp,n,w'',e1,e2,e3,bf,k,B,Ic,Hv,iM,R7,hA⟩:=hq;obtain⟨P,M,τ,sb,xb,lb,kg,bC,A,wf,fW,hM,hW,hkc,hkg,Ej,hL⟩:=hA.ex;obtain⟨ab,ba,bc,wg,ms,cv,fF,H,N1,gs2,w2,VO,t2,q2,XF,na,rfl,hF,r1,hC2,hlv,hR⟩:=CS hL hC e1 sl;obtain⟨-,-,-,-,-,-,-,-,-,-,-,-,-,-,-,-,-,VP⟩:=hL.ex;have hP:0<P:=hM.rep.ok.p1;have hWf:W.heap.size<=wf.heap.size:=hM.env.below.size;have ho:=H.ord;have hw1:wf.heap.size<=W1.heap.size:=by have:=H.GZ.lt;omega
 have D9:∀{x:Nat},x<wf.heap.size->(τ x).1≠2->w2.heap[x]?=wf.heap[x]? /\x≠wg:=fun{x} hx ht=>by have h1:=hR.rs.blk x (by omega) (H.fxo hx ht (fun h=>h));rw[h1,e1,VP.block x hx ht];exact⟨rfl,by omega⟩
 have oN:CX (fun x=>False\/x=wg) w2:=by
  rintro x (h|rfl)
  ·exact h.elim
  ·exact⟨_,_,by simp,hR.GZ⟩
 have Z3:∀{x:Nat},x≠wg->(gu (fun x=>False\/x=wg) w2).heap[x]?=w2.heap[x]? :=fun{x} hx=>(yP oN).same x (fun h=>by rcases h with h|h;exact h;exact hx h);have w8:(gu (fun x=>False\/x=wg) w2).heap.size=w2.heap.size:=(yP oN).size;have ajK:=hR.rs.le;have VQ:ab≠wg:=by omega
 obtain⟨N3,gs3,fr3,c3,v3,w3,sl3,t3,q3,d3,s1,s2,s3,s4,s5⟩:=beside (Q:=WhE (gu (fun x=>False\/x=wg) w2)) (fun fr c v tp n h=>h) hC2 oN (fun tp n=>by
  refine To.reach (Q:=WhE (gu (fun x=>False\/x=wg) w2)) ?_ (fun fr c w h=>?_)
  ·refine To.leave (hlv _) (Sf hF fun fr _ hl=>To.leave hl ?_);have hcell:∀{x o:Nat},x≠wg->(wt (gu (fun x=>False\/x=wg) w2) tp n).cell? ⟨x,o,none⟩=w2.cell? ⟨x,o,none⟩:=fun{x o} hx=>zcl (w:=w2) (a:=⟨x,o,none⟩) (Z3 hx);have hlb:=D9 hM.last.lt (by rw[hM.jH];decide);have hkb:=D9 hkg (by rw[Ej];decide);refine(R6 hW R7 (v:=wt (gu (fun x=>False\/x=wg) w2) tp n) (ab:=ab) (n:=na) (bf:=bf) (k:=k) Ic Hv ⟨?_,fun j x hx=>?_,fun j x hx=>?_,fun j x hx h0=>?_⟩ (hM.last.of_eq ((Z3 hlb.2).trans hlb.1)) ?_ fun j x hx=>?_).then ?_
   ·show ab< (gu (fun x=>False\/x=wg) w2).heap.size;have:=H.GZ.lt;omega
   ·obtain⟨val,⟨a1,a2,a3⟩,_⟩:=sn hP H hR hx;exact(hcell VQ).trans a1
   ·obtain⟨val,⟨a1,a2,a3⟩,_⟩:=sn hP H hR hx;exact(hcell VQ).trans a2
   ·obtain⟨val,⟨a1,a2,a3⟩,a4⟩:=sn hP H hR hx;rw[<-a4 h0];exact(hcell VQ).trans a3
   ·show kg< (gu (fun x=>False\/x=wg) w2).heap.size;omega
   ·exact(hcell hkb.2).trans ((zcl (w:=wf) (a:=⟨kg,j,none⟩) hkb.1).trans (hkc j x hx))
   ·rintro fr c w ⟨h1,h2,h3,h4⟩;exact To.done ⟨h1,h2,h3,h4.block,h4.size,h4.os,h4.output⟩
  ·obtain⟨rfl,_,h3,_⟩:=h;intro x hx ch;simp only[List.mem_cons,List.not_mem_nil,or_false]at hx;subst hx;rw[(h3 w).1];simp) VO
 obtain⟨rfl,hfn,aes,BM,hz3,ho3,hu3⟩:=s3;have hend:∀m,stepG Tryz.prog true (G fr3 []) (w3.at m)=.ended (.done (.bool true)) (w3.at m) #[]/\Post (.bool true) (w3.at m):=fun m=>by
  refine⟨Ih (aes _) (by rw[hfn];exact CW) (by rw[hfn];exact Tryz.func8) rfl,Z2 _ ?_ ?_ ?_ ?_⟩
  ·show W.heap.size<=w3.heap.size;rw[<-s4.size];omega
  ·intro x hx;show w3.heap[x]?=_;have h0:=hM.env.yt x hx;have h1:=D9 (x:=x) (by omega) (by rw[h0];decide);rw[<-s4.same x (fun h=>by rcases h with h|h;exact h;exact h1.2 h),BM x (by omega),Z3 h1.2,h1.1,hM.env.below.block x hx];rfl
  ·show w3.output=_;rw[<-s4.out,hu3];show w2.output=_;rw[hR.kp.2.1,e3,VP.output,hM.env.below.output];rfl
  ·show Go.ConcM.OsLater W.os w3.os;rw[<-s4.os,ho3];show Go.ConcM.OsLater W.os w2.os;have:=hR.kp.2.2;rw[e2,VP.os,hM.env.below.os]at this;exact this
 obtain⟨N4,last,o,w4,t4,f1,f2,f3,f4⟩:=Ij (Post:=Post) (x:=.bool true) _ d3 gs3 w3 sl3 t3 q3 rfl s5 hend;refine⟨N1+(N3+N4),last,o,w4,t4,?_,?_,f3,f4⟩
 ·rw[Nat.add_assoc,Nat.add_assoc,mS N1 _ r1,mS N3 _ s1];exact f1
 ·rw[yN _ r1,yN _ s1];exact f2
end
end Go.Proofs.YteoahlieielcdaaGreat
