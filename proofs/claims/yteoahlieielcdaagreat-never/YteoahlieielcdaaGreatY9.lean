import Derived.Test.YteoahlieielcdaaGreatY1
import Derived.Test.YteoahlieielcdaaGreatJ36
import Derived.Test.YteoahlieielcdaaGreatJ7
import Derived.Test.YteoahlieielcdaaGreatV12
import Derived.Test.YteoahlieielcdaaGreatF2
set_option linter.all false
set_option maxHeartbeats 8000000
set_option maxRecDepth 100000
namespace Go.Proofs.YteoahlieielcdaaGreat
open Go.Proofs.Tryz
abbrev zcl:=@RowKit.Below.heap_setCell
abbrev zcm:=@Nat.le_refl
abbrev zcn:=@Nat.lt_of_lt_of_le
abbrev zco:=@Nat.le_trans
abbrev zcp:=@List.getElem?_eq_getElem
abbrev zcq:=@World.cell?_of_block
abbrev zcr:=@Array.getElem?_eq_some_iff
abbrev zcs:=@List.mem_cons_of_mem
abbrev zct:=@List.mem_of_getElem?
abbrev zcu:=@List.length_eraseIdx
abbrev zcv:=@List.map_append
abbrev zcw:=@List.mem_cons
abbrev zcx:=@Nat.not_lt_zero
variable{P:aB}{W u w2 w3:af}{f:Lit->Option aj}{off N0 g' sz j ab ba bc m aO i:Nat}{b cl fF fr:ak}{cs c c0:List ak}{a:Act}{gs:Array au}{t:Trace}{v cv:aj}{o:Obj}{Q:ak->List ak->af->Prop}{r:MR}{K l:List ah}{y:ah}{τ:Nat->Tag}{A:SA}
section
open Go Go.Conc Go.ConcN Go.RowKit Go.MuLone Go.Maps
open Go.ConcR (KK wgBlock WgAt stA smA rd wr mk Payload Aside2 DC0)
def cD.weaken{main:Bool}{J:Jm}{R:uA}{D:uB}{Stop Stop':xC}(hs:∀O g w,Stop O g w->Stop' O g w){n:Nat}{O:aI}{g:au}{w:af}(h:cD P main J R D Stop n O g w):cD P main J R D Stop' n O g w:=by
 have key:∀(k n:Nat) (O:aI) (g:au) (w:af),Zb P main J R D Stop k n O g w->Zb P main J R D Stop' k n O g w:=by
  intro k;induction k with
  |zero=>intro n O g w _;trivial
  |succ k ih=>
   intro n O g w h;refine QH.imp (fun O' g' w' _ b=>?_) h;rcases b with b|⟨b1,b2⟩
   ·exact .inl fun w₁ h₁=>hs _ _ _ (b w₁ h₁)
   ·exact .inr ⟨b1,fun w₁ h₁=>J.mono (fun own p g w ⟨n',x⟩=>⟨n',ih n' _ g w x⟩) (b2 w₁ h₁)⟩
 exact key _ _ _ _ _ h
structure Tg where
 np:Nat
 pt:Nat->Nat
 kbp:Nat->Nat
 fk:Nat->Lit->Option aj
 vl:Nat->Int->List KV
 pq:ah->Nat
 cb:Option aA
 gE:Nat
 ms:List Int
 Wg:Nat
 Sb:Nat->Prop
def agl(W:af)(d:fH)(e:Tg)(hab:d.ab<W.heap.size)(MX:∀q,q<e.np->e.pt q<W.heap.size):dY where
 Fx b:=b<W.heap.size/\b≠d.ab/\b≠e.Wg/\(∀q,q<e.np->b≠e.pt q)/\¬e.Sb b
 ny a:=a.spot=none/\2<=a.off/\∃q,q<e.np/\a.block=e.pt q
 Mn a:=∃i x,d.keys[i]?=some x/\d.En x/\∃j,j<3/\a=⟨d.ab,i*3+j,none⟩
 Sh b:=b=d.ab\/b=e.Wg\/(∃q,q<e.np/\b=e.pt q)\/e.Sb b
 Wg:=e.Wg
 tw:=155
 N:=W.heap.size
 low:=by rintro a ⟨_,_,q,hq,h⟩;rw[h];exact MX q hq
 ID:=by rintro a ⟨i,x,_,_,j,_,rfl⟩;exact hab
structure Po(L:dY)(W:af)(d:fH)(e:Tg):Prop where
 pqn:∀x,d.p x->e.pq x<e.np
 part:∀q,q<e.np->kH L (e.pt q) (e.kbp q) (e.fk q) (e.vl q) W
 cq:∀x,d.p x->W.cell? ⟨d.qb x,0,none⟩=some (.pointer (some ⟨e.pt (e.pq x),0,none⟩))
 bcf:L.Fx d.bc
 bcc:W.cell? ⟨d.bc,0,none⟩=some (.slice e.cb e.ms.length e.gE)
 ms8:e.ms.length<=8
 msb:∀m∈e.ms,0<=m/\m<=1000
 msc:∀(k:Nat) (m:Int),e.ms[k]?=some m->∃g,L.Fx g/\e.cb=some ⟨g,0,none⟩/\W.cell? ⟨g,k,none⟩=some (.int .i64 m)
 vsz:∀x,d.p x->(valueOf (e.vl (e.pq x) (eP (e.vl (e.pq x)) x e.ms)) x).size<=1000
 inj:∀q q',q<e.np->q'<e.np->e.pt q=e.pt q'->q=q'
 Vt:∀q,q<e.np->e.pt q≠e.Wg
 pta:∀q,q<e.np->e.pt q≠d.ab
 psb:∀q,q<e.np->¬e.Sb (e.pt q)
 Zd:¬e.Sb e.Wg
 asb:¬e.Sb d.ab
 mnn:∀a,L.Mn a->∃i x,d.keys[i]?=some x/\d.En x/\∃j,j<3/\a=⟨d.ab,i*3+j,none⟩
 fcn:∀a,L.ny a->a.spot=none/\2<=a.off/\∃q,q<e.np/\a.block=e.pt q
 shn:∀q,q<e.np->L.Sh (e.pt q)
 Ti:∀b,L.Fx b->b<W.heap.size/\b≠d.ab/\b≠e.Wg/\(∀q,q<e.np->b≠e.pt q)/\¬e.Sb b
 wg:L.Wg=e.Wg/\L.tw=155/\L.N=W.heap.size
 ptl:∀q,q<e.np->e.pt q<W.heap.size
def VxF(d:fH)(e:Tg)(i:Nat)(x:ah)(a:aA)(u:aj):Prop:=
 (a=⟨d.ab,i*3,none⟩/\u=.string x)\/(a=⟨d.ab,i*3+1,none⟩/\u=.int .i64 (eP (e.vl (e.pq x)) x e.ms))\/(a=⟨d.ab,i*3+2,none⟩/\u=.string (valueOf (e.vl (e.pq x) (eP (e.vl (e.pq x)) x e.ms)) x))
noncomputable def Ub(L:dY)(W:af)(d:fH)(e:Tg)(off N0:Nat)(Stop:xC):Ph where
 P:=prog
 S:=⟨e.np,e.pt,e.Wg,155,e.Sb⟩
 n:=d.rem 0
 off:=off
 N0:=N0
 v0:=.pointer (some ⟨e.Wg,0,none⟩)
 L0:=L
 IX:=fun r a=>∃i x,d.keys[i]?=some x/\¬d.En x/\d.rem i=r/\∃j,j<3/\a=⟨d.ab,i*3+j,none⟩
 Vx:=fun r a u=>∃i x,d.keys[i]?=some x/\¬d.En x/\d.rem i=r/\VxF d e i x a u
 w0:=W
 tY:=Stop
def ahA(L:dY)(w2:af)(hw:L.N<=w2.heap.size)(b0 b1 b4 bw bf ab i:Nat)(hab:ab<w2.heap.size):dY where
 Fx b:=L.Fx b\/b=b0\/b=b1\/b=b4\/b=bw\/b=bf
 ny:=L.ny
 Mn a:=∃j,j<3/\a=⟨ab,i*3+j,none⟩
 Sh:=L.Sh
 Wg:=L.Wg
 tw:=L.tw
 N:=w2.heap.size
 low:=fun a h=>zcn (L.low a h) hw
 ID:=by rintro a ⟨j,_,rfl⟩;exact hab
def fH.JX(d:fH):∀{i i':Nat} {x:ah},i<i'->d.keys[i]?=some x->¬d.En x->d.rem i'<d.rem i:=by
 intro i i' x hlt hx hE;have h1:=((d.oU hx).2 hE).1;have mono:∀k j,j<=k->d.rem k<=d.rem j:=by
  intro k;induction k with
  |zero=>intro j hj;obtain rfl:j=0:=by omega
         exact zcm _
  |succ k ih=>
   intro j hj;rcases Nat.lt_or_ge k j with h|h
   ·obtain rfl:j=k+1:=by omega
    exact zcm _
   ·refine zco ?_ (ih j h);rcases hk:d.keys[k]? with _|y
    ·have hl:d.keys.length<=k:=by simpa using hk
     unfold fH.rem;rw[List.drop_of_length_le (by omega),List.drop_of_length_le hl];exact zcm _
    ·by_cases hy:d.En y
     ·exact Nat.le_of_eq ((d.oU hk).1 hy).1.symm
     ·have:=((d.oU hk).2 hy).1;omega
 have:=mono i' (i+1) (by omega);omega
end
section
open Go Go.Conc Go.ConcN Go.RowKit Go.MuLone Go.Maps
open Go.ConcR (KK wgBlock WgAt stA smA rd wr mk Payload Aside2 DC0)
def kH.more{L L':dY}{w:af}{pb kb:Nat}{vl:Int->List KV}(h:kH L pb kb f vl W)(x:RS L W w)(hf:∀b,L.Fx b->L'.Fx b)(hc:∀a,L.ny a->L'.ny a):kH L' pb kb f vl w:=
 ⟨hc _ h.fc,hf _ h.fk,(x.GB _ h.fc).trans h.cell,xV h.map h.fk x.fxs,fun m h1 h2=>by obtain⟨ad,cap,sv,e,h8,hr⟩:=h.row m h1 h2;refine⟨ad,cap,sv,e,h8,fun k y hy=>?_⟩;obtain⟨g,hg,ha,c1,c2⟩:=hr k y hy;exact⟨g,hf g hg,ha,x.aZ c1 hg,x.aZ c2 hg⟩⟩
def QO{L:dY}{d:fH}{e:Tg}{Stop:xC}(hD:oT L W d)(hE:Po L W d e):Xl L (@Ph.bO Om (Ub L W d e off N0 Stop)) W d:=by
 letI:=Om;intro i x b0 b1 b4 bw bf O2 w2 hx AV hown hrs vp sK je sN hBw YU;obtain⟨k1,k2,k3,k4⟩:=hD.key i x hx;obtain⟨M6,Vs,wg3⟩:=hE.wg;have FY:i<d.N:=by have:=(List.getElem?_eq_some_iff.1 hx).1;rw[hD.len]at this;exact this
 have Ja:L.N<=w2.heap.size:=zco hD.top hrs.le;have hab:d.ab<w2.heap.size:=zcn hD.abn Ja;have hq:=hE.pqn x k3;have hpl:=hE.ptl _ hq;have big:∀b,O2.own b->b≠d.ab/\b≠e.pt (e.pq x)/\¬L.Fx b:=fun b hb=>by have h1:=hown b hb;have h2:=hD.abn;exact⟨by omega,by omega,fun h=>by have:=(hE.Ti b h).1;omega⟩
 let Lk:dY:=ahA L w2 Ja b0 b1 b4 bw bf d.ab i hab;have hPb:SS Lk (e.pt (e.pq x)):=by
  refine⟨?_,fun a ha _=>(hE.fcn a ha).2.1,?_,hE.shn _ hq,zcn hpl hrs.le,by show L.Wg≠_;rw[M6];exact Ne.symm (hE.Vt _ hq)⟩
  ·rintro(h|h|h|h|h|h)
   ·exact(hE.Ti _ h).2.2.2.1 _ hq rfl
   ·exact(big b0 sK.own).2.1 h.symm
   ·exact(big b1 je.own).2.1 h.symm
   ·exact(big b4 sN.own).2.1 h.symm
   ·exact(big bw hBw.own).2.1 h.symm
   ·exact(big bf YU.own).2.1 h.symm
  ·rintro a ⟨j,_,rfl⟩;exact Ne.symm (hE.pta _ hq)
 obtain⟨nl,hlk⟩:=abl (main:=false) hPb;obtain⟨n,hgo⟩:=Z7 (J:=iR prog false (e.pt (e.pq x))) (L:=Lk) nl;have hnf:¬Lk.Fx d.ab:=by
  rintro(h|h|h|h|h|h)
  ·exact hD.abf h
  ·exact(big b0 sK.own).1 h.symm
  ·exact(big b1 je.own).1 h.symm
  ·exact(big b4 sN.own).1 h.symm
  ·exact(big bw hBw.own).1 h.symm
  ·exact(big bf YU.own).1 h.symm
 have hcell:∀{b:Nat} {v:aj} {t:az},OB b (.cells #[v] t) O2 w2->w2.cell? ⟨b,0,none⟩=some v:=fun h=>by simp[World.cell?,h.heap]
 have Rs:Jn Lk b0 b1 d.bc d.ba b4 (d.qb x) (e.pt (e.pq x)) d.ab x e.ms e.cb e.gE d.N d.iP i w2:=
  ⟨.inr (.inl rfl),.inr (.inr (.inl rfl)),.inl hE.bcf,.inl hD.Xk,.inr (.inr (.inr (.inl rfl))),.inl (hD.qs.fx x k3),hcell sK,hcell je,hrs.aZ hE.bcc hE.bcf,hrs.aZ hD.bac hD.Xk,hcell sN,hrs.aZ (hE.cq x k3) (hD.qs.fx x k3)⟩
 refine⟨⟨Lk,e.pq x,bw,VxF d e i x,fun _=>False,.uy,1,8,n,0⟩,rfl,⟨fun b h=>h.elim,⟨rfl,rfl,rfl,rfl,fun _ h=>h⟩,hq,⟨M6,Vs⟩,zcm _,?_,fun _ h=>h,?_,fun _ h=>h,⟨.inr (.inr (.inr (.inr (.inl rfl)))),hBw.own,fun h=>h⟩,?_,?_⟩,fun fu=>?_⟩
 ·rintro b (h|rfl|rfl|rfl|rfl|rfl)
  ·exact .inl h
  ·exact .inr ⟨sK.own,fun h=>h⟩
  ·exact .inr ⟨je.own,fun h=>h⟩
  ·exact .inr ⟨sN.own,fun h=>h⟩
  ·exact .inr ⟨hBw.own,fun h=>h⟩
  ·exact .inr ⟨YU.own,fun h=>h⟩
 ·rintro a ⟨j,hj,rfl⟩;exact⟨i,x,hx,AV,rfl,j,hj,rfl⟩
 ·rintro a u (⟨rfl,_⟩|⟨rfl,_⟩|⟨rfl,_⟩)
  ·exact⟨0,by omega,rfl⟩
  ·exact⟨1,by omega,rfl⟩
  ·exact⟨2,by omega,rfl⟩
 ·rintro a u ⟨i',x',hx',Dy,hr,hV⟩;have oB:i'=i:=by
   rcases Nat.lt_trichotomy i' i with h|h|h
   ·have:=d.JX h hx' Dy;omega
   ·exact h
   ·have:=d.JX h hx AV;omega
  subst oB;rw[hx]at hx';cases hx';exact hV
 ·have h:=hgo e.Wg bw bf b0 b1 d.bc d.ba b4 (d.qb x) (e.pt (e.pq x)) d.ab (e.kbp (e.pq x)) (e.fk (e.pq x)) (e.vl (e.pq x)) x e.ms e.cb e.gE d.N d.iP i ⟨fun _=>False,.lk .uy 1,fu⟩ w2 (zcm _) ((hE.part _ hq).more hrs (fun _ h=>.inl h) (fun _ h=>h)) FY hD.n8 hnf hD.abw (hE.vsz x k3)
   (fun j hj=>⟨⟨j,hj,rfl⟩,hD.cells hrs FY j hj⟩) Rs hE.ms8 hE.msb (fun k m hk=>by obtain⟨g,hg,h1,h2⟩:=hE.msc k m hk;exact⟨g,.inl hg,h1,hrs.aZ h2 hg⟩) hlk rfl (fun h=>h) (.inr (.inr (.inr (.inr (.inr rfl))))) (hcell YU) M6 Vs (.inr (.inr (.inr (.inr (.inl rfl))))) (by rw[<-M6];exact hcell hBw) vp
  refine h.weaken fun O g w hs=>?_;obtain⟨h1,⟨c1,c2,c3⟩,r,h2⟩:=hs;refine⟨h1,?_,r,h2⟩;rintro a u (⟨rfl,rfl⟩|⟨rfl,rfl⟩|⟨rfl,rfl⟩)
  ·exact c1
  ·exact c2
  ·exact c3
end
section
open Go Go.Conc Go.ConcN Go.RowKit Go.MuLone Go.Maps
open Go.ConcR (KK wgBlock WgAt stA smA rd wr mk Payload Aside2 DC0)
def QR(L:dY)(W:af)(d:fH)(b:ak)(cs:List ak)(O:aI)(g:au)(w:af):Prop:=
 ∃a todo,g=G {b.at a todo with mode:=.returning} cs/\S2 L W d O a w
def Yk{L:dY}{d:fH}{e:Tg}(hD:oT L W d)(hE:Po L W d e):qy (Ub L W d e off N0 (QR L W d b cs)):=by
 obtain⟨M6,Vs,wg3⟩:=hE.wg;refine⟨hE.inj,hE.Vt,hE.psb,hE.Zd,?_,?_,?_,?_,?_⟩
 ·rintro r a ⟨i,x,hx,AV,_,j,hj,rfl⟩;refine⟨rfl,hD.abs,fun h=>?_,fun h=>hD.abc _ h rfl,by rw[show (Ub L W d e off N0 (QR L W d b cs)).S.Wg=e.Wg from rfl,<-M6];exact Ne.symm hD.abw,hE.asb,fun q hq h=>hE.pta q hq h.symm⟩;obtain⟨i',x',hx',Dy,j',hj',h'⟩:=hE.mnn _ h;have:i*3+j=i'*3+j':=by injection h'
  obtain rfl:i=i':=by omega
  rw[hx]at hx';cases hx';exact AV Dy
 ·rintro r r' a ⟨i,x,hx,AV,h1,j,hj,rfl⟩ ⟨i',x',hx',am4,h1',j',hj',h'⟩;have:i*3+j=i'*3+j':=by injection h'
  obtain rfl:i=i':=by omega
  rw[<-h1,h1']
 ·show d.rem 0<=900;have h1:d.rem 0<=d.keys.length:=by unfold fH.rem;exact zco (List.length_filter_le _ _) (by simp)
  have:=hD.len;have:=hD.n8;omega
 ·rintro O g w ⟨a,todo,rfl,h⟩;exact⟨h.pos,rfl⟩
 ·rintro O g w w' ⟨a,todo,rfl,h⟩ hr;exact⟨a,todo,rfl,h.rely hD hr⟩
def Mi{L:dY}{d:fH}{e:Tg}{c n:Nat}{Stop:xC}(hD:oT L W d)(hE:Po L W d e)(PD:e.Wg<W.heap.size)(hsb:∀b,e.Sb b->b<W.heap.size)(hsh:∀b,L.Sh b->b<W.heap.size/\¬L.Fx b)(D:Nat->Wk):
 Geo (Ub L W d e off N0 Stop).S 0 (Hd (Ub L W d e off N0 Stop) ⟨fun _=>False,.sp c,n⟩ D) W:=by
 obtain⟨M6,Vs,wg3⟩:=hE.wg;have z:∀{i:Nat},i<=0->i=0:=fun h=>by omega
 have eL:(Hd (Ub L W d e off N0 Stop) ⟨fun _=>False,.sp c,n⟩ D 0).L=L:=rfl;have eO:∀b,¬(Hd (Ub L W d e off N0 Stop) ⟨fun _=>False,.sp c,n⟩ D 0).own b:=fun _ h=>h;refine⟨fun i hi=>?_,fun i hi=>?_,fun i b hi h=>?_,fun i b hi h=>?_,fun b hb=>?_,fun i k b hi hk h=>?_,fun i k b hi hk h=>?_,fun i k a hi hk h=>?_,fun i k a hi hk h=>?_,fun i k a hi hk _ _=>?_,fun i a hi h=>?_,fun i k a hi hk h=>?_,fun i b hi hb=>?_,fun i a hi h=>?_,fun i k b hi hk h=>?_⟩
 ·rw[z hi];exact⟨M6,Vs⟩
 ·rw[z hi];exact hD.top
 ·rw[z hi]at h;exact(eO b h).elim
 ·rw[z hi]at h;exact(hE.Ti b h).1
 ·rcases hb with(⟨q,hq,rfl⟩|rfl)|hb
  ·exact hE.ptl q hq
  ·exact PD
  ·exact hsb b hb
 ·rw[z hi]at h;exact(eO b h).elim
 ·rw[z hi]at h;exact(eO b h).elim
 ·rw[z hk];exact eO _
 ·rw[z hi]at h;rw[z hk];obtain⟨i',x,hx,AV,j,hj,rfl⟩:=hE.mnn a h;exact⟨hD.abf,fun h=>hD.abc _ h rfl⟩
 ·rw[z hi,z hk]
 ·rw[z hi]at h;rcases h with h|h
  ·obtain⟨i',x,hx,AV,j,hj,rfl⟩:=hE.mnn a h;rfl
  ·exact(hE.fcn a h).1
 ·rw[z hi]at h;rw[z hk];obtain⟨_,_,q,hq,hb⟩:=hE.fcn a h;exact⟨eO _,fun hf=>(hE.Ti _ hf).2.2.2.1 q hq hb⟩
 ·rw[z hi];refine⟨eO _,fun hf=>?_⟩;have h:=hE.Ti b hf;rcases hb with(⟨q,hq,hb⟩|hb)|hb
  ·exact h.2.2.2.1 q hq hb
  ·exact h.2.2.1 hb
  ·exact h.2.2.2.2 hb
 ·rw[z hi]at h;rcases h with h|h
  ·obtain⟨_,h2,q,hq,hb⟩:=hE.fcn a h;exact⟨by rw[hb];exact hE.Vt q hq,by rw[hb];exact hE.psb q hq,fun _ _ _=>h2⟩
  ·obtain⟨i',x,hx,AV,j,hj,rfl⟩:=hE.mnn a h;exact⟨by rw[show (Ub L W d e off N0 Stop).S.Wg=e.Wg from rfl,<-M6];exact Ne.symm hD.abw,hE.asb,fun q hq hb=>absurd hb.symm (hE.pta q hq)⟩
 ·rw[z hi]at h;rw[z hk];exact⟨(hsh b h).1,eO _,(hsh b h).2⟩
def Co{L:dY}{d:fH}{e:Tg}{k:List Item}{sl:Option (Nat×Nat)}{q:Nat->Nat}(hD:oT L W d)(hE:Po L W d e)(hsb:∀b,e.Sb b->b<W.heap.size)(hsh:∀b,L.Sh b->b<W.heap.size/\¬L.Fx b)
 (hb:b.fn=44) (hbk:b.kind≠.early) (hl:xU a d.pr d.ba d.bc L.Wg 0) (uh:bU 155 e.Wg ⟨0,false,0⟩ W) (Yl:∀p,p<e.np->dU (e.pt p) ⟨false,false,false,0⟩ 0 W)
 (h0:gs[0]?=some (G (b.at a (.code wS :: k)) cs)) (hL:Leavers prog t gs q) (hP:td (fun l=>∃a,l=.cell a/\e.Sb a.block) t) (hg:∀(i:Nat) (op:MemOp),t[i]?=some op->op.g<gs.size):
 ∃N gs' w' sl' t' a' todo q' O,runNT prog N (crowd gs W sl) t=(.next (crowd gs' w' sl'),t')/\gs'.size=gs.size+d.rem 0/\gs'[0]?=some (G {b.at a' todo with mode:=.returning} cs)/\S2 L W d O a' w'/\Leavers prog t' gs' q'/\td (fun l=>∃a,l=.cell a/\(e.Sb a.block\/a.block=e.Wg)) t'/\(∀(i:Nat) (op:MemOp),t'[i]?=some op->op.g<gs'.size)/\
  (∀p,p<e.np->dU (e.pt p) ⟨false,false,false,0⟩ 0 w')/\bU 155 e.Wg ⟨0,false,0⟩ w'/\(∀(i:Nat) (x:ah),d.keys[i]?=some x->¬d.En x->Ge d.ab i x (eP (e.vl (e.pq x)) x e.ms) (valueOf (e.vl (e.pq x) (eP (e.vl (e.pq x)) x e.ms)) x) w')/\EC W w':=by
 letI:=Om
 obtain⟨M6,Vs,wg3⟩:=hE.wg
 have hsz:0<gs.size:=(zcr.1 h0).1
 let X:Ph:=Ub L W d e (gs.size-1) t.size (QR L W d b cs)
 have hX:qy X:=Yk hD hE
 obtain⟨n,jh⟩:=aaV (L:=L) (bO:=X.bO)
 have hwp:=fun f=>jh W d ⟨fun _=>False,.mn (.sp (d.rem 0)),f⟩ a (fun O' e a' w'=>e=.ret/\S2 L W d O' a' w') hD (QO hD hE) hl rfl (fun _ h=>h.elim) (by rw[M6,Vs];exact uh.live) (fun O' a' w' h=>⟨rfl,h⟩) b k cs X.tY (fun _=>0) hb hbk (fun O' e a' w' hq=>by obtain⟨rfl,hq⟩:=hq;exact fun todo=>cD.stop fun w₁ h₁=>⟨a',todo,rfl,hq.rely hD h₁⟩)
 have PD:e.Wg<W.heap.size:=(zcr.1 uh).1
 let D:Nat->Wk:=fun _=>⟨L,0,0,fun _ _=>False,fun _=>False,.out,0,0,0,0⟩
 let M:Md:=⟨fun _=>False,.sp (d.rem 0),0+n⟩
 have hoff:X.off=gs.size-1:=rfl
 have hno:X.off+0+1=gs.size:=by rw[hoff];omega
 have hth:∀p i,iw D 0 p i=.out:=fun p i=>by simp[iw]
 have hI:Uc X (lg X 0 M D (fun _=>⟨false,false,false,0⟩) (fun _=>0),F7 X 0 M D (fun _=>false) q) gs W t:=by
  refine⟨lg X 0 M D (fun _=>⟨false,false,false,0⟩) (fun _=>0)+1,0,M,D,fun _=>false,fun _=>⟨false,false,false,0⟩,fun _=>0,⟨0,false,0⟩,q,by omega,⟨by omega,⟨_,h0,.run _ (zcm _) ?_⟩,fun i h1 h2=>?_,fun i hi=>absurd hi (zcx _),?_⟩,rfl⟩
  ·have h:=hwp (lg X 0 M D (fun _=>⟨false,false,false,0⟩) (fun _=>0)+1);rw[M6,Vs]at h;exact h
  ·have hlt:i<gs.size:=by omega
   exact⟨gs[i],Array.getElem?_eq_getElem hlt,hL.old i _ (by omega) (Array.getElem?_eq_getElem hlt)⟩
  ·refine⟨Nat.zero_le _,fun i hi=>absurd hi (zcx _),fun i k hi=>absurd hi (zcx _),fun i a hi=>absurd hi (zcx _),fun i hi=>absurd hi (zcx _),Mi hD hE PD hsb hsh D,fun p hp=>⟨Yl p hp,GV fun i _=>.inl (hth p i)⟩,⟨uh,Iw _ fun i _=>by simp[kX]⟩,fun i hi=>absurd hi (zcx _),(fun h=>by cases h),?_,hP.hears,fun i hi=>absurd hi (zcx _),fun j hj=>hL.above j (by omega),fun i a hi ha=>?_,fun j hj h=>?_,fun i hi=>absurd hi (zcx _),(fun h=>by cases h),Nat.lt_succ_self _,EC.refl W⟩
   ·exact LN hP fun i op h=>by have:=hg i op h;omega
   ·obtain⟨op,ho,_⟩:=touch_of ha;have:=lt_size_of_getElem? ho;have h2:t.size<=i:=hi;omega
   ·have:=lt_of_act? h;have h2:t.size<=j:=hj;omega
 obtain⟨N,gs',w',sl',t',hrun,Jt⟩:=Mj hX _ gs W sl t hI
 obtain⟨a0,f,own,q',f1,f2,⟨a',todo,f3,f4⟩,f5,f6,f7,f8,f9,f10,f11,f12⟩:=Jt.facts hX
 subst f3
 have hn:X.n=d.rem 0:=rfl
 refine⟨N,gs',w',sl',t',a',todo,q',_,hrun,by omega,f2,f4,f5,?_,fun i op h=>by have:=f10 i op h;omega,f7,f8,fun i x hx AV=>?_,f11⟩
 ·have e1:(fun l=>kU X.S l\/EX X.S.Wg l)=fun l=>∃a,l=.cell a/\(e.Sb a.block\/a.block=e.Wg):=by
   funext l;apply propext;constructor
   ·rintro(⟨a,h1,h2⟩|⟨a,h1,h2⟩)
    ·exact⟨a,h1,.inl h2⟩
    ·exact⟨a,h1,.inr h2⟩
   ·rintro⟨a,h1,h2|h2⟩
    ·exact .inl ⟨a,h1,h2⟩
    ·exact .inr ⟨a,h1,h2⟩
  rw[<-e1]
  exact f6
 ·have FZ:1<=d.rem i:=by have:=((d.oU hx).2 AV).1;omega
  have Rl:d.rem i<=d.rem 0:=by
   rcases Nat.eq_zero_or_pos i with h|h
   ·rw[h];exact zcm _
   ·have mono:∀j,d.rem j<=d.rem 0:=by intro j;unfold fH.rem;exact(List.Sublist.filter _ (List.drop_sublist j _)).length_le
    exact mono i
  have hv:=f9 (d.rem i) FZ Rl
  exact⟨hv _ _ ⟨i,x,hx,AV,rfl,.inl ⟨rfl,rfl⟩⟩,hv _ _ ⟨i,x,hx,AV,rfl,.inr (.inl ⟨rfl,rfl⟩)⟩,hv _ _ ⟨i,x,hx,AV,rfl,.inr (.inr ⟨rfl,rfl⟩)⟩⟩
end
section
open Go Go.RowKit Go.MuLone Go.Conc
open Go.Maps (Keyed)
def F8(s:MS)(A:SA)(i:Nat)(r:MR)(x:ah):ah->Bool:=
 if A.R.hv i (bH r.keys x)=true then
  (match s.ws[r.found (bH r.keys x)-1]? with
  |some m=>if s.mode=1 then cg (m.items.map Prod.fst)else if s.mode=3 then vi (lX (m.items.map Prod.fst))else fun _=>true
  |none=>fun _=>true)
 else fun _=>true
def jv(s:MS)(q:Nat)(n:Int):List KV:=match bI s n with
 |some m=>if m.dH q then bl s.parts m.items q else []
 |none=> []
def Cq:aj->Option aA
 |.slice a _ _=>a
 |_=>none
def Cr:aj->Nat
 |.slice _ _ c=>c
 |_=>0
def iL(s:MS)(A:SA)(i:Nat)(r:MR)(ab ba bc:Nat):fH where
 pr:=A.R.pr i
 ba:=ba
 bc:=bc
 kb:=((Cq (A.R.ks i)).map (·.block)).getD 0
 N:=r.keys.length
 bX:=Cr (A.R.ks i)
 ab:=ab
 iP:=r.keys.length
 qm:=A.R.qm i
 keys:=r.keys
 f:=cW A.R i r
 qb x:=A.R.qb i (bH r.keys x)
 p x:=bH r.keys x<r.keys.length/\r.keys[bH r.keys x]?=some x
 wn x:=r.found (bH r.keys x)
 hv x:=A.R.hv i (bH r.keys x)
 tv x:=A.R.tv i (bH r.keys x)
 ts x:=A.R.ts i (bH r.keys x)
 fm:=F8 s A i r
def YZ(s:MS)(A:SA)(wg:Nat)(ms:List Int)(cv:aj)(Sb:Nat->Prop):Tg where
 np:=s.parts
 pt:=A.pb
 kbp:=A.kb
 fk:=bM s A
 vl:=jv s
 pq x:=(partOf s.parts x).toNat
 cb:=Cq cv
 gE:=Cr cv
 ms:=ms
 Wg:=wg
 Sb:=Sb
section
variable {w0 W:af}{τ:Nat->Tag}{aO b:Nat}{s:MS}{A:SA}{i:Nat}{r:MR}{ab ba bc wg:Nat}{ms:List Int}{cv:aj}{Sb:Nat->Prop}
structure bp(w0 W:af)(τ:Nat->Tag)(aO b:Nat)(s:MS)(A:SA)(i:Nat)(r:MR)(ab ba bc wg:Nat)(ms:List Int)(cv:aj)(Sb:Nat->Prop):Prop where
 rep:a9 w0 τ aO b s A
 hr:s.rs[i]?=some r
 fin:r.fin=false
 same:∀k,k<w0.heap.size->k≠A.R.rm->W.heap[k]?=w0.heap[k]?
 AA:∃C,bg W ab C 62/\C.size=r.keys.length*3
 Sm:bg W ba #[.slice (some ⟨ab,0,none⟩) r.keys.length r.keys.length] 42
 Sn:bg W bc #[cv] 58
 cand:Cj r ms
 row:W.ownsRow w0.heap.size 3 1 cv ms.length (ms.map (Value.int .i64))
 Gj:bg W wg #[.int .u64 0,.int .u32 0] 155
 ord:w0.heap.size<=ab/\ab<ba/\ba<bc/\bc<wg
 N3:∀k,cv.ownBlock=some k->ba<k/\k<bc
 old:∀k,Sb k->k<w0.heap.size/\(τ k).1≠aO
def bp.blk(h:bp w0 W τ aO b s A i r ab ba bc wg ms cv Sb){k g:Nat}{c:Array aj}{t:az}(hb:bg w0 k c t)(ht:τ k=(aO,g,g'))(hg:g≠10):bg W k c t:=
 hb.of_eq (h.same k hb.lt fun e=>by rw[e,h.rep.reads.iq]at ht;simp at ht;omega)
def bp.map(h:bp w0 W τ aO b s A i r ab ba bc wg ms cv Sb){k g:Nat}{t:az}(hb:aS w0 prog t k f)(ht:τ k=(aO,g,g'))(hg:g≠10):aS W prog t k f:=
 hb.of_eq (h.same k hb.lt fun e=>by rw[e,h.rep.reads.iq]at ht;simp at ht;omega)
def bp.row'(h:bp w0 W τ aO b s A i r ab ba bc wg ms cv Sb){g:Nat}{e:az}{n:Nat}{xs:List aj}(hb:w0.ownsRow 0 e sz v n xs)(ht:∀k,v.ownBlock=some k->τ k=(aO,g,g'))(hg:g≠10):W.ownsRow 0 e sz v n xs:=
 aH hb fun k hk=>h.same k (aQ hb k hk).2 fun e=>by have:=ht k hk;rw[e,h.rep.reads.iq]at this;simp at this;omega
def bp.size(h:bp w0 W τ aO b s A i r ab ba bc wg ms cv Sb):w0.heap.size<=ab/\wg<W.heap.size:=⟨h.ord.1,h.Gj.lt⟩
def bp.pt(h:bp w0 W τ aO b s A i r ab ba bc wg ms cv Sb){q:Nat}(hq:q<s.parts):A.pb q<w0.heap.size:=(h.rep.part q hq).lt
def bp.hab(h:bp w0 W τ aO b s A i r ab ba bc wg ms cv Sb):(iL s A i r ab ba bc).ab<W.heap.size:=by have:=h.ord;have:=h.Gj.lt;show ab<_;omega
def bp.MX(h:bp w0 W τ aO b s A i r ab ba bc wg ms cv Sb):∀q,q< (YZ s A wg ms cv Sb).np->(YZ s A wg ms cv Sb).pt q<W.heap.size:=fun q hq=>by have:=h.pt hq;have:=h.ord;have:=h.Gj.lt;show A.pb q<_;omega
abbrev bp.L(h:bp w0 W τ aO b s A i r ab ba bc wg ms cv Sb):dY:=agl W (iL s A i r ab ba bc) (YZ s A wg ms cv Sb) h.hab h.MX
def bp.fx(h:bp w0 W τ aO b s A i r ab ba bc wg ms cv Sb){k g:Nat}(ht:τ k=(aO,g,g'))(hg:g≠2)(hk:k<w0.heap.size):h.L.Fx k:=by
 have h1:=h.ord;have h2:=h.Gj.lt;refine⟨by omega,fun e=>?_,fun e=>?_,fun q hq e=>?_,fun hs=>?_⟩
 ·have e':k=ab:=e;omega
 ·have e':k=wg:=e;omega
 ·have:=h.rep.dh q hq;have e':k=A.pb q:=e;rw[<-e',ht]at this;simp at this;omega
 ·exact(h.old k hs).2 (by rw[ht])
def bp.Ti(h:bp w0 W τ aO b s A i r ab ba bc wg ms cv Sb){k:Nat}(h1:ab<k)(h2:k<wg):h.L.Fx k:=by
 have h3:=h.ord;have h4:=h.Gj.lt;refine⟨by omega,fun e=>?_,fun e=>?_,fun q hq e=>?_,fun hs=>?_⟩
 ·have e':k=ab:=e;omega
 ·have e':k=wg:=e;omega
 ·have:=h.pt hq;have e':k=A.pb q:=e;omega
 ·have:=(h.old k hs).1;omega
def bp.q(h:bp w0 W τ aO b s A i r ab ba bc wg ms cv Sb){x:ah}(hx:(iL s A i r ab ba bc).p x):bg W (A.R.qb i (bH r.keys x)) #[ptr (A.pb (partOf s.parts x).toNat),.bool (r.asked (bH r.keys x)),.int .i64 (r.found (bH r.keys x)),.bool (A.R.hv i (bH r.keys x)),.string (A.R.tv i (bH r.keys x)),A.R.ts i (bH r.keys x)] 146:=
 h.blk (h.rep.reads.q i r _ x h.hr h.fin hx.2) (h.rep.reads.lu i r _ x h.hr h.fin hx.2) (by omega)
def bp.found(h:bp w0 W τ aO b s A i r ab ba bc wg ms cv Sb){j:Nat}{x:ah}(hx:r.keys[j]?=some x):r.found j<=200:=by
 by_cases e:r.found j=0
 ·omega
 ·obtain⟨m,hm,_⟩:=h.rep.told.fm i r j x h.hr h.fin hx e;have:=aM hm;have:=h.rep.ok.len;omega
def bp.KY(h:bp w0 W τ aO b s A i r ab ba bc wg ms cv Sb){x:ah}(hx:(iL s A i r ab ba bc).p x):rA h.L W (A.R.ts i (bH r.keys x)) (F8 s A i r x):=by
 unfold F8;cases hv:A.R.hv i (bH r.keys x)with
 |false=>
  rw[(h.rep.told.t0 i r _ x h.hr h.fin hx.2 hv).2];simp only[Bool.false_eq_true,if_false];exact .none
 |true=>
  obtain⟨m,hm,_,h2⟩:=h.rep.told.tv i r _ x h.hr h.fin hx.2 hv;rw[h2,hm];simp only[if_true];have hl:=(h.rep.ok.items _ m hm).1;have hs:=h.rep.KY _ m hm;generalize A.sv (r.found (bH r.keys x)-1)=sv at hs;generalize r.found (bH r.keys x)-1=n at hs;generalize hmo:s.mode=mode at hs;cases hs with
  |keys v h3 h4=>
   simp only[if_true];have h5:=h.row' h3 h4 (by omega);obtain⟨a,cap,rfl⟩:=cy h5;refine .keys a (m.items.map Prod.fst) cap (by simpa using hl) fun k y hy=>?_;have hk:=aM hy;obtain⟨g,cap',e,_,_,hc,_⟩:=cJ h5 (by omega);cases e;refine⟨g,h.fx (h4 g rfl) (by omega) (aQ h3 g rfl).2,rfl,?_⟩;rw[hc k (by omega),List.getElem?_map,hy];rfl
  |mask=>
   simp only[show ¬((3:Int)=1) by omega,if_false,if_true];exact .mask _
  |none e1 e3=>
   simp only[e1,e3,if_false];exact .none
def Tj{k:az}{b n:Nat}{D:DataW aj}(h:u.ownsMap P k aV b n D)(hs:Says D f)(K:Keyed P k){L:List Lit}(hnd:L.Pairwise (fun a b=>a≠b))(hL:∀kl,f kl≠none↔kl∈L):Maps.size D=L.length:=by
 obtain⟨n2,D2,⟨wV,GZ,j9,_,_,hD2⟩,hsz⟩:=aS.size ⟨n,D,h,hs⟩ K hnd hL;obtain⟨es,clock,hb,F,hn,hD⟩:=h;obtain⟨rfl,rfl⟩:wV=es/\GZ=clock:=by rw[hb]at j9;injection j9 with e;injection e with e1 e2;exact⟨e1.symm,e2.symm⟩
 rw[hD,<-hD2];exact hsz
def bp.abG(h:bp w0 W τ aO b s A i r ab ba bc wg ms cv Sb):∃g cap,A.R.ks i=.slice (some ⟨g,0,none⟩) r.keys.length cap/\h.L.Fx g/\∀(j:Nat) (x:ah),r.keys[j]?=some x->W.cell? ⟨g,j,none⟩=some (.string x):=by have h1:=(h.rep.ok.keys i r h.hr).1;have hk:=h.rep.reads.ky i r h.hr h.fin;obtain⟨g,cap,e,_,_,hc,_⟩:=cJ (h.row' hk (fun k=>h.rep.reads.dJ i r k h.hr h.fin) (by omega)) (by omega);refine⟨g,cap,e,h.fx (h.rep.reads.dJ i r g h.hr h.fin (by rw[e];rfl)) (by omega) (aQ hk g (by rw[e];rfl)).2,fun j x hx=>?_⟩;have hj:=aM hx;rw[hc j (by omega),List.getElem?_map,hx];rfl
def bp.tvz(h:bp w0 W τ aO b s A i r ab ba bc wg ms cv Sb){x:ah}(hx:r.keys[j]?=some x):(A.R.tv i j).size<=64:=by
 cases hv:A.R.hv i j with
 |false=>rw[(h.rep.told.t0 i r j x h.hr h.fin hx hv).1];exact Nat.zero_le _
 |true=>
  obtain⟨m,hm,t1,_⟩:=h.rep.told.tv i r j x h.hr h.fin hx hv;exact G0 (h.rep.ok.items _ m hm).2 t1
def bp.w7(h:bp w0 W τ aO b s A i r ab ba bc wg ms cv Sb){x:ah}(hx:r.keys[j]?=some x):bH r.keys x=j/\(iL s A i r ab ba bc).p x:=by have e:=me (h.rep.ok.keys i r h.hr).2.2.2 hx;have hj:=aM hx;exact⟨e,by show bH r.keys x<_/\_;rw[e];exact⟨hj,hx⟩⟩
def bp.abE(h:bp w0 W τ aO b s A i r ab ba bc wg ms cv Sb):oT h.L W (iL s A i r ab ba bc):=by
 have ho:=h.ord;have hg:=h.Gj.lt;obtain⟨k1,k8,kg,knd⟩:=h.rep.ok.keys i r h.hr;obtain⟨g,cap,ek,hgf,hgc⟩:=h.abG;have hrd:=h.blk (h.rep.reads.rd i r h.hr h.fin) (h.rep.reads.iI i r h.hr h.fin) (by omega);have hrl:=(h.rep.reads.rd i r h.hr h.fin).lt;have hql:=(h.rep.reads.vV i r h.hr h.fin).lt;have ekb:(iL s A i r ab ba bc).kb=g:=by show ((Cq (A.R.ks i)).map (·.block)).getD 0=g;rw[ek];rfl
 have ekc:(iL s A i r ab ba bc).bX=cap:=by show Cr (A.R.ks i)=cap;rw[ek];rfl
 refine⟨⟨h.fx (h.rep.reads.iI i r h.hr h.fin) (by omega) hrl,hrd.cell (o:=4) rfl,h.fx (h.rep.reads.mI i r h.hr h.fin) (by omega) hql,h.map (h.rep.reads.vV i r h.hr h.fin) (h.rep.reads.mI i r h.hr h.fin) (by omega),oY A.R i r,
  fun x hx=>h.fx (h.rep.reads.lu i r _ x h.hr h.fin hx.2) (by omega) (h.rep.reads.q i r _ x h.hr h.fin hx.2).lt,fun x hx=>(h.q hx).cell (o:=2) rfl,fun x hx=>(h.q hx).cell (o:=3) rfl,fun x hx=>(h.q hx).cell (o:=4) rfl,fun x hx=>(h.q hx).cell (o:=5) rfl,fun x hx=>h.KY hx,fun x hx=>by have:=h.found hx.2;show r.found _<=1000;omega⟩,
  fun u n D hu hs=>?_,fun x hx=>?_,rfl,k8,?_,by rw[ekb];exact hgf,fun j x hx=>?_,h.Ti (k:=ba) ho.2.1 (by omega),h.Sm.cell (o:=0) rfl,fun x hx=>?_,fun hf=>hf.2.1 rfl,fun a ha e=>?_,fun e=>?_,.inl rfl,?_,h.hab,fun j x hx hE jj hjj=>⟨j,x,hx,hE,jj,hjj,rfl⟩,⟨fun hf=>hf.2.2.1 rfl,fun a ha e=>?_,fun a ha e=>?_,.inr (.inl rfl),hg⟩,zcm _⟩
 ·rw[Tj hu hs fT (s7 knd) AZ];simpa[jC]using k8
 ·obtain⟨hj,_⟩:=hx;simp[iL,cW,uG,hj]
 ·rw[ekb,ekc];have:=hrd.cell (o:=3) (v:=A.R.ks i) rfl;rw[ek]at this;exact this
 ·obtain⟨e,hp⟩:=h.w7 hx;have DW:=kg x (zct hx);refine⟨by rw[ekb];exact hgc j x hx,by have:=(cZ DW).2;omega,hp,?_⟩;have hj:=hp.1;simp only[iL,cW,uG,hj,if_true];rfl
 ·have:=h.tvz hx.2;show (A.R.tv i _).size<=1000;omega
 ·obtain⟨_,_,q,hq,hb⟩:=ha;have:=h.pt hq;have e1:a.block=A.pb q:=hb;have e2:a.block=ab:=e;omega
 ·have e1:wg=ab:=e;omega
 ·obtain⟨C,hC,hs⟩:=h.AA;exact⟨C,_,hC,hs⟩
 ·obtain⟨_,_,q,hq,hb⟩:=ha;have:=h.pt hq;have e1:a.block=A.pb q:=hb;have e2:a.block=wg:=e;omega
 ·obtain⟨j,x,_,_,jj,_,rfl⟩:=ha;have e2:ab=wg:=e;omega
def bp.keeps(h:bp w0 W τ aO b s A i r ab ba bc wg ms cv Sb)(q:Nat)(m:Int):∃ad cap sv,(bM s A q (.int .i64 m)).getD (.agg #[.slice none 0 0,.nilIface])=.agg #[.slice ad (jv s q m).length cap,sv]/\(jv s q m).length<=8/\
 ∀(k:Nat) (x:KV),(jv s q m)[k]?=some x->∃g,h.L.Fx g/\ad=some ⟨g,0,none⟩/\W.cell? ⟨g,k*2,none⟩=some (.string x.1)/\W.cell? ⟨g,k*2+1,none⟩=some (.string x.2):=by
 cases hf:bI s m with
 |none=>
  have e:jv s q m= []:=by unfold jv;rw[hf]
  rw[e];exact⟨none,0,.nilIface,by simp[bM,hf],by simp,fun k x hx=>by simp at hx⟩
 |some mw=>
  cases hp:mw.dH q with
  |false=>
   have e:jv s q m= []:=by unfold jv;rw[hf];simp[hp]
   rw[e];exact⟨none,0,.nilIface,by simp[bM,hf,hp],by simp,fun k x hx=>by simp at hx⟩
  |true=>
   have e:jv s q m=bl s.parts mw.items q:=by unfold jv;rw[hf];simp[hp]
   rw[e];obtain⟨_,_,hm,hc⟩:=eI hf;have D6:=h.rep.inv.po _ mw q hm hp;have hrow:=h.rep.it _ mw q hm hc D6;obtain⟨g,cap,hiv,_,_,hcell,_⟩:=cJ (h.row' hrow (fun k=>h.rep.eZ _ mw q k hm hc D6) (by omega)) (oZ D6);refine⟨some ⟨g,0,none⟩,cap,A.sv (m-1).toNat,by simp only[bM,hf,hp,if_true,Option.getD_some];rw[hiv],zco (nE _ _ _) (h.rep.ok.items _ mw hm).1,fun k x hx=>?_⟩;obtain⟨e1,e2⟩:=nB _ k x hx;have hk:=aM hx;exact⟨g,h.fx (h.rep.eZ _ mw q g hm hc D6 (by rw[hiv];rfl)) (by omega) (aQ hrow g (by rw[hiv];rfl)).2,rfl,by rw[hcell (k*2) (by omega),e1],by rw[hcell (k*2+1) (by omega),e2]⟩
def bp.vsz(h:bp w0 W τ aO b s A i r ab ba bc wg ms cv Sb)(q:Nat)(n:Int)(x:ah):(valueOf (jv s q n) x).size<=64:=by
 unfold valueOf;cases hf:(jv s q n).find? (fun y=>decide (y.1=x))with
 |none=>exact Nat.zero_le _
 |some y=>
  have hy:=List.mem_of_find?_eq_some hf;unfold jv at hy;split at hy
  ·rename_i mw hm;split at hy
   ·have hy2:y∈mw.items:=(List.mem_filter.1 hy).1;obtain⟨_,_,hm',_⟩:=eI hm;exact(gN ((h.rep.ok.items _ mw hm').2 y hy2)).2.2
   ·cases hy
  ·cases hy
def bp.agi(h:bp w0 W τ aO b s A i r ab ba bc wg ms cv Sb):Po h.L W (iL s A i r ab ba bc) (YZ s A wg ms cv Sb):=by
 have ho:=h.ord;have hg:=h.Gj.lt;have hp1:=h.rep.ok.p1;have hw0:wg≠ab:=by omega
 obtain⟨ca,gE,ecv⟩:=cy h.row;have ecb:(YZ s A wg ms cv Sb).cb=ca:=by show Cq cv=ca;rw[ecv];rfl
 have ecc:(YZ s A wg ms cv Sb).gE=gE:=by show Cr cv=gE;rw[ecv];rfl
 refine⟨fun x _=>?_,fun q hq=>⟨⟨rfl,zcm _,q,hq,rfl⟩,h.fx (h.rep.cF q hq) (by omega) (h.rep.kept q hq).lt,(h.blk (h.rep.part q hq) (h.rep.dh q hq) (by omega)).cell (o:=2) rfl,h.map (h.rep.kept q hq) (h.rep.cF q hq) (by omega),fun m _ _=>?_⟩,fun x hx=>(h.q hx).cell (o:=0) rfl,h.Ti (k:=bc) (by omega) (by omega),?_,h.cand.le,fun m hm=>?_,fun k m hk=>?_,fun x hx=>?_,fun q q' hq fA e=>?_,fun q hq e=>?_,fun q hq e=>?_,fun q hq hs=>?_,fun hs=>?_,fun hs=>?_,fun a ha=>ha,fun a ha=>ha,fun q hq=>.inr (.inr (.inl ⟨q,hq,rfl⟩)),fun k hk=>hk,⟨rfl,rfl,rfl⟩,h.MX⟩
 ·have:=dW (s.parts:Int) x (by omega);show (partOf s.parts x).toNat<s.parts;omega
 ·exact h.keeps q m
 ·rw[ecb,ecc];have:=h.Sn.cell (o:=0) (v:=cv) rfl;rw[ecv]at this;exact this
 ·obtain⟨j,x,hx,rfl⟩:=h.cand.of m hm;have:=h.found hx;omega
 ·have hk':ms[k]?=some m:=hk;have ot:=aM hk';obtain⟨g,cap',e,_,_,hc,_⟩:=cJ h.row (by omega);have h3:=h.N3 g (by rw[e];rfl);refine⟨g,h.Ti (by omega) (by omega),by rw[ecb];rw[ecv]at e;cases e;rfl,?_⟩;rw[hc k (by omega),List.getElem?_map,hk'];rfl
 ·have:=h.vsz (partOf s.parts x).toNat (eP (jv s (partOf s.parts x).toNat) x ms) x;show (valueOf (jv s (partOf s.parts x).toNat (eP (jv s (partOf s.parts x).toNat) x ms)) x).size<=1000;omega
 ·have h1:=h.rep.dh q hq;have h2:=h.rep.dh q' fA;have e':A.pb q=A.pb q':=e;rw[e',h2]at h1;simpa using h1.symm
 ·have:=h.pt hq;have e1:A.pb q=wg:=e;omega
 ·have:=h.pt hq;have e1:A.pb q=ab:=e;omega
 ·exact(h.old _ hs).2 (by show (τ (A.pb q)).1=aO;rw[h.rep.dh q hq])
 ·have:=(h.old _ hs).1;have:wg<w0.heap.size:=this;omega
 ·have:=(h.old _ hs).1;have:ab<w0.heap.size:=this;omega
end
end
section
open Go Go.RowKit Go.MuLone Go.Conc
open Go.Maps (Keyed)
noncomputable def fnBody:Code:=f23.body.getD .skip
noncomputable def ED:Code:=cB (cB (cB (cB (cB fnBody))))
def opsOf:Code->Array Oper
 |.region _ ops _=>ops
 |_=>#[]
def So(fr:ak):Prop:=∃(b:ak) (a:Act),fr=b.at a [.inRegion (opsOf (cA ED)) (1 :: [2,3,4,5,6]),.code (cB ED)]/\b.fn=23/\b.kind=.normal/\a.defers= []/\a.tmps.size=33
def XG:ED=.seq (.region 8 (opsOf (cA ED)) false) (cB ED):=by kernel_rfl
def Pp:List.range (opsOf (cA ED)).size= [0,1,2,3,4,5,6]:=by kernel_rfl
def abH:∃o,(opsOf (cA ED))[0]?=some o/\o.guard=none/\o.dst=some 27/\o.op=.move (.tmp 7):=by refine⟨((opsOf (cA ED))[0]?).getD default,?_,?_,?_,?_⟩ <;>kernel_rfl
def Vd:∃o,(opsOf (cA ED))[1]?=some o/\o.guard=none/\o.dst=some 28/\∃cl:Call,o.op=.call cl/\cl.callee=.value (.func 44)/\cl.args=#[.tmp 27]:=by refine⟨((opsOf (cA ED))[1]?).getD default,?_,?_,?_,(match (((opsOf (cA ED))[1]?).getD default).op with|.call cl=>cl|_=>default),?_,?_,?_⟩ <;>kernel_rfl
def run_move{o:Oper}{x:aD}(h:o.op=.move x)(w:af):(execOp a.eval o).run P w=.ok (.value (a.eval x)) w:=by unfold execOp;rw[h];rfl
def AH{o:Oper}{f:ay}{fn:Func}{c:Code}{cl:Call}(h1:o.op=.call cl)(h2:cl.callee=.value (.func f))(g1:P.funcs[f]?=some fn)(g2:(fn.name == "runtime.NumGoroutine")=false)(g3:fn.body=some c)(w:af):(execOp a.eval o).run P w=.ok (.enter f (cl.args.map a.eval)) w:=by
 have e:execOp a.eval o=callFunc f (cl.args.map a.eval):=by unfold execOp;rw[h1];simp only[resolve,h2,Act.eval,Deferred.ofValue];show invoke (.fn (.func f) #[]) (#[]++cl.args.map _)=_;simp[invoke]
 rw[e,<-Sem.runT_fst P _ w #[],fJ g1 g2 g3]
def Tl{w:af}(h7:a.tmps[7]?=some v)(hs:a.tmps.size=33)(h:To prog Q (Frame.enter prog 44 #[v] .normal) (b.at (a.put (some 27) v) [.inRegion (opsOf (cA ED)) (1 :: [2,3,4,5,6]),.code (cB ED)] :: c) w):To prog Q (b.at a [.code ED]) c w:=by
 rw[XG];refine .step (fun _=>step_seq) (.region ?_);rw[Pp];obtain⟨o0,q1,q2,q3,q4⟩:=abH;obtain⟨o1,r1,r2,r3,cl,r4,r5,r6⟩:=Vd;refine To.op q1 (cU q2 _) (run_move q4 _) ?_;rw[q3];have e7:a.eval (.tmp 7)=v:=by simp[Act.eval,Array.getD_eq_getD_getElem?,h7]
 rw[e7];refine To.enter r1 (cU r2 _) (AH r4 r5 func44 (by kernel_rfl) rfl _) ?_;have e27:cl.args.map (a.put (some 27) v).eval=#[v]:=by rw[r6];simp[Act.eval,Act.put,Array.getD_eq_getD_getElem?,hs]
 rw[e27];exact h
section
variable {w:af}{τ:Nat->Tag}{aO b:Nat}{s:MS}{A:SA}
structure BU(w:af)(τ:Nat->Tag)(aO b:Nat)(s:MS)(A:SA)(i:Nat)(r:MR)(Sb:Nat->Prop)(c:List ak)(fr:ak)(c':List ak)(w':af):Prop where
 intro ::
 ex:∃(bf:ak) (a:Act) (ab ba bc wg:Nat) (ms:List Int) (cv:aj) (fF:ak),fr=bf.at a [.code wS]/\bf.fn=44/\bf.kind=.normal/\c'=fF :: c/\So fF/\xU a (A.R.pr i) ba bc wg 0/\bp w w' τ aO b s A i r ab ba bc wg ms cv Sb/\(∃w3,a9 w3 τ aO b (nW s i r) A/\w3.heap.size<=ab/\∀k,k<w3.heap.size->w'.heap[k]?=w3.heap[k]?)/\Stp aO τ w τ w'
def KB(h:a9 w τ aO b s A)(n:Int)(hn: -9223372036854775808<=n)(hn':n<=9223372036854775807)(r:MR)(hf:fP s n=some r)(ha:hU r=true)(Sb:Nat->Prop)(Wq:∀k,Sb k->k<w.heap.size/\(τ k).1≠aO)(c:List ak):
 To prog (BU w τ aO b s A (n-1).toNat r Sb c) (Frame.enter prog 23 #[ptr b,.int .i64 n] .normal) c w:=by
 have Y0:=tu h n hn hn';obtain⟨h1,h2,hr,hc⟩:=vw hf;have hv:gP s A n=(ptr (A.R.pr (n-1).toNat),true):=by unfold gP;rw[hf]
 rw[hv]at Y0;obtain⟨i,hi⟩:∃i:Nat,(n-1).toNat=i:=⟨_,rfl⟩
 have hni:n=(i:Int)+1:=by omega
 subst hni;rw[hi]at hr Y0⊢;have c2:∀w1,vX w w1->Calls prog 42 #[ptr (A.R.pr i)] w1 fun e w'=>e=.returned (.bool true)/\Below w1.heap.size w1 w':=fun w1 hS=>by have:=x9 (h.same hS) hr hc;rw[ha]at this;exact this
 have hrn:dK s.rs A.R (.int .i64 ((i:Int)+1))=some (ptr (A.R.pr i)):=by have h9:ed s.rs ((i:Int)+1)=some r:=hf;simp only[dK,h9,hi]
 have abI:∀(j:Nat) (x:ah),r.keys[j]?=some x->zO (A.R.ts i j):=fun j x hx=>by
  cases hv:A.R.hv i j with
  |false=>rw[(h.told.t0 i r j x hr hc hx hv).2];exact .inl rfl
  |true=>
   obtain⟨m,hm,_,t2⟩:=h.told.tv i r j x hr hc hx hv;rw[t2];exact h.told.sv _ m hm
 have c3:∀w2:af,a9 w2 τ aO b s A->Calls prog 43 #[ptr b,.int .i64 ((i:Int)+1)] w2 fun e w'=>e=.returned (.bool true)/\a9 w' τ aO b (nW s i r) A/\Stp aO τ w2 τ w'/\Seen w' A i r/\(∀k,k≠A.R.rm->w'.heap[k]?=w2.heap[k]?)/\w'.heap.size=w2.heap.size:=fun w2 h2'=>by
  have:=ya b A.R.rm _ _ h2'.blk rfl rfl h2'.reads.rC ((i:Int)+1) hn hn';rw[hrn]at this;refine this.mono ?_;rintro e w3 ⟨rfl,JC,kB⟩;have hne:∀{k g g':Nat},τ k=(aO,g,g')->g≠10->w3.heap[k]?=w2.heap[k]? :=fun ht hg=>kB.block _ (fun e=>by rw[e,h2'.reads.iq]at ht;simp at ht;omega);obtain⟨k1,k2,k3,k4⟩:=h2'.ok.keys i r hr;refine⟨rfl,h2'.fin hr hc kB.block JC,⟨kB.os,kB.tape,kB.output,Nat.le_of_eq kB.size.symm,fun _ _=>rfl,fun k _ hk=>kB.block k (fun e=>hk (by rw[e,h2'.reads.iq]))⟩,⟨k4,k1,k2,fun x hx=>(cZ (k3 x hx)).2,?_,?_,fun j x hx=>⟨ptr (A.pb (partOf s.parts x).toNat),?_⟩,?_,abI⟩,kB.block,kB.size⟩
  ·exact(h2'.reads.rd i r hr hc).of_eq (hne (h2'.reads.iI i r hr hc) (by omega))
  ·exact(h2'.reads.vV i r hr hc).of_eq (hne (h2'.reads.mI i r hr hc) (by omega))
  ·exact(h2'.reads.q i r j x hr hc hx).of_eq (hne (h2'.reads.lu i r j x hr hc hx) (by omega))
  ·exact aH (h2'.reads.ky i r hr hc) (fun k hk=>hne (h2'.reads.dJ i r k hr hc hk) (by omega))
 have H0:Hid (a9 w τ aO b s A):=h;have HR:Hid (s.rs[i]?=some r):=hr;have HSB:Hid (∀k,Sb k->k<w.heap.size/\(τ k).1≠aO):=Wq;unfold ptr at Y0 c2 c3⊢;clear hf hv ha hrn h hi h1 h2 hr abI Wq;have HN:∃m:Int,(i:Int)+1=m:=⟨_,rfl⟩
 obtain⟨m,hm⟩:=HN;rw[hm]at Y0 c3 hn hn'⊢;clear hm;rw[enter_at func23 rfl];walk_nrmf ntmps23;refine To.cj fun K hK=>?_;go_wp2_with fail
 refine To.cj fun K hK=>?_;go_wp2_with fail
 refine Y0.mono ?_;rintro e w1 ⟨rfl,hS⟩;have d2:=c2 w1 hS;have HR1:Hid (a9 w1 τ aO b s A):=H0.out.same hS;clear Y0 c2;go_wp2_with fail
 refine To.cj fun K hK=>?_;go_wp2_with fail
 refine To.cj fun K hK=>?_;go_wp2_with fail
 refine d2.mono ?_;rintro e w2 ⟨rfl,hB⟩;have HR2:Hid (a9 w2 τ aO b s A):=HR1.out.below hB;have d3:=c3 w2 HR2.out;clear d2 c3;go_wp2_with fail
 refine To.cj fun K hK=>?_;go_wp2_with fail
 refine d3.mono ?_;rintro e w3 ⟨rfl,DU,G2,Ve,hE3,hz3⟩;clear d3;go_wp2_with fail
 refine Tl (v:=.pointer (some ⟨A.R.pr i,0,none⟩)) rfl rfl ?_;refine(Li Ve _).then ?_
 rintro fr c' w' ⟨rfl,bf,a,ab,ba,bc,wg,ms,cv,rfl,iz,j9,hl,hF⟩;refine To.done ⟨bf,a,ab,ba,bc,wg,ms,cv,_,rfl,iz,j9,rfl,⟨_,_,rfl,rfl,rfl,rfl,?_⟩,hl,?_,⟨w3,DU,hF.ord.1,hF.below.block⟩,?_⟩
 ·rfl
 ·have vU:w1.heap.size=w.heap.size:=by rw[hS.heap]
  have Cp:=hB.size;have ho:=hF.ord;refine⟨H0.out,HR.out,hc,fun k hk hne=>?_,hF.AA,hF.Sm,hF.Sn,hF.cand,sI hF.row (by omega),hF.Gj,⟨by omega,ho.2⟩,hF.N3,HSB.out⟩;rw[hF.below.block k (by omega),hE3 k hne,hB.block k (by omega),hS.heap]
 ·exact((hS.ou _ _).trans (jB hB)).trans (G2.trans (jB hF.below))
end
def Tm(T:Array aj)(h:T.size=33):∃f:Nat->aj,T=#[f 0,f 1,f 2,f 3,f 4,f 5,f 6,f 7,f 8,f 9,f 10,f 11,f 12,f 13,f 14,f 15,f 16,f 17,f 18,f 19,f 20,f 21,f 22,f 23,f 24,f 25,f 26,f 27,f 28,f 29,f 30,f 31,f 32]:=⟨fun i=>T.toList.getD i undef,oK T 33 h⟩
def Tn:List.range' 2 ((opsOf (cA ED)).toList.drop 2).length= [2,3,4,5,6]:=by kernel_rfl
def Sr(hF:So fF){w:af}{sl:aj}{n:Int}(h:∀fr:ak,fr.fn=23->fr.leaving prog w (.returned (.tuple #[sl,.int .i64 n,.int .i64 0]))->To prog Q fr c w):To prog Q (fF.finish (.tuple #[sl,.int .i64 n])) c w:=by
 obtain⟨b,⟨tms,w8⟩,rfl,hb,hk,hd,hs⟩:=hF;simp only at hd hs;subst hd;obtain⟨o1,r1,r2,r3,cl,r4,r5,r6⟩:=Vd;rw[dc r1,r3,<-Tn];refine To.Ay fun K hK=>?_;rw[kC];obtain⟨f,rfl⟩:=Tm tms hs;dsimp only[ED,fnBody,cA,cB,opsOf,f23,Option.getD_some,Act.put];simp only[List.drop];go_wp2_with fail
 clear r1 r2 r3 r4 r5 r6 hs;refine To.last (R:=fun a' w'=>w'=w/\a'.defers= []/\a'.tmps.getD 4 undef=sl/\a'.tmps.getD 5 undef=.int .i64 n/\a'.tmps.getD 6 undef=.int .i64 0) ?_ rfl ?_
 ·dsimp only[ED,fnBody,cA,cB,opsOf,f23,Option.getD_some];go_wp2_with fail
 ·rintro a' todo w' ⟨rfl,d0,q4,q5,q6⟩;refine h _ hb ⟨rfl,d0,hk,f23,by show prog.funcs[b.fn]?=_;rw[hb];exact func23,?_⟩;rw[<-q4,<-q5,<-q6];simp[results,Frame.at]
end
section
open Go Go.RowKit Go.MuLone Go.Conc
def DI:∀b,1<=b->b<64->gY (iM b)=0:=by
 have:∀b,b<64->(1<=b->gY (iM b)=0):=by decide+kernel
 exact fun b h1 h2=>this b h2 h1
section
variable {w wr:af}
end
end
section
open Go Go.RowKit Go.MuLone Go.Conc
open Go.Maps (Keyed)
section
variable {w W W':af}{τ:Nat->Tag}{aO b:Nat}{s:MS}{A:SA}{i:Nat}{r:MR}{ab ba bc wg:Nat}{ms:List Int}{cv:aj}{Sb:Nat->Prop}
structure xq(H:bp w W τ aO b s A i r ab ba bc wg ms cv Sb)(w2:af):Prop where
 rs:RS H.L W w2
 Wp:∀(j:Nat) (x:ah),r.keys[j]?=some x->(iL s A i r ab ba bc).En x->Ge ab j x ((iL s A i r ab ba bc).wn x) ((iL s A i r ab ba bc).tv x) w2
 ZL:∀(j:Nat) (x:ah),r.keys[j]?=some x->¬(iL s A i r ab ba bc).En x->Ge ab j x (eP (jv s (partOf s.parts x).toNat) x ms) (valueOf (jv s (partOf s.parts x).toNat (eP (jv s (partOf s.parts x).toNat) x ms)) x) w2
 mu:∀q,q<s.parts->dU (A.pb q) ⟨false,false,false,0⟩ 0 w2
 Gj:bU 155 wg ⟨0,false,0⟩ w2
 kp:EC W w2
 rep:a9 w2 (fresh τ ab) aO b (nW s i r) A
 old:oJ Sb W->oJ (fun k=>Sb k\/k=wg) w2
def bp.mu(h:bp w W τ aO b s A i r ab ba bc wg ms cv Sb){q:Nat}(hq:q<s.parts):dU (A.pb q) ⟨false,false,false,0⟩ 0 W:=by have hb:=h.blk (h.rep.part q hq) (h.rep.dh q hq) (by omega);have iz:W.heap[A.pb q]?=some (.cells #[eN,fV,.map (some (A.kb q)),.map (some (A.vb q))] 202):=hb;exact⟨hb.cell (o:=0) rfl,hb.cell (o:=1) rfl,fun o=>by simp[World.frozen?,iz]⟩
def bp.after(h:bp w W τ aO b s A i r ab ba bc wg ms cv Sb)(h3:a9 w3 τ aO b (nW s i r) A)(h4:w3.heap.size<=ab)(h5:∀k,k<w3.heap.size->W.heap[k]?=w3.heap[k]?)(hr:RS h.L W w2)(hm:∀q,q<s.parts->dU (A.pb q) ⟨false,false,false,0⟩ 0 w2):a9 w2 (fresh τ ab) aO b (nW s i r) A:=by
 refine h3.frame fun k hk ht=>⟨?_,by unfold fresh;rw[if_neg (by omega)]⟩
 have h1:=h.ord;have h2:=h.Gj.lt;by_cases hp:∃q,q<s.parts/\k=A.pb q
 ·obtain⟨q,hq,rfl⟩:=hp;have hb:w3.heap[A.pb q]?=some (.cells #[eN,fV,.map (some (A.kb q)),.map (some (A.vb q))] 202 (0,0)):=h3.part q hq;obtain⟨c,e1,e2⟩:=hr.sh (A.pb q) _ _ _ (.inr (.inr (.inl ⟨q,hq,rfl⟩))) ((h5 _ hk).trans hb);have hW:bg W (A.pb q) #[eN,fV,.map (some (A.kb q)),.map (some (A.vb q))] 202:=(h5 _ hk).trans hb;have g0:=(hm q hq).word;have g1:=(hm q hq).sema;have g2:=(hr.GB ⟨A.pb q,2,none⟩ ⟨rfl,by simp,q,hq,rfl⟩).trans (hW.cell (o:=2) rfl);have g3:=(hr.GB ⟨A.pb q,3,none⟩ ⟨rfl,by simp,q,hq,rfl⟩).trans (hW.cell (o:=3) rfl);have e3:c.size=4:=e2;rw[e1,hb];congr 2;have hc:∀o:Nat,w2.cell? ⟨A.pb q,o,none⟩=c[o]? :=fun o=>by simp[World.cell?,e1]
  rw[hc]at g0 g1 g2 g3;apply Array.ext_getElem?;intro o;match o with
  | 0=>exact g0
  | 1=>exact g1
  | 2=>exact g2
  | 3=>exact g3
  |o+4=>rw[Array.getElem?_eq_none (by omega),Array.getElem?_eq_none (by simp)]
 ·rw[hr.blk k (by omega) ⟨by omega,fun e=>?_,fun e=>?_,fun q hq e=>hp ⟨q,hq,e⟩,fun e=>(h.old k e).2 ht⟩,h5 k hk]
  ·have e':k=ab:=e;omega
  ·have e':k=wg:=e;omega
def bp.gw(h:bp w W τ aO b s A i r ab ba bc wg ms cv Sb):bU 155 wg ⟨0,false,0⟩ W:=h.Gj
end
def Tc{d:Nat}{fr':ak}(h:zJ uu d fr c)(hf:fr.fn=44)(e1:fr'.fn=fr.fn)(e2:fr'.kind=fr.kind)(e3:fr'.roundOf=fr.roundOf)(e4:fr'.defers= [])(e5:fr'.mode=.returning):zJ uu 0 fr' c:=by
 obtain⟨out,⟨h1,h2⟩,h3⟩:=h;have hout:out=0:=by
  obtain⟨a,ha⟩:=h1.jS;rw[hf]at ha;have h4:=Cn.two _ _ _ ha;rcases Nat.lt_or_ge a 1 with h5|h5
  ·obtain rfl:a=0:=by omega
   have e:uu.jS 44 0=some 0:=by kernel_rfl
   rw[e]at ha;cases ha;rfl
  ·obtain rfl:a=1:=by omega
   have e:uu.jS 44 1=none:=by kernel_rfl
   rw[e]at ha;cases ha
 subst hout;refine⟨0,⟨⟨by rw[e3];exact h1.round,(fun x hx=>by rw[e4]at hx;simp at hx),by rw[e2];exact h1.kind,by rw[e1];exact h1.jS,.inr (.inl e4)⟩,?_⟩,by rw[e2];exact h3⟩;unfold gO;rw[e5];show 0=0+oC uu fr';unfold oC;rw[e1,hf];rfl
section
variable {w v:af}{τ:Nat->Tag}{aO b:Nat}{s:MS}{A:SA}{i:Nat}{r:MR}{Sb:Nat->Prop}
def Kz{wg:Nat}{ms:List Int}{bf:ak}{q:Nat->Nat}{d:Nat}(H:bp w W τ aO b s A i r ab ba bc wg ms cv Sb)(hb:bf.fn=44)(hk:bf.kind=.normal)(hl:xU a (A.R.pr i) ba bc wg 0)
 (DU:a9 w3 τ aO b (nW s i r) A) (hR4:w3.heap.size<=ab) (YK:∀k,k<w3.heap.size->W.heap[k]?=w3.heap[k]?) (hC:Crowd prog uu Sb d (bf.at a [.code wS]) (fF :: c0) cs gs t q) (sl:Option (Nat×Nat)):
 ∃(N:Nat) (gs':Array au) (w2:af) (sl':Option (Nat×Nat)) (t':Trace) (q':Nat->Nat) (Ds:ak),
  runNT prog N (crowd gs W sl) t=(.next (crowd gs' w2 sl'),t')/\Crowd prog uu (fun k=>Sb k\/k=wg) 0 Ds (fF :: c0) cs gs' t' q'/\
  (∀w',Ds.leaving prog w' (.returned (.tuple #[.slice (some ⟨ab,0,none⟩) r.keys.length r.keys.length,.int .i64 ((iL s A i r ab ba bc).om (iL s A i r ab ba bc).N:Nat)])))/\xq H w2:=by
 have hd:d=0:=Td hC.stk hb rfl rfl
 subst hd
 have hP:td (JB Sb) t:=hC.past.abD hC.deaf
 have h1:=H.size
 have h2:=H.ord
 obtain⟨N,gs',w2,sl',t',a',todo,q',O,r1,r2,r3,r4,r5,r6,r7,r8,r9,r10,r11⟩:=Co (sl:=sl) H.abE H.agi (fun k hk=>by have:=(H.old k hk).1;omega) (fun k hk=>by
  refine⟨?_,fun hx=>?_⟩
  ·rcases hk with hk|hk|⟨q,hq,hk⟩|hk
   ·rw[hk];exact H.hab
   ·rw[hk];exact h1.2
   ·rw[hk];exact H.MX q hq
   ·have:=(H.old k hk).1;omega
  ·rcases hk with hk|hk|⟨q,hq,hk⟩|hk
   ·exact hx.2.1 hk
   ·exact hx.2.2.1 hk
   ·exact hx.2.2.2.1 q hq hk
   ·exact hx.2.2.2.2 hk) hb (by rw[hk];decide) hl H.gw (fun p hp=>H.mu hp) hC.at0 hC.lv hP hC.bd
 refine⟨N,gs',w2,sl',t',q',{bf.at a' todo with mode:=.returning},r1,⟨r3,Tc hC.stk hb rfl rfl rfl r4.d0 rfl,r6.hears,r5,r6.abF,r7⟩,fun w'=>⟨rfl,r4.d0,hk,f44,by show prog.funcs[bf.fn]?=_;rw[hb];exact func44,?_⟩,⟨r4.rs,fun j x hx he=>r4.AA j x hx he,fun j x hx he=>r10 j x hx he,r8,r9,r11,H.after DU hR4 YK r4.rs r8,fun ho k hk=>?_⟩⟩
 ·have q2:=r4.r2
  have q3:=r4.r3
  simp[results,Frame.at,Array.getD_eq_getD_getElem?,q2,q3]
  exact⟨rfl,rfl,rfl⟩
 ·rcases hk with hk|rfl
  ·obtain⟨C,T,g1,g2⟩:=ho k hk
   obtain⟨C',g3,g4⟩:=r4.rs.sh k C T _ (.inr (.inr (.inr hk))) g2
   exact⟨C',T,by rw[g4];exact g1,g3⟩
  ·exact⟨_,_,by simp,r9⟩
end
end
section
open Go Go.RowKit Go.MuLone Go.Conc
def bz:Nat->Code->Code
 | 0,c=>c
 |n+1,c=>bz n (cB c)
section
variable {w:af}
end
end
section
open Go Go.RowKit Go.MuLone Go.Conc
def su(s:MS):Prop:=∀(i:Nat) (m:MW) (q:Nat),s.ws[i]?=some m->m.comm q=true->fo s.parts m=true
def Nc(s:MS)(n:Nat)(x:ah):Prop:=n≠0/\∃m,s.ws[n-1]?=some m/\aP m.items x=true
structure zI(s:MS)(r:MR)(x:ah)(n:Nat):Prop where
 one:n=0\/Nc s n x/\∃(j:Nat) (y:ah),r.keys[j]?=some y/\r.found j=n
 top:∀(j:Nat) (y:ah),r.keys[j]?=some y->Nc s (r.found j) x->r.found j<=n
def zI.eq{s:MS}{x:ah}{n:Nat}(h:zI s r x n)(k:zI s r x m):n=m:=by
 have key:∀{n m:Nat},zI s r x n->zI s r x m->n<=m:=fun{n m} h k=>by
  rcases h.one with e|⟨h1,j,y,h2,h3⟩
  ·omega
  ·rw[<-h3]at h1⊢;exact k.top j y h2 h1
 exact Nat.le_antisymm (key h k) (key k h)
def Gl(b:BitVec 64):BitVec.ofInt IntKind.u64.bits (IntKind.u64.wrap (b.toNat:Int))=b:=by
 have h1:IntKind.u64.wrap (b.toNat:Int)=(b.toNat:Int):=by have:=b.isLt;simp[IntKind.wrap,IntKind.signed,IntKind.bits];omega
 rw[h1];show BitVec.ofInt 64 (b.toNat:Int)=b;simp
def DZ(m n:Int):BitVec.ofInt IntKind.u64.bits (UQ m n)=BitVec.ofInt IntKind.u64.bits m |||BitVec.ofInt IntKind.u64.bits n:=Gl _
def AG:∀(K:List ah) (m:Int) (b:BitVec 64),BitVec.ofInt 64 m &&& b=b->BitVec.ofInt 64 (K.foldl (fun m x=>UQ m (jg x)) m)&&& b=b
 | [],_,_,h=>h
 |x :: K,m,b,h=>AG K _ b (by have e:BitVec.ofInt 64 (UQ m (jg x))=BitVec.ofInt 64 m |||BitVec.ofInt 64 (jg x):=DZ m (jg x);rw[e];ext i hi;have:=congrArg (fun z=>z.getLsbD i) h;simp only[BitVec.getLsbD_and]at this;simp only[BitVec.getElem_and,BitVec.getElem_or,BitVec.getLsbD_eq_getElem hi]at this⊢;revert this;cases b[i]<;>cases (BitVec.ofInt 64 m)[i]<;>simp)
def D3:∀(K:List ah) (m:Int) (x:ah),x∈K->BitVec.ofInt 64 (K.foldl (fun m x=>UQ m (jg x)) m)&&& BitVec.ofInt 64 (jg x)=BitVec.ofInt 64 (jg x)
 |y :: K,m,x,h=>by
  rcases zcw.1 h with rfl|h
  ·refine AG K _ _ ?_;have e:BitVec.ofInt 64 (UQ m (jg x))=BitVec.ofInt 64 m |||BitVec.ofInt 64 (jg x):=DZ m (jg x);rw[e];ext i hi;simp only[BitVec.getElem_and,BitVec.getElem_or];cases (BitVec.ofInt 64 (jg x))[i]<;>simp
  ·exact D3 K _ x h
def Sq(x:ah):(BitVec.ofInt 64 (jg x)).toNat≠0:=by
 have h0:(jK x.data.toList % 64).toNat<64:=by omega
 unfold jg;generalize (jK x.data.toList % 64).toNat=k at h0;have:∀k,k<64->(BitVec.ofInt 64 (IntKind.u64.wrap (2 ^ k))).toNat≠0:=by decide+kernel
 exact this k h0
def N5{x:ah}(h:x∈K):vi (lX K) x=true:=by
 have h1:=D3 K 0 x h;unfold vi lX;rw[show (BitVec.ofInt IntKind.u64.bits (K.foldl (fun m x=>UQ m (jg x)) 0)&&& BitVec.ofInt IntKind.u64.bits (jg x))=BitVec.ofInt IntKind.u64.bits (jg x)from h1];have h2:=Sq x;have h3:∀b:BitVec 64,b.toNat≠0->(!(IntKind.u64.wrap (b.toNat:Int)== 0))=true:=fun b hb=>by
  have:=b.isLt;have h4:IntKind.u64.wrap (b.toNat:Int)=(b.toNat:Int):=by simp[IntKind.wrap,IntKind.signed,IntKind.bits];omega
  rw[h4];simp only[Bool.not_eq_true',beq_eq_false_iff_ne];omega
 exact h3 _ h2
def D4{l:List KV}{x:ah}:aP l x=cg (l.map Prod.fst) x:=by unfold aP cg;rw[List.any_map];rfl
def Jh{vl:Int->List KV}{x:ah}:∀(ms:List Int) (g:Int),let z:=ms.foldl (fun g m=>if aP (vl m) x then(if m > g then m else g)else g) g;g<=z/\(z=g\/(z∈ms/\aP (vl z) x=true))/\∀m∈ms,aP (vl m) x=true->m<=z
 | [],g=>⟨Int.le_refl _,.inl rfl,fun m hm=>by cases hm⟩
 |m :: ms,g=>by
  have ih:=Jh (vl:=vl) (x:=x) ms (if aP (vl m) x then(if m > g then m else g)else g);simp only[List.foldl_cons]at ih⊢;obtain⟨h1,h2,h3⟩:=ih;generalize ms.foldl _ _=z at h1 h2 h3⊢;cases hk:aP (vl m) x with
  |false=>
   simp only[hk,Bool.false_eq_true,if_false]at h1 h2;refine⟨h1,h2.imp id fun h=>⟨zcs _ h.1,h.2⟩,fun m' hm' hk'=>?_⟩;rcases zcw.1 hm' with rfl|hm'
   ·rw[hk]at hk';cases hk'
   ·exact h3 m' hm' hk'
  |true=>
   simp only[hk,if_true]at h1 h2;refine⟨by split at h1<;>omega,?_,fun m' hm' hk'=>?_⟩
   ·rcases h2 with h2|h2
    ·split at h2
     ·subst h2;exact .inr ⟨List.mem_cons_self ..,hk⟩
     ·exact .inl h2
    ·exact .inr ⟨zcs _ h2.1,h2.2⟩
   ·rcases zcw.1 hm' with rfl|hm'
    ·split at h1<;>omega
    ·exact h3 m' hm' hk'
def BV{n q:Int}{x:ah}(hx:partOf n x=q):∀(l:List KV),(bl n l q).find? (fun y=>decide (y.1=x))=l.find? (fun y=>decide (y.1=x))
 | []=>rfl
 |y :: l=>by
  have ih:=BV hx l;unfold bl at ih⊢;by_cases e:y.1=x
  ·rw[List.filter_cons_of_pos (by rw[e];simpa using hx),List.find?_cons_of_pos (by simpa using e),List.find?_cons_of_pos (by simpa using e)]
  ·rw[List.find?_cons_of_neg (l:=l) (by simpa using e),List.filter_cons];split
   ·rw[List.find?_cons_of_neg (by simpa using e),ih]
   ·exact ih
section
variable {w W w2:af}{τ:Nat->Tag}{aO b:Nat}{s:MS}{A:SA}{i:Nat}{r:MR}{ab ba bc wg:Nat}{ms:List Int}{cv:aj}{Sb:Nat->Prop}
def bp.Gm(H:bp w W τ aO b s A i r ab ba bc wg ms cv Sb)(hca:su s)(hy:r.keys[j]?=some y)(h0:r.found j≠0):∃m,s.ws[r.found j-1]?=some m/\bI s (r.found j:Int)=some m/\aP m.items y=true/\fo s.parts m=true:=by
 obtain⟨m,h1,h2,h3⟩:=H.rep.told.fm i r j y H.hr H.fin hy h0;refine⟨m,h1,?_,h2,hca _ m _ h1 h3⟩;have hl:=aM h1;unfold bI;rw[if_neg (by omega),show ((r.found j:Int)-1).toNat=r.found j-1 by omega,h1];have hc:m.dP=false:=by
  cases hc:m.dP with
  |false=>rfl
  |true=>have:=H.rep.inv.cc _ m (partOf s.parts y).toNat h1 hc;rw[this]at h3;cases h3
 simp[hc]
def Ji{m:MW}{n:Int}(hP:1<=s.parts)(hf:bI s n=some m)(ha:fo s.parts m=true){x:ah}:(jv s (partOf s.parts x).toNat n).find? (fun y=>decide (y.1=x))=m.items.find? (fun y=>decide (y.1=x)):=by
 have hb:=dW (s.parts:Int) x (by omega);unfold jv;rw[hf];simp only;cases hk:m.items.find? (fun y=>decide (y.1=x))with
 |none=>
  split
  ·rw[BV (by omega),hk]
  ·rfl
 |some y=>
  have hy:=List.find?_some hk;have hm:=List.mem_of_find?_eq_some hk;have D6:aJ s.parts m.items ((partOf s.parts x).toNat:Int)=true:=by unfold aJ;rw[List.any_eq_true];refine⟨y,hm,?_⟩;simp only[decide_eq_true_eq]at hy⊢;rw[hy];omega
  have hp:m.dH (partOf s.parts x).toNat=true:=by unfold fo at ha;rw[List.all_eq_true]at ha;have:=ha (partOf s.parts x).toNat (List.mem_range.2 (by omega));rw[D6]at this;simpa using this
  rw[if_pos hp,BV (by omega),hk]
def xq.answers{H:bp w W τ aO b s A i r ab ba bc wg ms cv Sb}(h:xq H w2)(hca:su s){x:ah}(hx:r.keys[j]?=some x):
 ∃(n:Nat) (val:ah),zI s r x n/\Ge ab j x (n:Int) val w2/\(n=0->val=⟨#[]⟩)/\∀m,n≠0->s.ws[n-1]?=some m->fO m.items x=some val:=by
 have hi:=(H.w7 (j:=j) (x:=x) hx).1;have hP:=H.rep.ok.p1;by_cases hE:(iL s A i r ab ba bc).En x
 ·have ha:=h.Wp j x hx hE;have e1:(iL s A i r ab ba bc).wn x=r.found j:=by show r.found (bH _ x)=_;rw[hi]
  rw[e1]at ha;have htv:(iL s A i r ab ba bc).tv x=A.R.tv i j:=by show A.R.tv i (bH _ x)=_;rw[hi]
  have hhv:(iL s A i r ab ba bc).hv x=A.R.hv i j:=by show A.R.hv i (bH _ x)=_;rw[hi]
  have hH:=H.rep.told.hv i r j x H.hr H.fin hx;refine⟨r.found j,_,⟨?_,fun j' y hy hw=>?_⟩,ha,fun h0=>?_,fun m h0 hm=>?_⟩
  ·by_cases h0:r.found j=0
   ·exact .inl h0
   ·obtain⟨m,h1,_,h2,_⟩:=H.Gm hca hx h0;exact .inr ⟨⟨h0,m,h1,h2⟩,j,x,hx,rfl⟩
  ·refine Nat.le_of_not_lt fun hlt=>?_;have hp:=H.w7 hy;refine hE.2 y hp.2 ⟨by rw[e1];show _<r.found (bH _ y);rw[hp.1];exact hlt,?_⟩;show F8 s A i r y x=true;unfold F8;obtain⟨_,m,hm,hk⟩:=hw;rw[hp.1,hm];split
   ·simp only;rw[D4]at hk;split
    ·exact hk
    ·split
     ·exact N5 (gp.1 hk)
     ·rfl
   ·rfl
  ·have:A.R.hv i j=false:=by rw[hH,h0];simp
   rw[htv];exact(H.rep.told.t0 i r j x H.hr H.fin hx this).1
  ·have:A.R.hv i j=true:=by
    cases hv:A.R.hv i j with
    |true=>rfl
    |false=>exact absurd ⟨by rw[e1];exact h0,by rw[hhv];exact hv⟩ hE.1
   obtain⟨m',t1,t2,_⟩:=H.rep.told.tv i r j x H.hr H.fin hx this;rw[hm]at t1;cases t1;rw[htv];exact t2
 ·have ha:=h.ZL j x hx hE;obtain⟨g1,g2,g3⟩:=Jh (vl:=jv s (partOf s.parts x).toNat) (x:=x) ms 0;have eg:eP (jv s (partOf s.parts x).toNat) x ms=ms.foldl (fun g m=>if aP (jv s (partOf s.parts x).toNat m) x then(if m > g then m else g)else g) 0:=rfl;rw[<-eg]at g1 g2 g3;generalize eP (jv s (partOf s.parts x).toNat) x ms=z at ha g1 g2 g3;obtain⟨n,rfl⟩:∃n:Nat,z=n:=⟨z.toNat,by omega⟩
  have hn:n=0\/∃j' y m,r.keys[j']?=some y/\r.found j'=n/\n≠0/\s.ws[n-1]?=some m/\bI s (n:Int)=some m/\fo s.parts m=true:=by
   by_cases h0:n=0
   ·exact .inl h0
   ·rcases g2 with g2|⟨g2,_⟩
    ·omega
    ·obtain⟨j',y,hy,e⟩:=H.cand.of _ g2;have e':r.found j'=n:=by omega
     obtain⟨m,q1,q2,_,q4⟩:=H.Gm hca hy (by omega);rw[e']at q1 q2;exact .inr ⟨j',y,m,hy,e',h0,q1,q2,q4⟩
  refine⟨n,_,⟨?_,fun j' y hy hw=>?_⟩,ha,fun h0=>?_,fun m h0 hm=>?_⟩
  ·rcases hn with h0|⟨j',y,m,hy,e,h0,q1,q2,q4⟩
   ·exact .inl h0
   ·rcases g2 with g2|⟨_,g2⟩
    ·omega
    ·refine .inr ⟨⟨h0,m,q1,?_⟩,j',y,hy,e⟩;rw[gG,Ji hP q2 q4,<-gG]at g2;exact g2
  ·obtain⟨m,q1,q2,_,q4⟩:=H.Gm hca hy hw.1;obtain⟨_,m',hm',hk⟩:=hw;rw[q1]at hm';cases hm';have:=g3 _ (H.cand.all j' y hy) (by rw[gG,Ji hP q2 q4,<-gG];exact hk);omega
  ·subst h0;show valueOf (jv s _ 0) x=_;unfold jv bI;rw[if_pos (by omega)];rfl
  ·rcases hn with h0'|⟨j',y,m',hy,e,_,q1,q2,q4⟩
   ·exact absurd h0' h0
   ·rw[hm]at q1;cases q1;rcases g2 with g2|⟨_,g2⟩
    ·omega
    ·unfold fO valueOf;rw[gG,Ji hP q2 q4]at g2;rw[Ji hP q2 q4];cases hk:m.items.find? (fun y=>decide (y.1=x))with
     |none=>rw[hk]at g2;cases g2
     |some y=>rfl
end
end
section
open Go Go.RowKit Go.MuLone Go.Conc
def bp.fxo{w:af}{b:Nat}{s:MS}{wg:Nat}{ms:List Int}{Sb:Nat->Prop}(h:bp w W τ aO b s A i r ab ba bc wg ms cv Sb){k:Nat}(hk:k<w.heap.size)(ht:(τ k).1≠aO)(hs:¬Sb k):h.L.Fx k:=by
 have h1:=h.ord;have h2:=h.Gj.lt;refine⟨by omega,fun e=>?_,fun e=>?_,fun q hq e=>?_,hs⟩
 ·have e':k=ab:=e;omega
 ·have e':k=wg:=e;omega
 ·have:=h.rep.dh q hq;have e':k=A.pb q:=e;rw[<-e']at this;rw[this]at ht;exact ht rfl
def N9{m m1:Machine}{t1:Trace}{a:Nat}(b:Nat)(h:runNT P a m t=(.next m1,t1)):runN P (a+b) m=runN P b m1:=by rw[<-runNT_fst P _ _ t,<-runNT_fst P _ _ t1,mg a b h]
def Gp{w:af}{f:Func}{t:Tmp}(h:fr.leaving P w (.returned v))(hi:P.inits.idxOf? fr.fn=none)(hf:P.funcs[fr.fn]?=some f)(ht:f.results=#[.tmp t]):stepG P true (G fr []) w=.ended (.done v) w #[]:=by
 obtain⟨hm,hd,hk,fn,hf',hr⟩:=h;rw[hf]at hf';cases hf';have e:Sem.events P (results f fr.tmps) w #[]=#[]:=by simp[results,ht]
 simp[G,stepG,unwind,doReturn,hm,hd,hk,hf,hr,hi,e,seen,GStep.after]
end
section
open Go Go.RowKit Go.MuLone Go.Conc
noncomputable def NZ(Sb:Nat->Prop)(W w:af):af:={w with heap:=w.heap.mapIdx fun i o=>open Classical in if Sb i then(W.heap[i]?).getD o else o}
section
variable {w v W:af}{τ:Nat->Tag}{aO b:Nat}{s:MS}{A:SA}{i:Nat}{r:MR}{ab ba bc wg:Nat}{ms:List Int}{cv:aj}{Sb:Nat->Prop}
def kG:(NZ Sb W w).heap.size=w.heap.size:=by simp[NZ]
def BS{k:Nat}(h:¬Sb k):(NZ Sb W w).heap[k]?=w.heap[k]? :=by simp only[NZ,Array.getElem?_mapIdx,if_neg h];cases w.heap[k]? <;>rfl
def N1{k:Nat}(h:Sb k)(hk:k<w.heap.size)(hW:k<W.heap.size):(NZ Sb W w).heap[k]?=W.heap[k]? :=by simp only[NZ,Array.getElem?_mapIdx,if_pos h];rw[Array.getElem?_eq_getElem hk,Array.getElem?_eq_getElem hW];rfl
def bp.Wo(h:bp w v τ aO b s A i r ab ba bc wg ms cv Sb)(hs:cx Sb v W):bp (NZ Sb W w) W τ aO b s A i r ab ba bc wg ms cv Sb:=by
 have ho:=h.ord;have hn:∀{k:Nat},w.heap.size<=k->W.heap[k]?=v.heap[k]? :=fun{k} hk=>(hs.same k fun e=>by have:=(h.old k e).1;omega).symm;obtain⟨C,hC,hz⟩:=h.AA;refine⟨h.rep.frame fun k _ ht=>⟨BS fun e=>(h.old k e).2 ht,rfl⟩,h.hr,h.fin,fun k hk hne=>?_,⟨C,hC.of_eq (hn ho.1),hz⟩,h.Sm.of_eq (hn (by omega)),h.Sn.of_eq (hn (by omega)),h.cand,?_,h.Gj.of_eq (hn (by omega)),by rw[kG];exact ho,h.N3,fun k hk=>by rw[kG];exact h.old k hk⟩
 ·rw[kG]at hk;by_cases e:Sb k
  ·rw[N1 e hk (hs.lt e)]
  ·rw[BS e,<-hs.same k e,h.same k hk hne]
 ·rw[kG];exact aH h.row fun k hk=>hn (by have:=(h.N3 k hk).1;omega)
def Gk{q:Nat->Nat}{d:Nat}(hA:BU w τ aO b s A i r Sb c0 fr c v)(hC:Crowd prog uu Sb d fr c cs gs t q)(hv:cx Sb v W)(sl:Option (Nat×Nat)):
 ∃(ab ba bc wg:Nat) (ms:List Int) (cv:aj) (fF:ak) (H:bp (NZ Sb W w) W τ aO b s A i r ab ba bc wg ms cv Sb) (N:Nat) (gs':Array au) (w2:af) (sl':Option (Nat×Nat)) (t':Trace) (q':Nat->Nat) (Ds:ak),
  c=fF :: c0/\So fF/\runNT prog N (crowd gs W sl) t=(.next (crowd gs' w2 sl'),t')/\Crowd prog uu (fun k=>Sb k\/k=wg) 0 Ds (fF :: c0) cs gs' t' q'/\
  (∀w',Ds.leaving prog w' (.returned (.tuple #[.slice (some ⟨ab,0,none⟩) r.keys.length r.keys.length,.int .i64 ((iL s A i r ab ba bc).om (iL s A i r ab ba bc).N:Nat)])))/\xq H w2/\Stp aO τ w τ v:=by
 obtain⟨bf,a,ab,ba,bc,wg,ms,cv,fF,rfl,hb,hk,rfl,hF,hl,hI,⟨w3,DU,hR4,YK⟩,hS⟩:=hA.ex
 have H:=hI.Wo hv
 obtain⟨N,gs',w2,sl',t',q',Ds,r1,r2,r3,r4⟩:=Kz (w3:=NZ Sb W w3) H hb hk hl (DU.frame fun k _ ht=>⟨BS fun e=>(hI.old k e).2 ht,rfl⟩) (by rw[kG];exact hR4) (fun k hk=>by
  rw[kG]at hk;by_cases e:Sb k
  ·rw[N1 e hk (hv.lt e)]
  ·rw[BS e,<-hv.same k e,YK k hk]) hC sl
 exact⟨ab,ba,bc,wg,ms,cv,fF,H,N,gs',w2,sl',t',q',Ds,rfl,hF,r1,r2,r3,r4,hS⟩
end
def jI(Q:(Nat->Prop)->ak->List ak->af->Prop)(Sb:Nat->Prop)(fr:ak)(c:List ak)(W:af):Prop:=
 ∀(cs:List ak) (gs:Array au) (t:Trace) (q:Nat->Nat) (d:Nat) (sl:Option (Nat×Nat)),oJ Sb W->Crowd prog uu Sb d fr c cs gs t q->
  ∃N Jb gs' fr' c' W' sl' t' q' d',runNT prog N (crowd gs W sl) t=(.next (crowd gs' W' sl'),t')/\Q Jb fr' c' W'/\oJ Jb W'/\Crowd prog uu Jb d' fr' c' cs gs' t' q'
section
variable {Q Q':(Nat->Prop)->ak->List ak->af->Prop}{Sb:Nat->Prop}{fr:ak}{c:List ak}{W:af}
def jI.done(h:Q Sb fr c W):jI Q Sb fr c W:=fun _ gs t q d sl hp hC=>⟨0,Sb,gs,fr,c,W,sl,t,q,d,rfl,h,hp,hC⟩
def jI.lone{R:ak->List ak->af->Prop}(hR:∀fr c v tp n,R fr c v->R fr c (wt v tp n))(h:∀tp n,Reach prog R fr c (wt (gF Sb W) tp n))(hq:∀fr c v W,R fr c v->cx Sb v W->jI Q Sb fr c W):jI Q Sb fr c W:=fun cs gs t q d sl hp hC=>by
 obtain⟨N,gs1,fZ,c1,v1,W1,sl1,t1,q1,d1,r1,_,r3,r4,r5⟩:=beside hR hC hp h sl;have hp1:oJ Sb W1:=fun k hk=>by obtain⟨C,T,h0,_,h2⟩:=r4.gF k hk;exact⟨C,T,h0,h2⟩
 obtain⟨N2,Sb2,ZK,Ds,c2,W2,Sp,t2,q2,d2,s1,s2,s3,s4⟩:=hq fZ c1 v1 W1 r3 r4 cs gs1 t1 q1 d1 sl1 hp1 r5;exact⟨N+N2,Sb2,ZK,Ds,c2,W2,Sp,t2,q2,d2,(mg N N2 r1).trans s1,s2,s3,s4⟩
def jI.finish{w v:af}{b:Nat}{s:MS}(hA:BU w τ aO b s A i r Sb c0 fr c v)(hv:cx Sb v W)
 (hq:∀(ab ba bc wg:Nat) (ms:List Int) (cv:aj) (fF:ak) (H:bp (NZ Sb W w) W τ aO b s A i r ab ba bc wg ms cv Sb) (w2:af) (Ds:ak),So fF->(∀w',Ds.leaving prog w' (.returned (.tuple #[.slice (some ⟨ab,0,none⟩) r.keys.length r.keys.length,.int .i64 ((iL s A i r ab ba bc).om (iL s A i r ab ba bc).N:Nat)])))->xq H w2->Stp aO τ w τ v->jI Q (fun k=>Sb k\/k=wg) Ds (fF :: c0) w2):jI Q Sb fr c W:=fun cs gs t q d sl hp hC=>by obtain⟨ab,ba,bc,wg,ms,cv,fF,H,N,gs1,w2,sl1,t1,q1,Ds,rfl,hF,r1,r2,r3,r4,r5⟩:=Gk hA hC hv sl;obtain⟨N2,Sb2,ZK,fr3,c2,W2,Sp,t2,q2,d2,s1,s2,s3,s4⟩:=hq ab ba bc wg ms cv fF H w2 Ds hF r3 r4 r5 cs gs1 t1 q1 0 sl1 (r4.old hp) r2;exact⟨N+N2,Sb2,ZK,fr3,c2,W2,Sp,t2,q2,d2,(mg N N2 r1).trans s1,s2,s3,s4⟩
end
end
section
open Go Go.RowKit Go.MuLone Go.Conc
def Na(r:MR)(x:ah):Nat:=r.found (bH r.keys x)
def wZ(s:MS)(r:MR):Prop:=s.mode=2/\1<r.keys.length
def VD(s:MS)(r:MR)(y x:ah):Prop:=wZ s r\/Na r y=0\/∀m,s.ws[Na r y-1]?=some m->(s.mode=1->cg (m.items.map Prod.fst) x=true)/\(s.mode=3->vi (lX (m.items.map Prod.fst)) x=true)
def EnM(s:MS)(r:MR)(x:ah):Prop:=¬(Na r x≠0/\wZ s r)/\∀y∈r.keys,¬(Na r x<Na r y/\VD s r y x)
section
variable {w W w2:af}{τ:Nat->Tag}{aO b:Nat}{s:MS}{A:SA}{i:Nat}{r:MR}{ab ba bc wg:Nat}{ms:List Int}{cv:aj}{Sb:Nat->Prop}
def bp.hvM(H:bp w W τ aO b s A i r ab ba bc wg ms cv Sb)(hy:y∈r.keys):A.R.hv i (bH r.keys y)=false↔wZ s r\/Na r y=0:=by obtain⟨j,hj⟩:=List.getElem?_of_mem hy;have e:=(H.w7 hj).1;rw[e,H.rep.told.hv i r j y H.hr H.fin hj,H.rep.told.no i r H.hr H.fin];unfold wZ Na;rw[e];by_cases h1:s.mode=2<;>by_cases h2:1<r.keys.length<;>by_cases h3:r.found j=0<;>simp[h1,h2,h3]
def bp.fmM(H:bp w W τ aO b s A i r ab ba bc wg ms cv Sb){x:ah}(hy:y∈r.keys):F8 s A i r y x=true↔VD s r y x:=by
 unfold F8 VD;cases hv:A.R.hv i (bH r.keys y)with
 |false=>
  simp only[Bool.false_eq_true,if_false,true_iff];rcases(H.hvM hy).1 hv with h|h
  ·exact .inl h
  ·exact .inr (.inl h)
 |true=>
  have hn:¬(wZ s r\/Na r y=0):=fun h=>by rw[(H.hvM hy).2 h]at hv;cases hv
  simp only[if_true];rw[show r.found (bH r.keys y)=Na r y from rfl];constructor
  ·intro h;refine .inr (.inr fun m hm=>?_);rw[hm]at h;simp only at h;refine⟨fun e=>?_,fun e=>?_⟩
   ·rw[if_pos e]at h;exact h
   ·rw[if_neg (by omega),if_pos e]at h;exact h
  ·rintro(h|h|h)
   ·exact absurd (.inl h) hn
   ·exact absurd (.inr h) hn
   ·cases hm:s.ws[Na r y-1]? with
    |none=>rfl
    |some m=>
     simp only;by_cases e:s.mode=1
     ·rw[if_pos e];exact(h m hm).1 e
     ·rw[if_neg e];by_cases e3:s.mode=3
      ·rw[if_pos e3];exact(h m hm).2 e3
      ·rw[if_neg e3]
def bp.VE(H:bp w W τ aO b s A i r ab ba bc wg ms cv Sb){x:ah}(hx:x∈r.keys):(iL s A i r ab ba bc).En x↔EnM s r x:=by
 have hp:∀{y:ah},(iL s A i r ab ba bc).p y↔y∈r.keys:=fun{y}=>⟨fun h=>zct h.2,fun h=>by obtain⟨j,hj⟩:=List.getElem?_of_mem h;exact(H.w7 hj).2⟩
 constructor
 ·rintro⟨h1,h2⟩;refine⟨fun⟨h3,h4⟩=>h1 ⟨h3,(H.hvM hx).2 (.inl h4)⟩,fun y hy ⟨h3,h4⟩=>h2 y (hp.2 hy) ⟨h3,(H.fmM hy).2 h4⟩⟩
 ·rintro⟨h1,h2⟩;refine⟨fun⟨h3,h4⟩=>?_,fun y hy ⟨h3,h4⟩=>h2 y (hp.1 hy) ⟨h3,(H.fmM (hp.1 hy)).1 h4⟩⟩;rcases(H.hvM hx).1 h4 with h|h
  ·exact h1 ⟨h3,h⟩
  ·exact h3 h
open Classical in
noncomputable def F9(s:MS)(r:MR):Nat:=r.keys.countP fun x=>decide (¬EnM s r x)
open Classical in
def bp.om(H:bp w W τ aO b s A i r ab ba bc wg ms cv Sb):(iL s A i r ab ba bc).om (iL s A i r ab ba bc).N=F9 s r:=by show ((r.keys.take r.keys.length).filter fun x=>decide (¬(iL s A i r ab ba bc).En x)).length=_;rw[List.take_length,<-List.countP_eq_length_filter];refine List.countP_congr fun x hx=>?_;simp only[decide_eq_true_eq];exact not_congr (H.VE hx)
open Classical in
def Kb(h:∀x∈r.keys,EnM s r x):F9 s r=0:=by unfold F9;rw[List.countP_eq_zero];intro x hx;simpa using h x hx
end
section
variable {P:Nat}{ws:List MW}{rs:List MR}{r:MR}{x:ah}
def Kc{s:MS}(h:r.keys.length<=1\/∀y∈r.keys,Na r y=0):F9 s r=0:=
 Kb fun x hx=>by
  rcases h with h|h
  ·refine⟨fun h1=>by have:=h1.2.2;omega,fun y hy h1=>?_⟩;have:x=y:=by
    match hk:r.keys,hx,hy,h with
    | [z],hx,hy,_=>simp at hx hy;rw[hx,hy]
   subst this;omega
  ·exact⟨fun h1=>h1.1 (h x hx),fun y hy h1=>by have:=h y hy;omega⟩
end
end
section
open Go Go.RowKit Go.MuLone Go.Conc
structure Kp(W w:af):Prop where
 blk:∀k,k<W.heap.size->w.heap[k]?=W.heap[k]?
 size:W.heap.size<=w.heap.size
 out:w.output=W.output
 os:Go.ConcM.OsLater W.os w.os
section
variable {Sb:Nat->Prop}{v v' W W':af}
def fB(h:cx Sb v W)(k:cx Sb v' W):v'.heap=v.heap:=by
 apply Array.ext_getElem?;intro i;by_cases e:Sb i
 ·obtain⟨c,t,_,h1,h2⟩:=h.gF i e;obtain⟨c',t',_,k1,k2⟩:=k.gF i e;rw[h2]at k2;cases k2;rw[h1,k1]
 ·rw[h.same i e,k.same i e]
def N6(h:cx Sb v W)(k:cx Sb v W'):W'.heap=W.heap:=by
 apply Array.ext_getElem?;intro i;by_cases e:Sb i
 ·obtain⟨c,t,_,h1,h2⟩:=h.gF i e;obtain⟨c',t',_,k1,k2⟩:=k.gF i e;rw[h1]at k1;cases k1;rw[h2,k2]
 ·rw[<-h.same i e,k.same i e]
end
section
variable {Q:(Nat->Prop)->ak->List ak->af->Prop}{Sb:Nat->Prop}{fr:ak}{c:List ak}{W:af}
def jI.walk{R:af->ak->List ak->af->Prop}(hn:∀v fr c w,R v fr c w->iF fr c)(h:∀v,cx Sb v W->To prog (R v) fr c v)(hq:∀v fr c w W',cx Sb v W->R v fr c w->cx Sb w W'->jI Q Sb fr c W'):jI Q Sb fr c W:=fun cs gs t q d sl hp hC=>by
 refine jI.lone (R:=fun fr c u=>∃v w,cx Sb v W/\R v fr c w/\u.heap=w.heap/\u.os=w.os/\u.output=w.output) (fun fr c v tp n h=>h) (fun tp n=>?_) (fun fr c u W' h hs=>?_) cs gs t q d sl hp hC
 ·have h0:=D7 hp;have hv:cx Sb (wt (gF Sb W) tp n) W:=⟨h0.size,h0.same,h0.gF,h0.os,h0.out⟩
  refine((h _ hv).then fun fr c w hr=>To.done ?_).reach fun fr c w hr=>?_
  ·exact⟨_,w,hv,hr,rfl,rfl,rfl⟩
  ·obtain⟨_,_,_,hr,_⟩:=hr;exact hn _ _ _ _ hr
 ·obtain⟨v,w,hv,hr,e1,e2,e3⟩:=h;exact hq v fr c w W' hv hr ⟨by rw[<-e1];exact hs.size,fun k hk=>by rw[<-e1];exact hs.same k hk,fun k hk=>by rw[<-e1];exact hs.gF k hk,by rw[<-e2];exact hs.os,by rw[<-e3];exact hs.out⟩
end
structure Nk(v:af)(τ:Nat->Tag)(aO b:Nat)(s:MS)(A:SA)(i:Nat)(r:MR)(Sb:Nat->Prop)(ab wg:Nat)(w:af):Prop where
 rep:a9 w (fresh τ ab) aO b (nW s i r) A
 keep:∀k,k<v.heap.size->(τ k).1≠aO->¬Sb k->w.heap[k]?=v.heap[k]?
 abo:v.heap.size<=ab/\ab<wg/\wg<w.heap.size
 AA:su s->∀(j:Nat) (x:ah),r.keys[j]?=some x->∃(n:Nat) (val:ah),zI s r x n/\Ge ab j x (n:Int) val w/\(n=0->val=⟨#[]⟩)/\∀m,n≠0->s.ws[n-1]?=some m->fO m.items x=some val
 blk:∃C,bg w ab C 62/\C.size=r.keys.length*3
 out:w.output=v.output
 os:Go.ConcM.OsLater v.os w.os
section
variable {Q:(Nat->Prop)->ak->List ak->af->Prop}{Sb:Nat->Prop}{W v:af}{τ:Nat->Tag}{aO b:Nat}{s:MS}{A:SA}
def jI.finishing(hv:cx Sb v W)(h:a9 v τ aO b s A)(n:Int)(hn: -9223372036854775808<=n)(hn':n<=9223372036854775807)(r:MR)(hf:fP s n=some r)(ha:hU r=true)(Wq:∀k,Sb k->(τ k).1≠aO)(hnp:∀x∈cl :: c,∀ch,x.mode≠.panicking ch)(hnf:∀u ch,(cl.finish u).mode≠.panicking ch)
 (hq:∀(ab wg:Nat) (W':af),Nk v τ aO b s A (n-1).toNat r Sb ab wg W'->jI Q (fun k=>Sb k\/k=wg) (cl.finish (.tuple #[.slice (some ⟨ab,0,none⟩) r.keys.length r.keys.length,.int .i64 (F9 s r:Nat),.int .i64 0])) c W'):
 jI Q Sb (Frame.enter prog 23 #[ptr b,.int .i64 n] .normal) (cl :: c) W:=by
 refine jI.walk (R:=fun v'=>BU v' τ aO b s A (n-1).toNat r Sb (cl :: c)) (fun v' fr c' w hA=>?_) (fun v' hv'=>?_) (fun v' fr c' w W1 hv' hA hw=>?_)
 ·obtain⟨b1,a,ab,ba,bc,wg,ms,cv,fF,rfl,_,_,rfl,⟨b2,a2,rfl,_⟩,_⟩:=hA.ex;intro x hx ch;rcases zcw.1 hx with rfl|hx
  ·simp[Frame.at]
  ·rcases zcw.1 hx with rfl|hx
   ·simp[Frame.at]
   ·exact hnp x hx ch
 ·have e:=fB hv hv';exact KB (h.frame fun k _ _=>⟨by rw[e],rfl⟩) n hn hn' r hf ha Sb (fun k hk=>⟨by rw[hv'.size];exact hv'.lt hk,Wq k hk⟩) _
 ·have e:=fB hv hv';refine jI.finish hA hw fun ab ba bc wg ms cv fF H w2 Ds hF hlv hR hS=>?_;rw[H.om]at hlv;refine jI.walk (R:=fun u fr c' w=>fr=cl.finish (.tuple #[.slice (some ⟨ab,0,none⟩) r.keys.length r.keys.length,.int .i64 (F9 s r:Nat),.int .i64 0])/\c'=c/\w=u) (fun u fr c' w hr=>?_) (fun u hu=>To.leave (hlv _) (Sr hF fun fr _ hl=>To.leave hl (To.done ⟨rfl,rfl,rfl⟩))) (fun u fr c' w3 W2 hu hr N7=>?_)
  ·obtain⟨rfl,rfl,rfl⟩:=hr;intro x hx ch;rcases zcw.1 hx with rfl|hx
   ·exact hnf _ ch
   ·exact hnp x (zcs _ hx) ch
  ·obtain⟨rfl,rfl,rfl⟩:=hr;have e2:=N6 hu N7;have ho:=H.ord;have hg:=H.Gj.lt;have hl:=hR.rs.le;have hz:(NZ Sb W1 v').heap.size=v.heap.size:=by rw[kG,e]
   rw[hz]at ho;obtain⟨C,hC,hCz⟩:=H.AA;obtain⟨C',q1,q2⟩:=hR.rs.sh ab C _ _ (.inl rfl) hC;refine hq ab wg W2 ⟨hR.rep.frame fun k _ _=>⟨by rw[e2],rfl⟩,fun k hk ht hs=>?_,⟨ho.1,by omega,by rw[e2];omega⟩,fun hca j x hx=>?_,⟨C',by show W2.heap[ab]?=_;rw[e2];exact q1,q2.trans hCz⟩,?_,?_⟩
   ·rw[e2,hR.rs.blk k (by omega) (H.fxo (by omega) ht hs),<-hw.same k hs,hS.block k (by rw[e];exact hk) ht,e]
   ·obtain⟨m,val,g1,⟨g2,g3,g4⟩,g5⟩:=hR.answers hca hx;have hc:∀p:aA,W2.cell? p=w2.cell? p:=fun p=>zcq (by rw[e2]);exact⟨m,val,g1,⟨(hc _).trans g2,(hc _).trans g3,(hc _).trans g4⟩,g5⟩
   ·rw[<-N7.out,hu.out,hR.kp.2.1,<-hw.out,hS.output,hv'.out,<-hv.out]
   ·have:=hR.kp.2.2;rw[<-hw.os,hS.os,hv'.os,<-hv.os]at this;rw[<-N7.os,hu.os];exact this
end
structure Se(f:ay)(W:af)(Sb:Nat->Prop)(fr:ak)(c:List ak)(v:af):Prop where
 nil:c= []
 fn:fr.fn=f
 lv:∀u,fr.leaving prog u (.returned (.bool true))
 kp:Kp W v
def N8{f:ay}{fn:Func}{tt:Tmp}{args:Array aj}(hf:prog.funcs[f]?=some fn)(hr:fn.results=#[.tmp tt])(hi:prog.inits.idxOf? f=none)(hS:zJ uu 0 (Frame.enter prog f args .normal) [])(h:jI (Se f W) (fun _=>False) (Frame.enter prog f args .normal) [] W){Post:aj->af->Prop}(ZM:∀w',Kp W w'->Post (.bool true) w'):
 ∃N last o w' t',runNT prog (N+1) (solo (G (Frame.enter prog f args .normal) []) W) #[]=(.ended o w',t')/\runN prog N (solo (G (Frame.enter prog f args .normal) []) W)=.next last/\step prog last=.ended o w'/\Conc.Good prog Post last o w' t':=by
 obtain⟨N,Jb,gs',fr',c',W',sl',t',q',d',r1,hE,hp,hC⟩:=h [] _ _ _ 0 none (fun b hb=>hb.elim) (D8 hS);obtain rfl:=hE.nil;obtain⟨N4,last,o,w4,t4,f1,f2,f3,f4⟩:=Gn (Post:=Post) (x:=.bool true) _ d' gs' W' sl' t' q' rfl hC (fun m=>⟨Gp (hE.lv _) (by rw[hE.fn];exact hi) (by rw[hE.fn];exact hf) hr,ZM _ ⟨hE.kp.blk,hE.kp.size,hE.kp.out,hE.kp.os⟩⟩);refine⟨N+N4,last,o,w4,t4,?_,?_,f3,f4⟩
 ·rw[Nat.add_assoc];exact(mg N _ r1).trans f1
 ·exact(N9 _ r1).trans f2
end
section
open Go Go.RowKit Go.MuLone Go.Conc
def To.call{P:aB}{Q:ak->List ak->af->Prop}{b:ak}{k:List Item}{c:List ak}{ops:Array Oper}{is:List Nat}{i:Nat}{a:Act}{w:af}{o:Oper}{f:ay}{fn:Func}{body:Code}{cl:Call}{args:Array aj}(ho:ops[i]?=some o)(hw:o.guard=none)(h1:o.op=.call cl)(h2:cl.callee=.value (.func f))(g1:P.funcs[f]?=some fn)(g2:(fn.name == "runtime.NumGoroutine")=false)(g3:fn.body=some body)(ha:cl.args.map a.eval=args)
 (h:To P Q (Frame.enter P f args .normal) (b.at a (.inRegion ops (i :: is):: k):: c) w):To P Q (b.at a (.inRegion ops (i :: is):: k)) c w:=by subst ha;exact To.enter ho (cU hw _) (AH h1 h2 g1 g2 g3 _) h
def DK{n:Nat}(T:Array aj)(h:T.size=n):∃f:Nat->aj,T=((List.range n).map f).toArray/\∀i v,T[i]?=some v->f i=v:=⟨fun i=>T.toList.getD i undef,oK T n h,fun i v hv=>by simp[hv]⟩
noncomputable def dN:Code:=f14.body.getD .skip
noncomputable def UR:Code:=bz 10 dN
noncomputable def MN:Array Oper:=opsOf (cA UR)
def Wv:UR=.seq (.region 12 MN false) (cB UR):=by kernel_rfl
def Oa:∃o,MN[2]?=some o/\o.guard=none/\o.dst=some 67/\∃cl:Call,o.op=.call cl/\cl.callee=.value (.func 23)/\cl.args=#[.tmp 65,.tmp 66]:=by refine⟨(MN[2]?).getD default,?_,?_,?_,(match ((MN[2]?).getD default).op with|.call cl=>cl|_=>default),?_,?_,?_⟩ <;>kernel_rfl
def ZO:∃o,MN[0]?=some o/\o.guard=none/\o.dst=some 65/\o.op=.move (.tmp 7):=by refine⟨(MN[0]?).getD default,?_,?_,?_,?_⟩ <;>kernel_rfl
def ZP:∃o,MN[1]?=some o/\o.guard=none/\o.dst=some 66/\o.op=.move (.tmp 11):=by refine⟨(MN[1]?).getD default,?_,?_,?_,?_⟩ <;>kernel_rfl
def Ob:List.range MN.size= [0,1,2,3,4,5,6,7,8,9]:=by kernel_rfl
def Su:List.range' 3 (MN.toList.drop 3).length= [3,4,5,6,7,8,9]:=by kernel_rfl
structure Ww(a:Act)(sb:Nat):Prop where
 d:a.defers= []
 s:a.tmps.size=108
 t5:a.tmps[5]?=some (ptr sb)
 t9:a.tmps[9]?=some (.int .i64 1)
noncomputable abbrev Sv(b:ak)(a:Act):ak:=b.at a [.inRegion MN (2 :: [3,4,5,6,7,8,9]),.code (cB UR)]
def Sw{w:af}{u:aj}(h7:a.tmps[7]?=some v)(Wx:a.tmps[11]?=some u)(hs:a.tmps.size=108)
 (h:To prog Q (Frame.enter prog 23 #[v,u] .normal) (Sv b ((a.put (some 65) v).put (some 66) u):: c) w):To prog Q (b.at a [.code UR]) c w:=by rw[Wv];refine .step (fun _=>step_seq) (.region ?_);rw[Ob];obtain⟨o0,q1,q2,q3,q4⟩:=ZO;obtain⟨o1,p1,p2,p3,p4⟩:=ZP;obtain⟨o2,r1,r2,r3,cl,r4,r5,r6⟩:=Oa;refine To.op q1 (cU q2 _) (run_move q4 _) ?_;rw[q3,show a.eval (.tmp 7)=v by simp[Act.eval,Array.getD_eq_getD_getElem?,h7]];refine To.op p1 (cU p2 _) (run_move p4 _) ?_;rw[p3,show (a.put (some 65) v).eval (.tmp 11)=u by simp[Act.eval,Act.put,Array.getD_eq_getD_getElem?,Wx]];refine To.call r1 r2 r4 r5 func23 (by kernel_rfl) rfl ?_ h;rw[r6];simp[Act.eval,Act.put,Array.getD_eq_getD_getElem?,hs]
def Sx:su t5:=by
 intro i m q hm hc;match i,hm with
 | 0,hm=>cases hm;rfl
def ZQ:zI t5 ZR kK 1:=⟨.inr ⟨⟨by omega,_,rfl,rfl⟩,0,kK,rfl,rfl⟩,fun j y hy _=>by
 match j,hy with
 | 0,_=>exact zcm 1⟩
section
variable {w0 w:af}{τ:Nat->Tag}{Q:ak->List ak->af->Prop}{c:List ak}
def Oc(hE:Env w0 w τ)(parts mode:Int)(h1: -9223372036854775808<=parts)(h2:parts<=9223372036854775807)(h3: -9223372036854775808<=mode)(h4:mode<=9223372036854775807)
 (hQ:∀(b:ak) (a:Act) (w':af) (τ':Nat->Tag) (sb tb:Nat) (A B:SA),b.fn=14->b.kind=.normal->Ww a sb->a9 w' τ' 2 sb (AE (1+fC parts 4).toNat (1+fC mode 3)) A->a9 w' τ' 4 tb t5 B->Env w0 w' τ'->To prog Q (Frame.enter prog 23 #[ptr tb,.int .i64 1] .normal) (Sv b a :: c) w'):
 To prog Q (Frame.enter prog 14 #[.int .i64 parts,.int .i64 mode] .normal) c w:=by
 obtain⟨b1,b2⟩:=BW parts 4 (by omega);obtain⟨b3,b4⟩:=BW mode 3 (by omega);have c1:=jr parts 4 w h1 h2 (by omega) (by omega);have c2:=jr mode 3 w h3 h4 (by omega) (by omega);have c3:=AI (1+fC parts 4) (1+fC mode 3) w τ 2 (by omega) (by omega) (by simp[oL];omega);have HQ:Hid _:=hQ;clear hQ;generalize fC parts 4=pp at *;generalize fC mode 3=mm at *;unfold ptr at c3;rw[enter_at (body:=dN) func14 rfl];walk_nrmf ntmps14;rw[show dN=.seq (cA dN) (.seq (cA (bz 1 dN)) (.seq (cA (bz 2 dN)) (.seq (cA (bz 3 dN)) (.seq (cA (bz 4 dN)) (.seq (cA (bz 5 dN)) (.seq (cA (bz 6 dN)) (.seq (cA (bz 7 dN)) (.seq (cA (bz 8 dN)) (.seq (cA (bz 9 dN)) UR)))))))))from by kernel_rfl];refine To.cj fun K hK=>?_;dsimp only[dN,bz,cA,cB,f14,Option.getD_some];go_wp2_with fail
 refine To.cj fun K hK=>?_;dsimp only[dN,bz,cA,cB,f14,Option.getD_some];go_wp2_with fail
 refine c1.mono ?_;rintro e w1 ⟨rfl,rfl⟩;clear c1;go_wp2_with fail
 refine c2.mono ?_;rintro e w2 ⟨rfl,rfl⟩;clear c2;go_wp2_with fail
 refine c3.mono ?_;rintro e wa ⟨τa,sb,A,rfl,hS,Gq,hta,-⟩;clear c3;have ZS:Env w0 wa τa:=⟨hE.below.trans (Gq.mono hE.below.size),fun k hk=>(hta k (by have:=hE.below.size;omega)).trans (hE.lm k hk)⟩
 have c4:=AI 1 1 wa τa 4 (by omega) (by omega) (by rfl);unfold ptr at c4;clear hta Gq hE;go_wp2_with fail
 refine To.cj fun K hK=>?_;dsimp only[dN,bz,cA,cB,f14,Option.getD_some];go_wp2_with fail
 refine To.cj fun K hK=>?_;dsimp only[dN,bz,cA,cB,f14,Option.getD_some];go_wp2_with fail
 refine c4.mono ?_;rintro e wb ⟨τb,tb,B,rfl,hT,US,htb,-⟩;clear c4;have hEb:Env w0 wb τb:=⟨ZS.below.trans (US.mono ZS.below.size),fun k hk=>(htb k (by have:=ZS.below.size;omega)).trans (ZS.lm k hk)⟩
 have Wq:a9 wb τb 2 sb _ A:=hS.frame (fun k hk _=>⟨US.block k hk,htb k hk⟩);clear htb US ZS hS;have hTx:a9 wb τb 4 tb t0 B:=hT;clear hT;have c5:=Gr (hTx.box (.cells #[.string kK,.string kV] 70)) (some ⟨wb.heap.size,0,none⟩) 1 (L:= [(kK,kV)]) (by decide) (by decide) (by decide) (fun x hx=>by simp at hx;subst hx;decide) (Ea (kK,kV)) (fun ib io e=>by cases e;rw[qZ];decide);have ZT:=Wq.box (.cells #[.string kK,.string kV] 70);have hE5:=hEb.alloc (.cells #[.string kK,.string kV] 70);rw[ZU]at c5;unfold ptr at c5;have Eb:kK=⟨#[107]⟩:=rfl;have Od:kV=⟨#[118]⟩:=rfl;rw[Eb,Od]at c5 ZT hE5;clear hTx Wq hEb;go_wp2_with fail
 refine To.cj fun K hK=>?_;dsimp only[dN,bz,cA,cB,f14,Option.getD_some];go_wp2_with fail
 refine To.cj fun K hK=>?_;dsimp only[dN,bz,cA,cB,f14,Option.getD_some];go_wp2_with fail
 refine c5.mono ?_;rintro e wc ⟨τc,Bc,rfl,Jj,UT⟩;clear c5;have hSc:=ZT.other UT (by decide);have hEc:=hE5.ou UT (by decide);clear UT ZT hE5;have c6:=xp Jj 1 0 (by decide) (by decide) (by decide) (by decide);rw[ZV]at c6;unfold ptr at c6;clear Jj;go_wp2_with fail
 refine To.cj fun K hK=>?_;dsimp only[dN,bz,cA,cB,f14,Option.getD_some];go_wp2_with fail
 refine c6.mono ?_;rintro e wd ⟨Bd,rfl,KC,YL⟩;clear c6;have hSd:=hSc.other YL (by decide);have hEd:=hEc.ou YL (by decide);clear YL hSc hEc;have c7:=Jk KC 1 0 (by decide) (by decide) (by decide) (by decide);rw[ZW]at c7;unfold ptr at c7;clear KC;go_wp2_with fail
 refine To.cj fun K hK=>?_;dsimp only[dN,bz,cA,cB,f14,Option.getD_some];go_wp2_with fail
 refine c7.mono ?_;rintro e we ⟨Be,rfl,hTe,hPe⟩;clear c7;have hSe:=hSd.other hPe (by decide);have hEe:=hEd.ou hPe (by decide);clear hPe hSd hEd;have c8:=UN (hTe.box (.cells #[.string kK] 9)) (some ⟨we.heap.size,0,none⟩) 1 (L:= [kK]) (by decide) (by decide) (by decide) (fun x hx=>by simp at hx;subst hx;decide) (Oe kK) (fun ib io e=>by cases e;rw[qZ];decide) (by decide);have hS8:=hSe.box (.cells #[.string kK] 9);have hE8:=hEe.alloc (.cells #[.string kK] 9);rw[ZX]at c8;unfold ptr at c8;rw[Eb]at c8 hS8 hE8;clear hTe hSe hEe;go_wp2_with fail
 refine To.cj fun K hK=>?_;dsimp only[dN,bz,cA,cB,f14,Option.getD_some];go_wp2_with fail
 refine c8.mono ?_;rintro e wf ⟨τf,Bf,rfl,hTf,Sy⟩;clear c8;have hSf:=hS8.other Sy (by decide);have hEf:=hE8.ou Sy (by decide);clear Sy hS8 hE8;have c9:=ZJ hTf 1 kK (by decide) (by decide) (by decide);rw[ZY]at c9;unfold ptr at c9;rw[Eb]at c9;clear hTf;go_wp2_with fail
 refine To.cj fun K hK=>?_;dsimp only[dN,bz,cA,cB,f14,Option.getD_some];go_wp2_with fail
 refine c9.mono ?_;rintro e wg ⟨Bg,rfl,hTg,hPg⟩;clear c9;have HSg:Hid _:=hSf.other hPg (by decide);have HEg:Hid _:=hEf.ou hPg (by decide);have HTg:Hid _:=hTg;clear hPg hSf hEf hTg;go_wp2_with fail
 exact Sw rfl rfl rfl (HQ.out _ _ _ _ _ _ _ _ rfl rfl ⟨rfl,rfl,rfl,rfl⟩ HSg.out HTg.out HEg.out)
end
def Sz{w:af}{sb:Nat}(hb:b.fn=14)(hk:b.kind=.normal)(hI:Ww a sb)(hA:Ge ab 0 kK 1 kV w)(h:∀fr:ak,(∀u,fr.leaving prog u (.returned (ptr sb)))->To prog Q fr c w):To prog Q ((Sv b a).finish (.tuple #[.slice (some ⟨ab,0,none⟩) 1 1,.int .i64 0,.int .i64 0])) c w:=by
 obtain⟨tms,w8⟩:=a;obtain⟨hd,hs,t5,t9⟩:=hI;simp only at hd hs t5 t9;subst hd;obtain⟨o2,r1,r2,r3,cl,r4,r5,r6⟩:=Oa;rw[dc r1,r3,<-Su];clear r1 r2 r3 r4 r5 r6;refine To.Ay fun K hK=>?_;rw[kC];obtain⟨fv,hT,aL⟩:=DK tms hs;replace t5:=aL 5 _ t5;replace t9:=aL 9 _ t9;clear hs aL;simp only[List.range,List.range.loop,List.map_cons,List.map_nil,t5,t9]at hT;subst hT;clear t5 t9;obtain⟨c0,c1,c2⟩:=hA;have Eb:kK=⟨#[107]⟩:=rfl;have Od:kV=⟨#[118]⟩:=rfl;rw[Eb]at c0;rw[Od]at c2;unfold ptr;dsimp only[MN,UR,dN,bz,cA,cB,opsOf,f14,Option.getD_some,Act.put];simp only[List.drop];go_wp2_with fail
 refine To.last (R:=fun a' w'=>w'=w/\a'.defers= []/\a'.tmps.getD 4 undef=.pointer (some ⟨sb,0,none⟩)) ?_ rfl ?_
 ·dsimp only[UR,dN,bz,cA,cB,f14,Option.getD_some];go_wp2_with fail
 ·rintro a' todo w' ⟨rfl,e0,q8⟩;refine h _ fun u=>⟨rfl,e0,hk,f14,by show prog.funcs[b.fn]?=_;rw[hb];exact func14,?_⟩
  unfold ptr;rw[<-q8];exact results_tmp rfl _ _ _
structure Zx(Sb:Nat->Prop)(v:af)(τ:Nat->Tag)(wg:Nat)(v':af):Prop where
 size:v.heap.size<=wg/\wg<v'.heap.size
 keep:∀k,k<v.heap.size->¬Sb k->v'.heap[k]?=v.heap[k]?
 lm:∀k,k<v.heap.size->τ k=(0,0,0)
 wgt:τ wg=(0,0,0)
 out:v'.output=v.output
 os:Go.ConcM.OsLater v.os v'.os
def jI.empty{Q:(Nat->Prop)->ak->List ak->af->Prop}{Sb:Nat->Prop}{v:af}(hv:cx Sb v W)(parts mode:Int)(h1: -9223372036854775808<=parts)(h2:parts<=9223372036854775807)(h3: -9223372036854775808<=mode)(h4:mode<=9223372036854775807)(hnp:∀x∈cl :: c,∀ch,x.mode≠.panicking ch)(hnf:∀u ch,(cl.finish u).mode≠.panicking ch)
 (hq:∀(τ:Nat->Tag) (sb wg:Nat) (A:SA) (v' W':af),cx (fun k=>Sb k\/k=wg) v' W'->a9 v' τ 2 sb (AE (1+fC parts 4).toNat (1+fC mode 3)) A->Zx Sb v τ wg v'->jI Q (fun k=>Sb k\/k=wg) (cl.finish (ptr sb)) c W'):
 jI Q Sb (Frame.enter prog 14 #[.int .i64 parts,.int .i64 mode] .normal) (cl :: c) W:=by
 refine jI.walk (R:=fun v1 fr c' w=>∃(b:ak) (a:Act) (τ:Nat->Tag) (sb tb:Nat) (A B:SA),fr=Frame.enter prog 23 #[ptr tb,.int .i64 1] .normal/\c'=Sv b a :: cl :: c/\b.fn=14/\b.kind=.normal/\Ww a sb/\a9 w τ 2 sb (AE (1+fC parts 4).toNat (1+fC mode 3)) A/\a9 w τ 4 tb t5 B/\Env v1 w τ) (fun v1 fr c' w hr=>?_) (fun v1 Wy=>?_) (fun v1 fr c' w W1 Wy hr hw=>?_)
 ·obtain⟨b,a,τ,sb,tb,A,B,rfl,rfl,_⟩:=hr;rw[enter_at func23 rfl];intro x hx ch;rcases zcw.1 hx with rfl|hx
  ·simp[Frame.at]
  ·rcases zcw.1 hx with rfl|hx
   ·simp[Frame.at]
   ·exact hnp x hx ch
 ·exact Oc ⟨Below.refl _ _,fun _ _=>rfl⟩ parts mode h1 h2 h3 h4 fun b a w' τ' sb tb A B e1 e2 e3 e4 e5 e6=>To.done ⟨b,a,τ',sb,tb,A,B,rfl,rfl,e1,e2,e3,e4,e5,e6⟩
 ·obtain⟨b,a,τ,sb,tb,A,B,rfl,rfl,e1,e2,e3,hS,hT,hE⟩:=hr;have hz:=hE.below.size;have hvv:=fB Wy hv;have Wz:∀k,Sb k->k<v1.heap.size:=fun k hk=>by rw[Wy.size];exact Wy.lt hk
  refine jI.finishing hw hT 1 (by omega) (by omega) ZR SC Og (fun k hk=>by rw[hE.lm k (Wz k hk)];decide) (fun x hx ch=>?_) (fun u ch=>?_) (fun ab wg W2 hF=>?_)
  ·rcases zcw.1 hx with rfl|hx
   ·simp[Frame.at]
   ·exact hnp x hx ch
  ·obtain⟨o2,r1,_⟩:=Oa;rw[dc r1];simp[Frame.at]
  ·rw[Kc (.inl (by rw[BX];decide)),BX];obtain⟨o1,o2,o3⟩:=hF.abo;refine jI.walk (R:=fun u fr c' w'=>fr=cl.finish (ptr sb)/\c'=c/\w'=u) (fun u fr c' w' hr=>?_) (fun u hu=>?_) (fun u fr c' w' W3 hu hr xf=>?_)
   ·obtain⟨rfl,rfl,rfl⟩:=hr;intro x hx ch;rcases zcw.1 hx with rfl|hx
    ·exact hnf _ ch
    ·exact hnp x (zcs _ hx) ch
   ·obtain⟨n,val,g1,⟨a1,a2,a3⟩,g3,g4⟩:=hF.AA Sx 0 kK (by rw[BX];rfl);obtain rfl:=g1.eq ZQ;have e:val=kV:=by have:=g4 _ (by omega) rfl;exact(Option.some.inj this).symm
    subst e;have hc:∀o,u.cell? ⟨ab,o,none⟩=W2.cell? ⟨ab,o,none⟩:=fun o=>zcq (hu.same ab fun h=>h.elim (fun h=>by have:=Wz _ h;omega) (by omega));exact Sz e1 e2 e3 ⟨(hc _).trans a1,(hc _).trans a2,(hc _).trans a3⟩ fun fr hl=>To.leave (hl _) (To.done ⟨rfl,rfl,rfl⟩)
   ·obtain⟨rfl,rfl,rfl⟩:=hr;have hu0:∀{q:Nat},¬Sb q->q≠wg->w'.heap[q]?=W2.heap[q]? :=fun{q} h1 h2=>hu.same q fun h=>h.elim h1 h2;have hfr:∀k,k<ab->fresh τ ab k=τ k:=fun k hk=>by unfold fresh;rw[if_neg (by omega)]
    have MO:v1.heap.size=v.heap.size:=by rw[hvv]
    refine hq (fresh τ ab) sb wg A w' W3 xf (hS.frame fun k hk ht=>⟨?_,hfr k (by omega)⟩) ⟨⟨by omega,by have:=hu.size;omega⟩,fun k hk hs=>?_,fun k hk=>by rw[hfr k (by omega)];exact hE.lm k (by omega),by unfold fresh;rw[if_pos (by omega)],?_,?_⟩
    ·have hs:¬Sb k:=fun h=>by rw[hE.lm k (Wz k h)]at ht;cases ht
     rw[hu0 hs (by omega),hF.keep k hk (by rw[ht];decide) hs]
    ·rw[hu0 hs (by omega),hF.keep k (by omega) (by rw[hE.lm k (by omega)];decide) hs,hE.below.block k (by omega),hvv]
    ·rw[hu.out,hF.out,hE.below.output,Wy.out,hv.out]
    ·have:=hF.os;rw[hE.below.os,Wy.os,<-hv.os]at this;rw[hu.os];exact this
end
section
open Go Go.RowKit Go.MuLone
def J9(P:Nat)(L:List ah)(n:Nat)(cm:Nat->Bool):MW:={items:=aX L n,dH:=iE P L,comm:=cm,dP:=false}
section
variable {P:Nat}{M:Int}{La Lb L:List ah}{ca cb cm:Nat->Bool}{rs:List MR}{n p:Nat}{x:ah}
def M9:fo P (J9 P L n cm)=true:=by simp only[fo,List.all_eq_true,List.mem_range];intro p _;show (!aJ P (aX L n) p || iE P L p)=true;rw[qQ,wY];cases L.any fun x=>decide (partOf P x=(p:Int)) <;>rfl
def UC(hx:x∈L)(hp:partOf P x=p):aJ P (J9 P L n cm).items p=true:=by show aJ P (aX L n) p=true;rw[qQ,List.any_eq_true];exact⟨x,hx,by simpa using hp⟩
end
end
section
open Go Go.RowKit Go.MuLone
structure mY where
 k:FQ
 on:Nat->Bool
structure jX where
 rb:Nat
 n:Nat
 kg:Nat
 kc:Nat
 ks:List ah
 la:Option aA
 lc:Nat
 left:List ah
 sv:aj
 sure:List Nat
def BH(L:List ah):Prop:=∃B,1<=B/\B<64/\iM B=L
structure FR(s:MS)(D:List mY):Prop where
 len:s.ws.length=2*D.length
 w:∀(i:Nat) (d:mY),D[i]?=some d->s.ws[2*i]?=some xW/\s.ws[2*i+1]?=some (J9 s.parts d.k.ks (2*i+2) d.on)/\d.k.n=2*i+2/\BH d.k.ks
def Whole(P:Nat)(d:mY):Prop:=∀x∈d.k.ks,d.on (partOf (P:Int) x).toNat=true
structure zE(s:MS)(D:List mY)(R:jX)(r:MR):Prop where
 lo:1<=R.n
 at_:s.rs[R.n-1]?=some r
 fin:r.fin=false
 keys:r.keys=R.ks
 I5:BH R.ks
 asked:∀(j:Nat) (x:ah),R.ks[j]?=some x->(r.asked j=true↔x ∉ R.left)
 left:R.left.Sublist R.ks
 sure:∀m∈R.sure,∃d∈D,d.k.n=m/\Whole s.parts d/\∀(j:Nat) (x:ah),R.ks[j]?=some x->r.asked j=true->x∈d.k.ks->m<=r.found j
 new:R.left.length=R.ks.length->R.sure= []
 FT:R.sure.length<=D.length
structure oq(s:MS)(D:List mY)(RL:List jX):Prop where
 ws:FR s D
 BI:D.length<=60
 rd:∀R∈RL,∃r,zE s D R r
 nd:(RL.map (·.n)).Nodup
 opn:bq s.rs=RL.length
 Ga:RL.length<=20
section
variable {s:MS}{D:List mY}{RL:List jX}{R:jX}{r:MR}{d:mY}{L:List ah}{x:ah}
def BH.ok(h:BH L):L.Nodup/\(∀x∈L,bK x=true)/\1<=L.length/\L.length<=6/\(∀x∈L,x≠kx)/\gY L=0:=by obtain⟨B,h1,h2,rfl⟩:=h;obtain⟨k1,k2,k3,k4⟩:=Av B h2;exact⟨k1,k2,k3 h1,k4,Ke B h2,DI B h1 h2⟩
def FR.find(h:FR s D){n:Nat}(hx:x≠kx)(hw:Nc s n x):∃i d,D[i]?=some d/\n=2*i+2/\d.k.n=n/\x∈d.k.ks/\s.ws[n-1]?=some (J9 s.parts d.k.ks n d.on):=by
 obtain⟨h0,m,hm,hk⟩:=hw;have hl:=aM hm;rw[h.len]at hl;obtain⟨i,hi⟩:∃i,n-1=2*i\/n-1=2*i+1:=⟨(n-1)/ 2,by omega⟩
 have hd:D[i]?=some D[i]:=zcp (by omega);obtain⟨w1,w2,w3,_⟩:=h.w i _ hd;rcases hi with hi|hi
 ·rw[hi,w1]at hm;cases hm;simp[xW,jk,aP,Ne.symm hx]at hk
 ·have hn:n=2*i+2:=by omega
  rw[hi,w2]at hm;cases hm;rw[show (J9 s.parts D[i].k.ks (2*i+2) D[i].on).items=aX D[i].k.ks (2*i+2)from rfl,qR]at hk;exact⟨i,D[i],hd,hn,by rw[w3,hn],gp.1 hk,by rw[hi,w2];simp only[hn]⟩
def FR.has(h:FR s D)(hd:D[i]?=some d)(hx:x∈d.k.ks):Nc s (2*i+2) x:=
 ⟨by omega,_,(h.w i d hd).2.1,by rw[show (J9 s.parts d.k.ks (2*i+2) d.on).items=aX d.k.ks (2*i+2)from rfl,qR];exact gp.2 hx⟩
def FR.of(h:FR s D)(hd:D[i]?=some d):Kg (D.map (·.k)) (2*i+2)=some d.k:=by unfold Kg;rw[List.find?_eq_some_iff_getElem];obtain⟨hi,rfl⟩:=List.getElem?_eq_some_iff.1 hd;refine⟨by simp[(h.w i _ hd).2.2.1],i,by simpa using hi,by simp,fun j hj=>?_⟩;have:=(h.w j D[j] (zcp (by omega))).2.2.1;simp only[List.getElem_map,this,Bool.not_eq_true',decide_eq_false_iff_not];omega
def FR.mem(h:FR s D)(hd:d∈D):∃i,D[i]?=some d/\d.k.n=2*i+2:=by obtain⟨i,hi⟩:=List.getElem?_of_mem hd;exact⟨i,hi,(h.w i d hi).2.2.1⟩
def DJ{P:Int}{ws:List MW}{m:MW}{j:Nat}(hm:ws[j]?=some m)(hk:aP m.items x=true)(hc:m.comm (partOf P x).toNat=true):∀k,j<k->j+1<=oD P ws x k
 | 0,h=>by omega
 |k+1,h=>by
  unfold oD;by_cases e:j=k
  ·subst e;rw[hm];simp[hk,hc]
  ·have ih:=DJ hm hk hc k (by omega);cases hw:ws[k]? with
   |none=>simpa using ih
   |some m'=>
    simp only;split
    ·omega
    ·exact ih
def FR.vis(h:FR s D)(hd:D[i]?=some d)(hx:x∈d.k.ks)(hc:d.on (partOf (s.parts:Int) x).toNat=true):2*i+2<=aY s x:=by obtain⟨hi,_⟩:=List.getElem?_eq_some_iff.1 hd;obtain⟨_,m,hm,hk⟩:=h.has hd hx;have e:s.ws[2*i+1]?=some m:=hm;rw[(h.w i d hd).2.1]at e;cases e;exact DJ hm hk hc _ (by rw[h.len];omega)
def FR.comm(h:FR s D):su s:=by
 intro i m q hm hc;have hl:=aM hm;rw[h.len]at hl;obtain⟨j,hj⟩:∃j,i=2*j\/i=2*j+1:=⟨i / 2,by omega⟩
 have hd:D[j]?=some D[j]:=zcp (by omega);obtain⟨w1,w2,_⟩:=h.w j _ hd;rcases hj with rfl|rfl
 ·rw[w1]at hm;cases hm;cases hc
 ·rw[w2]at hm;cases hm;exact M9
def Nd(h:FR s D)(hO:zE s D R r)(hl:R.left= [])(Rz:∀(j:Nat) (x:ah),R.ks[j]?=some x->r.found j≠0->Nc s (r.found j) x){wn:Nat->Nat}{vl:Nat->ah}(hc:∀(j:Nat) (x:ah),R.ks[j]?=some x->zI s r x (wn j)/\(wn j=0->vl j=⟨#[]⟩)/\∀m,wn j≠0->s.ws[wn j-1]?=some m->fO m.items x=some (vl j)):
 RB (D.map (·.k)) R.ks R.sure wn vl:=by
 obtain⟨-,-,-,-,knx,-⟩:=hO.I5.ok;have hk:=hO.keys;have has:∀(j:Nat) (x:ah),R.ks[j]?=some x->r.asked j=true:=fun j x hx=>(hO.asked j x hx).2 (by rw[hl];simp);refine⟨fun j x hx h0=>(hc j x hx).2.1 h0,fun i x hx h0=>?_,fun j m hm=>?_⟩
 ·obtain⟨hC,_,hv⟩:=hc i x hx;rcases hC.one with e|⟨hw,j',y',hy',hf⟩
  ·exact absurd e h0
  ·obtain⟨i',d,hd,e1,e2,UD,lf⟩:=h.find (knx x (zct hx)) hw;have ho:=h.of hd;rw[<-e1]at ho;refine⟨d.k,ho,gp.2 UD,?_,fun j y hy RD=>?_⟩
   ·have:=hv _ h0 lf;unfold fO at this;rw[show (J9 s.parts d.k.ks (wn i) d.on).items=aX d.k.ks (wn i)from rfl,Nf _ _ UD]at this;rw[e2];simpa using this.symm
   ·rw[e2];have:=(hc j y hy).1.top j' y' hy' (by rw[hf,e1];exact h.has hd (gp.1 RD));rw[hf]at this;exact this
 ·obtain⟨d,hdm,hn,_,hs⟩:=hO.sure m (zct hm);obtain⟨i',hd,e⟩:=h.mem hdm;refine⟨d.k,by rw[<-hn,e];exact h.of hd,fun i x hx hkx=>?_⟩;have h1:=hs i x hx (has i x hx) (gp.1 hkx);have h2:=(hc i x hx).1.top i x (by rw[hk];exact hx) (Rz i x hx (by omega));omega
end
end
section
open Go Go.RowKit Go.MuLone Go.Conc
structure VF(w:af)(n g cap:Nat)(L:List ah):Prop where
 lo:n<=g
 hi:g<w.heap.size
 cell:∀(j:Nat) (x:ah),L[j]?=some x->w.cell? ⟨g,j,none⟩=some (.string x)
 c1:L.length<=cap
 c2:cap<=maxLen
def I4{w:af}(B:Nat)(h1:1<=B)(h2:B<64):Calls prog 17 #[.int .i64 B] w fun e w'=>∃g cap,e=.returned (.slice (some ⟨g,0,none⟩) (iM B).length cap)/\VF w' w.heap.size g cap (iM B)/\Below w.heap.size w w':=by refine(Nb (w:=w) B).mono ?_;rintro e w' ⟨v,rfl,hrow,hB⟩;obtain⟨-,-,k3,-⟩:=Av B h2;replace k3:=k3 h1;obtain⟨g,cap,rfl,c1,c2,hc,-⟩:=cJ hrow (by omega);obtain⟨g1,g2⟩:=aQ hrow g rfl;refine⟨g,cap,rfl,⟨g1,g2,fun j x hx=>?_,c1,c2⟩,hB⟩;have:=aM hx;rw[hc j (by omega),List.getElem?_map,hx];rfl
section
variable {v:af}
end
end
section
open Go Go.RowKit Go.MuLone
section
variable {s s':MS}{D D':List mY}{RL:List jX}{R R':jX}{r r':MR}{d:mY}{L:List ah}{x:ah}
def zE.ws(h:zE s D R r)(hp:s'.parts=s.parts)(hr:s'.rs=s.rs)(hD:∀d∈D,∃d'∈D',d'.k=d.k/\∀p,d.on p=true->d'.on p=true)(hl:D.length<=D'.length):zE s' D' R r:=
 ⟨h.lo,by rw[hr];exact h.at_,h.fin,h.keys,h.I5,h.asked,h.left,fun m hm=>by obtain⟨d,hd,hn,hw,hs⟩:=h.sure m hm;obtain⟨d',sJ,e1,e2⟩:=hD d hd;exact⟨d',sJ,by rw[e1];exact hn,fun x hx=>by rw[hp];exact e2 _ (hw x (by rw[<-e1];exact hx)),fun j x hx ha UD=>hs j x hx ha (by rw[<-e1];exact UD)⟩,h.new,zco h.FT hl⟩
def zE.rs(h:zE s D R r)(hp:s'.parts=s.parts)(hr:s'.rs[R.n-1]?=s.rs[R.n-1]?):zE s' D R r:=
 ⟨h.lo,by rw[hr];exact h.at_,h.fin,h.keys,h.I5,h.asked,h.left,fun m hm=>by rw[hp];exact h.sure m hm,h.new,h.FT⟩
def oq.write(h:oq s D RL)(hL:BH L)(hf:D.length<60){k:FQ}(hn:k.n=2*D.length+2)(hks:k.ks=L):oq (Dr s L (iE s.parts L)) (D++ [⟨k,fun _=>false⟩]) RL:=by
 refine⟨⟨by simp[Dr,h.ws.len];omega,fun i d hd=>?_⟩,by simp;omega,fun R hR=>?_,h.nd,h.opn,h.Ga⟩
 ·have hlen:=h.ws.len;rcases Nat.lt_or_ge i D.length with hi|hi
  ·rw[List.getElem?_append_left hi]at hd;obtain⟨w1,w2,w3,w4⟩:=h.ws.w i d hd;refine⟨?_,?_,w3,w4⟩
   ·show (s.ws++_)[2*i]?=_;rw[List.getElem?_append_left (by omega),w1]
   ·show (s.ws++_)[2*i+1]?=_;rw[List.getElem?_append_left (by omega),w2];rfl
  ·have hi':=aM hd;simp at hi';obtain rfl:i=D.length:=by omega
   rw[List.getElem?_append_right (zcm _),Nat.sub_self]at hd;cases hd;refine⟨?_,?_,hn,by rw[hks];exact hL⟩
   ·show (s.ws++_)[2*D.length]?=_;rw[List.getElem?_append_right (by omega),hlen,Nat.sub_self];rfl
   ·show (s.ws++_)[2*D.length+1]?=_;rw[List.getElem?_append_right (by omega),hlen,show 2*D.length+1-2*D.length=1 by omega,hks];rfl
 ·obtain⟨r,hr⟩:=h.rd R hR;exact⟨r,hr.ws rfl rfl (fun d hd=>⟨d,List.mem_append_left _ hd,rfl,fun _ h=>h⟩) (by simp)⟩
def xh(d:mY)(p:Nat):mY:=⟨d.k,put d.on p⟩
def oq.xj(h:oq s D RL)(hd:D[i]?=some d)(p:Nat):oq (NI s (d.k.n:Int) (J9 s.parts d.k.ks (2*i+2) d.on) p) (D.set i (xh d p)) RL:=by
 obtain⟨hi,hdi⟩:=List.getElem?_eq_some_iff.1 hd;obtain⟨w1,w2,w3,w4⟩:=h.ws.w i d hd;have e:NI s (d.k.n:Int) (J9 s.parts d.k.ks (2*i+2) d.on) p={s with ws:=s.ws.set (2*i+1) (J9 s.parts d.k.ks (2*i+2) (put d.on p))}:=by unfold NI uq;rw[w3,show (((2*i+2:Nat):Int)-1).toNat=2*i+1 by omega];rfl
 rw[e];refine⟨⟨by simp[h.ws.len],fun j d' sJ=>?_⟩,by simpa using h.BI,fun R hR=>?_,h.nd,h.opn,h.Ga⟩
 ·show (s.ws.set _ _)[2*j]?=_/\(s.ws.set _ _)[2*j+1]?=_/\_;by_cases ej:i=j
  ·subst ej;rw[List.getElem?_set_self hi]at sJ;cases sJ;have:=h.ws.len;rw[List.getElem?_set_ne (by omega),List.getElem?_set_self (by omega)];exact⟨w1,rfl,w3,w4⟩
  ·rw[List.getElem?_set_ne ej]at sJ;rw[List.getElem?_set_ne (by omega),List.getElem?_set_ne (by omega)];exact h.ws.w j d' sJ
 ·obtain⟨r,hr⟩:=h.rd R hR;refine⟨r,hr.ws rfl rfl (fun d0 Zz=>?_) (by simp)⟩;obtain⟨j,hj⟩:=List.getElem?_of_mem Zz;by_cases ej:i=j
  ·subst ej;rw[hd]at hj;cases hj;exact⟨xh d p,zct (List.getElem?_set_self hi),rfl,fun q hq=>by simp only[xh,put];split<;>simp_all⟩
  ·exact⟨d0,zct (by rw[List.getElem?_set_ne ej];exact hj),rfl,fun _ h=>h⟩
def oq.find(h:oq s D RL)(hd:D[i]?=some d):bI s (d.k.n:Int)=some (J9 s.parts d.k.ks (2*i+2) d.on):=by obtain⟨w1,w2,w3,w4⟩:=h.ws.w i d hd;have:=jJ (s:=s) (i:=2*i+1) w2 rfl;rw[w3,show ((2*i+2:Nat):Int)=((2*i+1:Nat):Int)+1 by omega];exact this
def oq.read(h:oq s D RL)(hL:BH L)(hf:RL.length<20):oH s L=((s.rs.length:Int)+1,0,{s with rs:=s.rs++ [eY L]})/\∀(rb kg kc:Nat),oq {s with rs:=s.rs++ [eY L]} D (RL++ [⟨rb,s.rs.length+1,kg,kc,L,some ⟨kg,0,none⟩,kc,L,fY, []⟩]):=by
 obtain⟨k1,k2,k3,k4,k5,k6⟩:=hL.ok;have hop:=h.opn;refine⟨by unfold oH;rw[k6,if_neg (by simp),if_neg (by omega)],fun rb kg kc=>⟨⟨h.ws.len,h.ws.w⟩,h.BI,fun R hR=>?_,?_,?_,by simp;omega⟩⟩
 ·rcases List.mem_append.1 hR with hR|hR
  ·obtain⟨r,hr⟩:=h.rd R hR;refine⟨r,hr.rs rfl ?_⟩;have:=aM hr.at_;show (s.rs++_)[R.n-1]?=_;rw[List.getElem?_append_left this]
  ·obtain rfl:=List.mem_singleton.1 hR;refine⟨eY L,by simp,by simp,rfl,rfl,hL,fun j x hx=>?_,List.Sublist.refl _,fun m hm=>by simp at hm,fun _=>rfl,by simp⟩;have:=zct hx;show false=true↔_;simp[this]
 ·rw[zcv,List.nodup_append];refine⟨h.nd,by simp,fun a ha b hb=>?_⟩;obtain⟨R,hR,rfl⟩:=List.mem_map.1 ha;obtain⟨r,hr⟩:=h.rd R hR;have:=aM hr.at_;have:=hr.lo;simp at hb;omega
 ·show bq (s.rs++ [eY L])=_;unfold bq at hop⊢;rw[List.countP_append,hop];simp[eY]
def oI(P:Nat)(d:mY):Bool:=d.k.ks.all fun x=>d.on (partOf (P:Int) x).toNat
def qW{P:Nat}:oI P d=true↔Whole P d:=List.all_eq_true
def cK(P:Nat)(D:List mY):List Nat:=(D.filter (oI P)).map (·.k.n)
def zE.ask(h:zE s D R r)(hS:FR s D){k:Nat}(hk:R.left[k]?=some x){sure:List Nat}(hs:sure=if R.left.length=R.ks.length then cK s.parts D else R.sure)(la:Option aA)(lc:Nat)(sv:aj):
 kE s (R.n:Int) x=(0,{s with rs:=s.rs.set (R.n-1) (w9 s r (bH R.ks x) x)})/\zE {s with rs:=s.rs.set (R.n-1) (w9 s r (bH R.ks x) x)} D ⟨R.rb,R.n,R.kg,R.kc,R.ks,la,lc,R.left.eraseIdx k,sv,sure⟩ (w9 s r (bH R.ks x) x):=by
 obtain⟨k1,k2,k3,k4,k5,k6⟩:=h.I5.ok;have hlt:=aM h.at_;have hlo:=h.lo;have hmem:x∈R.ks:=h.left.subset (zct hk);obtain⟨j0,hj0⟩:=List.getElem?_of_mem hmem;have UI:bH R.ks x=j0:=me k1 hj0;have hna:r.asked j0=false:=by
  cases ha:r.asked j0 with
  |false=>rfl
  |true=>exact absurd (zct hk) ((h.asked j0 x hj0).1 ha)
 have hnd:R.left.Nodup:=h.left.nodup k1;have aef:∀y,y ∉ R.left.eraseIdx k↔y ∉ R.left\/y=x:=fun y=>by
  have ot:=aM hk;rw[List.mem_eraseIdx_iff_getElem?];constructor
  ·intro hno;refine Classical.or_iff_not_imp_left.2 fun hy=>?_;obtain⟨i,hi⟩:=List.getElem?_of_mem (Classical.not_not.1 hy);have:i=k:=Classical.byContradiction fun e=>hno ⟨i,e,hi⟩;rw[this,hk]at hi;cases hi;rfl
  ·rintro h ⟨i,hne,hi⟩;rcases h with h|rfl
   ·exact h (zct hi)
   ·exact hne ((List.getElem?_inj ot hnd).1 (hk.trans hi.symm)).symm
 have hfind:fP s (R.n:Int)=some r:=by have:=NJ h.at_ h.fin;rw[show (((R.n-1:Nat):Int)+1)=(R.n:Int) by omega]at this;exact this
 rw[UI];refine⟨?_,⟨hlo,by rw[List.getElem?_set_self hlt],h.fin,h.keys,h.I5,fun j y hy=>?_,(List.eraseIdx_sublist _ _).trans h.left,fun m hm=>?_,fun hlen=>?_,?_⟩⟩
 ·unfold kE;rw[hfind];simp only[h.keys,UI,aM hj0,if_true,hna,Bool.false_eq_true,if_false];unfold V8;rw[show ((R.n:Int)-1).toNat=R.n-1 by omega]
 ·show put r.asked j0 j=true↔_;rw[aef];unfold put;by_cases e:j=j0
  ·subst e;rw[hj0]at hy;cases hy;simp
  ·rw[if_neg e];rw[h.asked j y hy];have:y≠x:=fun e'=>e (by subst e';exact(me k1 hy).symm.trans UI)
   simp[this]
 ·have hfound:∀d∈D,d.k.n=m->Whole s.parts d->(∀(j:Nat) (y:ah),R.ks[j]?=some y->r.asked j=true->y∈d.k.ks->m<=r.found j)->∃d∈D,d.k.n=m/\Whole s.parts d/\∀(j:Nat) (y:ah),R.ks[j]?=some y->put r.asked j0 j=true->y∈d.k.ks->m<=(if j=j0 then aY s x else r.found j):=fun d hd hn hw hold=>by
   refine⟨d,hd,hn,hw,fun j y hy ha hyd=>?_⟩;obtain⟨i,hi,hin⟩:=hS.mem hd;by_cases e:j=j0
   ·subst e;rw[hj0]at hy;cases hy;rw[if_pos rfl,<-hn,hin];exact hS.vis hi hyd (hw x hyd)
   ·rw[if_neg e];refine hold j y hy ?_ hyd;unfold put at ha;rw[if_neg e]at ha;exact ha
  subst hs;split at hm
  ·rename_i hlen;unfold cK at hm;obtain⟨d,hd,rfl⟩:=List.mem_map.1 hm;obtain⟨Jc,hd2⟩:=List.mem_filter.1 hd;refine hfound d Jc rfl (qW.1 hd2) fun j y hy ha _=>?_;have e:R.left=R.ks:=h.left.eq_of_length hlen;have:=(h.asked j y hy).1 ha;rw[e]at this;exact absurd (zct hy) this
  ·obtain⟨d,hd,hn,hw,hold⟩:=h.sure m hm;exact hfound d hd hn hw hold
 ·exfalso;simp only at hlen;have h1:=aM hk;rw[zcu,if_pos h1]at hlen;have:=h.left.length_le;omega
 ·subst hs;split
  ·unfold cK;rw[List.length_map];exact List.length_filter_le _ _
  ·exact h.FT
def NK{l:List MR}(hr:l[i]?=some r)(hf:r'.fin=r.fin):bq (l.set i r')=bq l:=by
 obtain⟨hi,rfl⟩:=List.getElem?_eq_some_iff.1 hr;unfold bq;rw[List.countP_set hi,hf];split
 ·have:0<l.countP fun r=>!r.fin:=List.countP_pos_iff.2 ⟨_,List.getElem_mem hi,by assumption⟩;omega
 ·rfl
def oq.asked(h:oq s D RL){at_:Nat}(hR:RL[at_]?=some R)(hO:zE s D R r)(hr':r'.fin=false)(hn:R'.n=R.n)(uk:zE {s with rs:=s.rs.set (R.n-1) r'} D R' r'):oq {s with rs:=s.rs.set (R.n-1) r'} D (RL.set at_ R'):=by
 obtain⟨hat,hRe⟩:=List.getElem?_eq_some_iff.1 hR;refine⟨⟨h.ws.len,h.ws.w⟩,h.BI,fun R0 RH=>?_,?_,?_,by simpa using h.Ga⟩
 ·obtain⟨j,hj⟩:=List.getElem?_of_mem RH;by_cases e:at_=j
  ·subst e;rw[List.getElem?_set_self hat]at hj;cases hj;exact⟨r',uk⟩
  ·rw[List.getElem?_set_ne e]at hj;obtain⟨r0,h0⟩:=h.rd R0 (zct hj);refine⟨r0,h0.rs rfl ?_⟩;show (s.rs.set _ _)[R0.n-1]?=_;have hne:R.n≠R0.n:=fun e'=>e (by
    have h1:(RL.map (·.n))[at_]?=some R.n:=by rw[List.getElem?_map,hR];rfl
    have h2:(RL.map (·.n))[j]?=some R.n:=by rw[List.getElem?_map,hj,e'];rfl
    exact(List.getElem?_inj (by simpa using hat) h.nd).1 (h1.trans h2.symm))
   have:=h0.lo;have:=hO.lo;rw[List.getElem?_set_ne (by omega)]
 ·have:(RL.set at_ R').map (·.n)=RL.map (·.n):=by
   apply List.ext_getElem?;intro j;rw[List.map_set,List.getElem?_set];split
   ·rename_i e;subst e;rw[List.getElem?_map,hR,hn];simp[hat]
   ·rfl
  rw[this];exact h.nd
 ·show bq (s.rs.set _ _)=_;rw[NK hO.at_ (by rw[hr',hO.fin]),h.opn];simp
def oq.fin(h:oq s D RL){at_:Nat}(hR:RL[at_]?=some R)(hO:zE s D R r):oq (nW s (R.n-1) r) D (RL.eraseIdx at_):=by
 obtain⟨hat,hRe⟩:=List.getElem?_eq_some_iff.1 hR;refine⟨⟨h.ws.len,h.ws.w⟩,h.BI,fun R0 RH=>?_,?_,?_,?_⟩
 ·obtain⟨j,hj⟩:=List.getElem?_of_mem RH;rw[List.getElem?_eraseIdx]at hj;have:∃j',j'≠at_/\RL[j']?=some R0:=by
   split at hj
   ·exact⟨j,by omega,hj⟩
   ·exact⟨j+1,by omega,hj⟩
  obtain⟨j',hne',hj'⟩:=this;obtain⟨r0,h0⟩:=h.rd R0 (zct hj');refine⟨r0,h0.rs rfl ?_⟩;show (s.rs.set _ _)[R0.n-1]?=_;have hne:R.n≠R0.n:=fun e'=>hne' (by
   have h1:(RL.map (·.n))[at_]?=some R.n:=by rw[List.getElem?_map,hR];rfl
   have h2:(RL.map (·.n))[j']?=some R.n:=by rw[List.getElem?_map,hj',e'];rfl
   exact((List.getElem?_inj (by simpa using hat) h.nd).1 (h1.trans h2.symm)).symm)
  have:=h0.lo;have:=hO.lo;rw[List.getElem?_set_ne (by omega)]
 ·exact((List.eraseIdx_sublist RL at_).map _).nodup h.nd
 ·have h1:=qA hO.at_ hO.fin;have h2:=h.opn;show bq (s.rs.set _ _)=_;rw[zcu,if_pos hat];omega
 ·have:=h.Ga;rw[zcu,if_pos hat];omega
end
end
section
open Go Go.RowKit Go.MuLone Go.Conc
structure FW(w:af)(τ:Nat->Tag)(a:Option aA)(L:List ah):Prop where
 at_:∀(j:Nat) (x:ah),L[j]?=some x->∃g,a=some ⟨g,0,none⟩/\g<w.heap.size/\τ g=(0,0,0)/\w.cell? ⟨g,j,none⟩=some (.string x)
structure KnE(w:af)(τ:Nat->Tag)(i:Nat)(d:mY):Prop where
 blk:bg w d.k.kb (fQ d.k.n (.slice (some ⟨d.k.kg,0,none⟩) d.k.ks.length d.k.cap) d.on) 48
 tag:τ d.k.kb=(1,20,i)
 keys:FW w τ (some ⟨d.k.kg,0,none⟩) d.k.ks
structure RdE(w0 w:af)(τ:Nat->Tag)(R:jX):Prop where
 blk:bg w R.rb #[.int .i64 R.n,.slice (some ⟨R.kg,0,none⟩) R.ks.length R.kc,.slice R.la R.left.length R.lc,R.sv] 60
 tag:τ R.rb=(1,25,R.n)
 keys:FW w τ (some ⟨R.kg,0,none⟩) R.ks
 left:FW w τ R.la R.left
 row:w.ownsRow w0.heap.size 3 1 R.sv R.sure.length (R.sure.map fun m=>.int .i64 (m:Nat))
 dw:∀q,R.sv.ownBlock=some q->τ q=(1,26,R.n)
 kc:R.ks.length<=R.kc/\R.kc<=maxLen
structure eG(Z:Nat->Prop)(w0 w:af)(τ:Nat->Tag)(sb xb:Nat)(s:MS)(A:SA)(wv rv:aj)(D:List mY)(RL:List jX):Prop where
 rep:a9 w τ 2 sb s A
 env:Env w0 w τ
 zs:∀k,Z k->k<w.heap.size/\τ k=(0,1,0)
 x:bg w xb #[ptr sb,wv,rv] 32
 iO:τ xb=(1,21,0)
 row:w.ownsRow w0.heap.size 45 1 wv D.length (D.map fun d=>ptr d.k.kb)
 dw:∀q,wv.ownBlock=some q->τ q=(1,22,0)
 lJ:w.ownsRow w0.heap.size 57 1 rv RL.length (RL.map fun R=>ptr R.rb)
 gB:∀q,rv.ownBlock=some q->τ q=(1,24,0)
 kn:∀(i:Nat) (d:mY),D[i]?=some d->KnE w τ i d
 rd:∀R∈RL,RdE w0 w τ R
def sF(G:Tag->Prop)(τ τ':Nat->Tag)(w w':af):Prop:=∀q,q<w.heap.size->G (τ q)->w'.heap[q]?=w.heap[q]? /\τ' q=τ q
section
variable {Z:Nat->Prop}{w0 w w':af}{τ τ':Nat->Tag}{sb xb:Nat}{s s':MS}{A A':SA}{wv rv:aj}{D:List mY}{RL:List jX}{G:Tag->Prop}{L:List ah}{a:Option aA}{d:mY}{R:jX}
def BL{q:Nat}(h:q<w.heap.size)(e:w'.heap[q]?=w.heap[q]?):q<w'.heap.size:=by rw[Array.getElem?_eq_getElem h]at e;exact(zcr.1 e).1
def FW.same(h:FW w τ a L)(hs:sF G τ τ' w w')(h0:G (0,0,0)):FW w' τ' a L:=⟨fun j x hx=>by obtain⟨g,e,h1,h2,h3⟩:=h.at_ j x hx;obtain⟨e1,e2⟩:=hs g h1 (by rw[h2];exact h0);exact⟨g,e,BL h1 e1,e2.trans h2,(zcq (w:=w) (a:=⟨g,j,none⟩) e1).trans h3⟩⟩
def KnE.same{i:Nat}(h:KnE w τ i d)(hs:sF G τ τ' w w')(h0:G (0,0,0))(h1:G (1,20,i)):KnE w' τ' i d:=by obtain⟨e1,e2⟩:=hs _ h.blk.lt (by rw[h.tag];exact h1);exact⟨h.blk.of_eq e1,e2.trans h.tag,h.keys.same hs h0⟩
def RdE.same(h:RdE w0 w τ R)(hs:sF G τ τ' w w')(h0:G (0,0,0))(h1:G (1,25,R.n))(h2:G (1,26,R.n)):RdE w0 w' τ' R:=by obtain⟨e1,e2⟩:=hs _ h.blk.lt (by rw[h.tag];exact h1);have hr:∀q,R.sv.ownBlock=some q->w'.heap[q]?=w.heap[q]? /\τ' q=τ q:=fun q hq=>hs q (aQ h.row q hq).2 (by rw[h.dw q hq];exact h2);exact⟨h.blk.of_eq e1,e2.trans h.tag,h.keys.same hs h0,h.left.same hs h0,aH h.row fun q hq=>(hr q hq).1,fun q hq=>(hr q hq).2.trans (h.dw q hq),h.kc⟩
def eG.frame(h:eG Z w0 w τ sb xb s A wv rv D RL)(hR:a9 w' τ' 2 sb s' A')(hE:Env w0 w' τ')(hs:sF (fun t=>t.1≠2) τ τ' w w'):eG Z w0 w' τ' sb xb s' A' wv rv D RL:=by
 have n:∀{q:Nat} {t:Tag},q<w.heap.size->τ q=t->t.1≠2->w'.heap[q]?=w.heap[q]? /\τ' q=t:=fun h1 h2 h3=>by obtain⟨e1,e2⟩:=hs _ h1 (by rw[h2];exact h3);exact⟨e1,e2.trans h2⟩
 refine⟨hR,hE,fun k hk=>?_,h.x.of_eq (n h.x.lt h.iO (by decide)).1,(n h.x.lt h.iO (by decide)).2,aH h.row fun q hq=>(n (aQ h.row q hq).2 (h.dw q hq) (by decide)).1,fun q hq=>(n (aQ h.row q hq).2 (h.dw q hq) (by decide)).2,aH h.lJ fun q hq=>(n (aQ h.lJ q hq).2 (h.gB q hq) (by decide)).1,fun q hq=>(n (aQ h.lJ q hq).2 (h.gB q hq) (by decide)).2,fun i d hd=>(h.kn i d hd).same hs (by decide) (show (1:Nat)≠2 by decide),fun R hR=>(h.rd R hR).same hs (by decide) (show (1:Nat)≠2 by decide) (show (1:Nat)≠2 by decide)⟩;obtain⟨h1,h2⟩:=h.zs k hk;obtain⟨e1,e2⟩:=n h1 h2 (by decide);exact⟨BL h1 e1,e2⟩
def eG.step(h:eG Z w0 w τ sb xb s A wv rv D RL)(hR:a9 w' τ' 2 sb s' A')(hs:Stp 2 τ w τ' w'):eG Z w0 w' τ' sb xb s' A' wv rv D RL:=
 h.frame hR (h.env.ou hs (by decide)) fun q hq e=>⟨hs.block q hq e,hs.tag q hq⟩
def eG.below(h:eG Z w0 w τ sb xb s A wv rv D RL)(hB:Below w.heap.size w w'):eG Z w0 w' τ sb xb s A wv rv D RL:=
 h.frame (h.rep.below hB) (h.env.V9 hB) fun q hq _=>⟨hB.block q hq,rfl⟩
def eG.fresh(h:eG Z w0 w τ sb xb s A wv rv D RL)(hB:Below w.heap.size w w'):eG Z w0 w' (fresh τ w.heap.size) sb xb s A wv rv D RL:=by
 have hf:∀q,q<w.heap.size->Go.Proofs.YteoahlieielcdaaGreat.fresh τ w.heap.size q=τ q:=fun q hq=>by unfold Go.Proofs.YteoahlieielcdaaGreat.fresh;rw[if_neg (by omega)]
 refine h.frame (h.rep.frame (fun q hq _=>⟨hB.block q hq,hf q hq⟩)) ⟨h.env.below.trans (hB.mono h.env.below.size),fun q hq=>?_⟩ (fun q hq _=>⟨hB.block q hq,hf q hq⟩);have:=h.env.below.size;rw[hf q (by omega)];exact h.env.lm q hq
def eG.drew(h:eG Z w0 w τ sb xb s A wv rv D RL):eG Z w0 w.drew τ sb xb s A wv rv D RL:=h.below (Below.refl _ _).drew
def eG.low(h:eG Z w0 w τ sb xb s A wv rv D RL){q:Nat}(hq:(τ q).1=1):w0.heap.size<=q:=NL h.env hq
def eG.VN(h:eG Z w0 w τ sb xb s A wv rv D RL)(hI:oq s D RL):∃a cap,wv=.slice a D.length cap/\sL w a (D.map (·.k)):=by
 have hf:=hI.BI;have kn:∀(i:Nat) (d:FQ),(D.map (·.k))[i]?=some d->BM w d:=fun i d hd=>by rw[List.getElem?_map]at hd;obtain⟨d',sJ,rfl⟩:=Option.map_eq_some_iff.1 hd;have hk:=h.kn i d' sJ;obtain⟨-,-,w3,w4⟩:=hI.ws.w i d' sJ;have hl:=(List.getElem?_eq_some_iff.1 sJ).1;refine⟨hk.blk.cell (o:=0) rfl,hk.blk.cell (o:=1) rfl,fun j x hx=>?_,by have:=w4.ok.2.2.2.1;omega,by omega,by omega⟩;obtain⟨g,e,_,_,hc⟩:=hk.keys.at_ j x hx;cases e;exact hc
 by_cases h0:D.length=0
 ·obtain⟨a,cap,e⟩:=cy h.row;exact⟨a,cap,e,⟨fun i d hd=>by have:=(List.getElem?_eq_some_iff.1 hd).1;simp at this;omega,kn,by simp;omega⟩⟩
 ·obtain⟨g,cap,e,_,_,hc,_⟩:=cJ h.row (by omega);refine⟨_,cap,e,⟨fun i d hd=>⟨g,rfl,?_⟩,kn,by simp;omega⟩⟩;rw[List.getElem?_map]at hd;obtain⟨d',sJ,rfl⟩:=Option.map_eq_some_iff.1 hd;have:=(List.getElem?_eq_some_iff.1 sJ).1;rw[hc i (by omega),List.getElem?_map,sJ];rfl
def eG.at_(h:eG Z w0 w τ sb xb s A wv rv D RL)(hd:D[i]?=some d):∃g cap,wv=.slice (some ⟨g,0,none⟩) D.length cap/\w.cell? ⟨g,i,none⟩=some (.pointer (some ⟨d.k.kb,0,none⟩)):=by have hl:=(List.getElem?_eq_some_iff.1 hd).1;obtain⟨g,cap,e,_,_,hc,_⟩:=cJ h.row (by omega);refine⟨g,cap,e,?_⟩;rw[hc i (by omega),List.getElem?_map,hd];rfl
def eG.atR(h:eG Z w0 w τ sb xb s A wv rv D RL)(hd:RL[i]?=some R):∃g cap,rv=.slice (some ⟨g,0,none⟩) RL.length cap/\w.cell? ⟨g,i,none⟩=some (.pointer (some ⟨R.rb,0,none⟩)):=by have hl:=(List.getElem?_eq_some_iff.1 hd).1;obtain⟨g,cap,e,_,_,hc,_⟩:=cJ h.lJ (by omega);refine⟨g,cap,e,?_⟩;rw[hc i (by omega),List.getElem?_map,hd];rfl
def eG.xj(h:eG Z w0 w τ sb xb s A wv rv D RL){p:Nat}(hd:D[i]?=some d)(hp:p<4):eG Z w0 (w.setCell ⟨d.k.kb,2+p,none⟩ (.bool true)) τ sb xb s A wv rv (D.set i (xh d p)) RL:=by
 have hk:=h.kn i d hd;have hl:=(List.getElem?_eq_some_iff.1 hd).1;have hne:∀{q:Nat},τ q≠(1,20,i)->(w.setCell ⟨d.k.kb,2+p,none⟩ (.bool true)).heap[q]?=w.heap[q]? :=fun{q} hq=>zcl _ _ _ _ fun e=>hq (by have e':q=d.k.kb:=e;rw[e',hk.tag])
 have hs:sF (fun t=>t≠(1,20,i)) τ τ w (w.setCell ⟨d.k.kb,2+p,none⟩ (.bool true)):=fun q _ e=>⟨hne e,rfl⟩
 have hz:(w.setCell ⟨d.k.kb,2+p,none⟩ (.bool true)).heap.size=w.heap.size:=by simp[World.setCell]
 have hmap:(D.set i (xh d p)).map (fun d=>ptr d.k.kb)=D.map fun d=>ptr d.k.kb:=by
  apply List.ext_getElem?;intro j;rw[List.getElem?_map,List.getElem?_map,List.getElem?_set];split
  ·rename_i e;subst e;rw[hd];simp[xh]
  ·rfl
 refine⟨h.rep.frame (fun q _ e=>⟨hne (fun e'=>by rw[e']at e;cases e),rfl⟩),⟨h.env.below.setCell (p:=⟨d.k.kb,2+p,none⟩) (h.low (by rw[hk.tag])) _,h.env.lm⟩,fun k hk=>by rw[hz];exact h.zs k hk,h.x.of_eq (hne (by rw[h.iO];simp)),h.iO,?_,h.dw,aH h.lJ fun q hq=>hne (by rw[h.gB q hq];simp),h.gB,fun j d' sJ=>?_,fun R hR=>(h.rd R hR).same hs (by simp) (by simp) (by simp)⟩
 ·rw[hmap,List.length_set];exact aH h.row fun q hq=>hne (by rw[h.dw q hq];simp)
 ·by_cases e:i=j
  ·subst e;rw[List.getElem?_set_self hl]at sJ;cases sJ;have hb:=hk.blk.set (2+p) (.bool true);rw[DS hp]at hb;exact⟨hb,hk.tag,hk.keys.same hs (by simp)⟩
  ·rw[List.getElem?_set_ne e]at sJ;exact(h.kn j d' sJ).same hs (by simp) (by simp;omega)
end
end
section
open Go Go.RowKit Go.MuLone Go.Conc
def xk(τ:Nat->Tag)(n:Nat)(t1:Tag)(rb:Option Nat)(t2:Tag):Nat->Tag:=fun q=>if some q=rb then t2 else if q=n then t1 else if n<=q then(0,0,0)else τ q
structure BN(w w2:af)(τ τ':Nat->Tag)(t1 t2:Tag)(v2:aj):Prop where
 os:w2.os=w.os
 tape:w2.tape=w.tape
 output:w2.output=w.output
 size:w.heap.size<w2.heap.size
 tag:∀q,q<w.heap.size->τ' q=τ q
 old:∀q,q<w.heap.size->τ q≠t2->w2.heap[q]?=w.heap[q]?
 own:∀q,v2.ownBlock=some q->τ' q=t2/\q≠w.heap.size
 new:τ' w.heap.size=t1
def BN.of{w:af}{t1 t2:Tag}{ov v2:aj}(hW:Below w.heap.size w W)(hz:w.heap.size<W.heap.size)(hG:W.grownBy w2 ov.ownBlock)(hov:∀q,ov.ownBlock=some q->q<w.heap.size/\τ q=t2)(hA:v2.ownBlock=ov.ownBlock\/v2.ownBlock=some W.heap.size):
 BN w w2 τ (xk τ w.heap.size t1 v2.ownBlock t2) t1 t2 v2:=by
 have hv:∀q,some q=v2.ownBlock->q≠w.heap.size/\(q<w.heap.size->τ q=t2):=fun q hq=>by
  rcases hA with e|e
  ·rw[e]at hq;have:=hov q hq.symm;exact⟨by omega,fun _=>this.2⟩
  ·rw[e]at hq;cases hq;exact⟨by omega,fun h=>by omega⟩
 refine⟨hG.os.trans hW.os,hG.tape.trans hW.tape,hG.output.trans hW.output,zcn hz hG.size,fun q hq=>?_,fun q hq ht=>?_,fun q hq=>⟨by unfold xk;rw[if_pos hq.symm],(hv q hq.symm).1⟩,?_⟩
 ·unfold xk;split
  ·rename_i e;exact((hv q e).2 hq).symm
  ·rw[if_neg (by omega),if_neg (by omega)]
 ·exact(hG.block q (by omega) fun e=>ht (hov q e.symm).2).trans (hW.block q hq)
 ·unfold xk;rw[if_neg (fun e=>(hv _ e).1 rfl),if_pos rfl]
section
variable {Z:Nat->Prop}{w0 w w2:af}{τ τ':Nat->Tag}{sb xb:Nat}{s:MS}{A:SA}{wv rv v2:aj}{D:List mY}{RL:List jX}{t1 t2:Tag}
def BN.env(h:BN w w2 τ τ' t1 t2 v2)(hE:Env w0 w τ)(ht2:t2≠(0,0,0)){b o:Nat}(hb:(τ b).1=1):Env w0 (w2.setCell ⟨b,o,none⟩ v) τ':=by have hz:=hE.below.size;have BO:=NL hE hb;refine⟨⟨h.os.trans hE.below.os,h.tape.trans hE.below.tape,h.output.trans hE.below.output,by have:=h.size;simp[World.setCell];omega,fun k hk=>?_⟩,fun k hk=>by rw[h.tag k (by omega)];exact hE.lm k hk⟩;rw[zcl _ _ _ _ (show k≠b by omega),h.old k (by omega) (by rw[hE.lm k hk];exact fun e=>ht2 e.symm),hE.below.block k hk]
def BN.same(h:BN w w2 τ τ' t1 t2 v2){b o:Nat}{t3:Tag}(hb:τ b=t3)(G:Tag->Prop)(h2:¬G t2)(h3:¬G t3):sF G τ τ' w (w2.setCell ⟨b,o,none⟩ v):=fun q hq hg=>by refine⟨(zcl _ _ _ _ fun e=>?_).trans (h.old q hq fun e=>h2 (by rw[<-e];exact hg)),h.tag q hq⟩;have e':q=b:=e;exact h3 (by rw[<-hb,<-e'];exact hg)
def eG.ZA(h:eG Z w0 w τ sb xb s A wv rv D RL){n kg cap:Nat}{L:List ah}(hL:FW w τ (some ⟨kg,0,none⟩) L)(hG:((w.alloc (.cells (fQ (n:Int) (.slice (some ⟨kg,0,none⟩) L.length cap) (fun _=>false)) 48)).alloc o).grownBy w2 wv.ownBlock)
 (hO:w2.ownsRow w0.heap.size 45 1 v2 (D.length+1) ((D.map fun d=>ptr d.k.kb)++ [ptr w.heap.size])) (hA:v2.ownBlock=wv.ownBlock\/v2.ownBlock=some (w.heap.size+2)):
 ∃τ',eG Z w0 (w2.setCell ⟨xb,1,none⟩ v2) τ' sb xb s A v2 rv (D++ [⟨⟨w.heap.size,n,kg,cap,L⟩,fun _=>false⟩]) RL:=by
 have hB:Below w.heap.size w ((w.alloc (.cells (fQ (n:Int) (.slice (some ⟨kg,0,none⟩) L.length cap) (fun _=>false)) 48)).alloc o):=((Below.refl _ _).alloc (zcm _) _).alloc (by simp) _;have g:=BN.of (t1:=(1,20,D.length)) (t2:=(1,22,0)) (τ:=τ) hB (by simp;omega) hG (fun q hq=>⟨(aQ h.row q hq).2,h.dw q hq⟩) (by simpa using hA);generalize xk τ w.heap.size (1,20,D.length) v2.ownBlock (1,22,0)=τ' at g;have hs:=g.same (o:=1) (v:=v2) h.iO (fun t=>t≠(1,21,0)/\t≠(1,22,0)) (by simp) (by simp);have hz:=g.size;have hsz:(w2.setCell ⟨xb,1,none⟩ v2).heap.size=w2.heap.size:=by simp[World.setCell]
 have FV:bg w2 xb #[ptr sb,wv,rv] 32:=h.x.of_eq (g.old xb h.x.lt (by rw[h.iO];simp));have hnk:bg w2 w.heap.size (fQ (n:Int) (.slice (some ⟨kg,0,none⟩) L.length cap) (fun _=>false)) 48:=(bg.new w _ _).of_eq ((hG.block w.heap.size (by simp;omega) (fun e=>by have:=(aQ h.row _ e.symm).2;omega)).trans (Below.heap_alloc _ _ _ (by simp)));have hxl:=h.x.lt;have hrw:∀q,rv.ownBlock=some q->_:=fun q hq=>hs q (aQ h.lJ q hq).2 (by rw[h.gB q hq];simp);refine⟨τ',h.rep.frame (fun q hq e=>hs q hq (by constructor<;>(intro e';rw[e']at e;cases e))),g.env h.env (by simp) (by rw[h.iO]),fun k hk=>?_,FV.set 1 v2,by rw[g.tag xb hxl,h.iO],?_,fun q hq=>(g.own q hq).1,aH h.lJ fun q hq=>(hrw q hq).1,fun q hq=>(hrw q hq).2.trans (h.gB q hq),fun i d hd=>?_,fun R hR=>(h.rd R hR).same hs (by simp) (by simp) (by simp)⟩
 ·obtain⟨h1,h2⟩:=h.zs k hk;exact⟨by omega,by rw[g.tag k h1,h2]⟩
 ·rw[zcv,List.length_append];refine aH hO fun q hq=>zcl _ _ _ _ fun e=>?_;have e':q=xb:=e;have:=(g.own q hq).1;rw[e',g.tag xb hxl,h.iO]at this;cases this
 ·rcases Nat.lt_or_ge i D.length with hi|hi
  ·rw[List.getElem?_append_left hi]at hd;exact(h.kn i d hd).same hs (by simp) (by simp)
  ·have hi':=(List.getElem?_eq_some_iff.1 hd).1;simp at hi';obtain rfl:i=D.length:=by omega
   rw[List.getElem?_append_right (zcm _),Nat.sub_self]at hd;cases hd;exact⟨hnk.of_eq (zcl _ _ _ _ (show w.heap.size≠xb by omega)),g.new,hL.same hs (by simp)⟩
def eG.NN(h:eG Z w0 w τ sb xb s A wv rv D RL){n kg kc:Nat}{L:List ah}(hL:FW w τ (some ⟨kg,0,none⟩) L)(hkc:L.length<=kc/\kc<=maxLen)(hG:((w.alloc (.cells #[.int .i64 (n:Nat),.slice (some ⟨kg,0,none⟩) L.length kc,.slice (some ⟨kg,0,none⟩) L.length kc,fY] 60)).alloc o).grownBy w2 rv.ownBlock)
 (hO:w2.ownsRow w0.heap.size 57 1 v2 (RL.length+1) ((RL.map fun R=>ptr R.rb)++ [ptr w.heap.size])) (hA:v2.ownBlock=rv.ownBlock\/v2.ownBlock=some (w.heap.size+2)):
 ∃τ',eG Z w0 (w2.setCell ⟨xb,2,none⟩ v2) τ' sb xb s A wv v2 D (RL++ [⟨w.heap.size,n,kg,kc,L,some ⟨kg,0,none⟩,kc,L,fY, []⟩]):=by
 have hB:Below w.heap.size w ((w.alloc (.cells #[.int .i64 (n:Nat),.slice (some ⟨kg,0,none⟩) L.length kc,.slice (some ⟨kg,0,none⟩) L.length kc,fY] 60)).alloc o):=((Below.refl _ _).alloc (zcm _) _).alloc (by simp) _;have g:=BN.of (t1:=(1,25,n)) (t2:=(1,24,0)) (τ:=τ) hB (by simp;omega) hG (fun q hq=>⟨(aQ h.lJ q hq).2,h.gB q hq⟩) (by simpa using hA);generalize xk τ w.heap.size (1,25,n) v2.ownBlock (1,24,0)=τ' at g;have hs:=g.same (o:=2) (v:=v2) h.iO (fun t=>t≠(1,21,0)/\t≠(1,24,0)) (by simp) (by simp);have hz:=g.size;have hsz:(w2.setCell ⟨xb,2,none⟩ v2).heap.size=w2.heap.size:=by simp[World.setCell]
 have FV:bg w2 xb #[ptr sb,wv,rv] 32:=h.x.of_eq (g.old xb h.x.lt (by rw[h.iO];simp));have hnk:bg w2 w.heap.size #[.int .i64 (n:Nat),.slice (some ⟨kg,0,none⟩) L.length kc,.slice (some ⟨kg,0,none⟩) L.length kc,fY] 60:=(bg.new w _ _).of_eq ((hG.block w.heap.size (by simp;omega) (fun e=>by have:=(aQ h.lJ _ e.symm).2;omega)).trans (Below.heap_alloc _ _ _ (by simp)));have hxl:=h.x.lt;have hrw:∀q,wv.ownBlock=some q->_:=fun q hq=>hs q (aQ h.row q hq).2 (by rw[h.dw q hq];simp);refine⟨τ',h.rep.frame (fun q hq e=>hs q hq (by constructor<;>(intro e';rw[e']at e;cases e))),g.env h.env (by simp) (by rw[h.iO]),fun k hk=>?_,FV.set 2 v2,by rw[g.tag xb hxl,h.iO],aH h.row fun q hq=>(hrw q hq).1,fun q hq=>(hrw q hq).2.trans (h.dw q hq),?_,fun q hq=>(g.own q hq).1,fun i d hd=>(h.kn i d hd).same hs (by simp) (by simp),fun R hR=>?_⟩
 ·obtain⟨h1,h2⟩:=h.zs k hk;exact⟨by omega,by rw[g.tag k h1,h2]⟩
 ·rw[zcv,List.length_append];refine aH hO fun q hq=>zcl _ _ _ _ fun e=>?_;have e':q=xb:=e;have:=(g.own q hq).1;rw[e',g.tag xb hxl,h.iO]at this;cases this
 ·rcases List.mem_append.1 hR with hR|hR
  ·exact(h.rd R hR).same hs (by simp) (by simp) (by simp)
  ·obtain rfl:=List.mem_singleton.1 hR;exact⟨hnk.of_eq (zcl _ _ _ _ (show w.heap.size≠xb by omega)),g.new,hL.same hs (by simp),hL.same hs (by simp),World.ownsRow_nil _ _ _ _,(fun q hq=>by cases hq),hkc⟩
end
end
section
open Go Go.RowKit Go.MuLone Go.Conc
def jX.dA(R:jX)(sv:aj)(l:List Nat):jX:=⟨R.rb,R.n,R.kg,R.kc,R.ks,R.la,R.lc,R.left,sv,l⟩
def jX.oF(R:jX)(la:Option aA)(lc:Nat)(l:List ah):jX:=⟨R.rb,R.n,R.kg,R.kc,R.ks,la,lc,l,R.sv,R.sure⟩
section
variable {Z:Nat->Prop}{w0 w w2:af}{τ:Nat->Tag}{sb xb:Nat}{s:MS}{A:SA}{wv rv v2:aj}{D:List mY}{RL:List jX}{R R':jX}{at_:Nat}
def NT(hR:RL[at_]?=some R)(e:R'.rb=R.rb):(RL.set at_ R').map (fun R=>ptr R.rb)=RL.map fun R=>ptr R.rb:=by
 apply List.ext_getElem?;intro j;rw[List.getElem?_map,List.getElem?_map,List.getElem?_set];split
 ·rename_i e';subst e';rw[hR];have:=(List.getElem?_eq_some_iff.1 hR).1;simp[this,e]
 ·rfl
def um(hR:RL[at_]?=some R)(hnd:(RL.map (·.n)).Nodup){R0:jX}(h:R0∈RL.set at_ R'):R0=R'\/R0∈RL/\R0.n≠R.n:=by
 obtain⟨hat,_⟩:=List.getElem?_eq_some_iff.1 hR;obtain⟨j,hj⟩:=List.getElem?_of_mem h;by_cases e:at_=j
 ·subst e;rw[List.getElem?_set_self hat]at hj;exact .inl (Option.some.inj hj).symm
 ·rw[List.getElem?_set_ne e]at hj;refine .inr ⟨zct hj,fun e'=>e ?_⟩;have h1:(RL.map (·.n))[at_]?=some R.n:=by rw[List.getElem?_map,hR];rfl
  have h2:(RL.map (·.n))[j]?=some R.n:=by rw[List.getElem?_map,hj,<-e'];rfl
  exact(List.getElem?_inj (by simpa using hat) hnd).1 (h1.trans h2.symm)
def eG.ZF(h:eG Z w0 w τ sb xb s A wv rv D RL)(hR:RL[at_]?=some R)(hnd:(RL.map (·.n)).Nodup)(hG:(w.alloc o).grownBy w2 R.sv.ownBlock)(hO:w2.ownsRow w0.heap.size 3 1 v2 (R.sure.length+1) ((R.sure.map fun m=>.int .i64 (m:Nat))++ [.int .i64 (m:Nat)]))(hA:v2.ownBlock=R.sv.ownBlock\/v2.ownBlock=some (w.heap.size+1)):
 ∃τ',eG Z w0 (w2.setCell ⟨R.rb,3,none⟩ v2) τ' sb xb s A wv rv D (RL.set at_ (R.dA v2 (R.sure++ [m])))/\∀q,q<w.heap.size->τ' q=τ q:=by
 have hr:=h.rd R (zct hR);have hB:Below w.heap.size w (w.alloc o):=(Below.refl _ _).alloc (zcm _) _;have g:=BN.of (t1:=(0,0,0)) (t2:=(1,26,R.n)) (τ:=τ) hB (by simp) hG (fun q hq=>⟨(aQ hr.row q hq).2,hr.dw q hq⟩) (by simpa using hA);generalize xk τ w.heap.size (0,0,0) v2.ownBlock (1,26,R.n)=τ' at g;have hs:=g.same (o:=3) (v:=v2) hr.tag (fun t=>t≠(1,25,R.n)/\t≠(1,26,R.n)) (by simp) (by simp);have hz:=g.size;have hrl:=hr.blk.lt;have hsz:(w2.setCell ⟨R.rb,3,none⟩ v2).heap.size=w2.heap.size:=by simp[World.setCell]
 have j9:=(hr.blk.of_eq (g.old R.rb hrl (by rw[hr.tag];simp))).set 3 v2;have n:∀{q:Nat} {t:Tag},q<w.heap.size->τ q=t->t≠(1,25,R.n)->t≠(1,26,R.n)->(w2.setCell ⟨R.rb,3,none⟩ v2).heap[q]?=w.heap[q]? /\τ' q=t:=fun h1 h2 h3 h4=>by obtain⟨e1,e2⟩:=hs _ h1 (by rw[h2];exact⟨h3,h4⟩);exact⟨e1,e2.trans h2⟩
 refine⟨τ',⟨h.rep.frame (fun q hq e=>hs q hq (by constructor<;>(intro e';rw[e']at e;cases e))),g.env h.env (by simp) (by rw[hr.tag]),fun k hk=>?_,h.x.of_eq (n h.x.lt h.iO (by simp) (by simp)).1,(n h.x.lt h.iO (by simp) (by simp)).2,aH h.row fun q hq=>(n (aQ h.row q hq).2 (h.dw q hq) (by simp) (by simp)).1,fun q hq=>(n (aQ h.row q hq).2 (h.dw q hq) (by simp) (by simp)).2,?_,fun q hq=>(n (aQ h.lJ q hq).2 (h.gB q hq) (by simp) (by simp)).2,fun i d hd=>(h.kn i d hd).same hs (by simp) (by simp),fun R0 RH=>?_⟩,g.tag⟩
 ·obtain⟨h1,h2⟩:=h.zs k hk;exact⟨by omega,by rw[g.tag k h1,h2]⟩
 ·rw[NT hR (R':=R.dA v2 (R.sure++ [m])) rfl,List.length_set];exact aH h.lJ fun q hq=>(n (aQ h.lJ q hq).2 (h.gB q hq) (by simp) (by simp)).1
 ·rcases um hR hnd RH with rfl|⟨h1,h2⟩
  ·refine⟨j9,by show τ' R.rb=_;rw[g.tag R.rb hrl];exact hr.tag,hr.keys.same hs (by simp),hr.left.same hs (by simp),?_,fun q hq=>(g.own q hq).1,hr.kc⟩;show (w2.setCell ⟨R.rb,3,none⟩ v2).ownsRow _ _ _ v2 (R.sure++ [m]).length ((R.sure++ [m]).map _);rw[zcv,List.length_append];refine aH hO fun q hq=>zcl _ _ _ _ fun e=>?_;have e':q=R.rb:=e;have:=(g.own q hq).1;rw[e',g.tag R.rb hrl,hr.tag]at this;simp at this
  ·exact(h.rd R0 h1).same hs (by simp) (by simp[h2]) (by simp[h2])
def eG.ZG(h:eG Z w0 w τ sb xb s A wv rv D RL)(hR:RL[at_]?=some R)(hnd:(RL.map (·.n)).Nodup){la:Option aA}{lc:Nat}(hl:FW w τ la l):eG Z w0 (w.setCell ⟨R.rb,2,none⟩ (.slice la l.length lc)) τ sb xb s A wv rv D (RL.set at_ (R.oF la lc l)):=by
 have hr:=h.rd R (zct hR);have hne:∀{q:Nat},τ q≠(1,25,R.n)->(w.setCell ⟨R.rb,2,none⟩ (.slice la l.length lc)).heap[q]?=w.heap[q]? :=fun{q} hq=>zcl _ _ _ _ fun e=>hq (by have e':q=R.rb:=e;rw[e',hr.tag])
 have hs:sF (fun t=>t≠(1,25,R.n)) τ τ w (w.setCell ⟨R.rb,2,none⟩ (.slice la l.length lc)):=fun q _ e=>⟨hne e,rfl⟩
 have hz:(w.setCell ⟨R.rb,2,none⟩ (.slice la l.length lc)).heap.size=w.heap.size:=by simp[World.setCell]
 refine⟨h.rep.frame (fun q _ e=>⟨hne (fun e'=>by rw[e']at e;cases e),rfl⟩),⟨h.env.below.setCell (p:=⟨R.rb,2,none⟩) (h.low (by rw[hr.tag])) _,h.env.lm⟩,fun k hk=>by rw[hz];exact h.zs k hk,h.x.of_eq (hne (by rw[h.iO];simp)),h.iO,aH h.row fun q hq=>hne (by rw[h.dw q hq];simp),h.dw,?_,h.gB,fun i d hd=>(h.kn i d hd).same hs (by simp) (by simp),fun R0 RH=>?_⟩
 ·rw[NT hR (R':=R.oF la lc l) rfl,List.length_set];exact aH h.lJ fun q hq=>hne (by rw[h.gB q hq];simp)
 ·rcases um hR hnd RH with rfl|⟨h1,h2⟩
  ·exact⟨hr.blk.set 2 _,hr.tag,hr.keys.same hs (by simp),hl.same hs (by simp),aH hr.row fun q hq=>hne (by rw[hr.dw q hq];simp),hr.dw,hr.kc⟩
  ·exact(h.rd R0 h1).same hs (by simp) (by simp[h2]) (by simp)
def eG.VS(h:eG Z w0 w τ sb xb s A wv rv D RL){RQ:List jX}(hsub:∀R∈RQ,R∈RL)(hO:w.ownsRow w0.heap.size 57 1 v2 RQ.length (RQ.map fun R=>ptr R.rb))(hT:∀q,v2.ownBlock=some q->τ q=(0,0,0)/\¬Z q/\w0.heap.size<=q/\(∀(i:Nat) (d:mY),D[i]?=some d->d.k.kg≠q)/\∀R∈RQ,R.kg≠q/\R.la≠some ⟨q,0,none⟩):
 ∃τ',eG Z w0 (w.setCell ⟨xb,2,none⟩ v2) τ' sb xb s A wv v2 D RQ:=by
 have hne:∀{q:Nat},τ q≠(1,21,0)->(w.setCell ⟨xb,2,none⟩ v2).heap[q]?=w.heap[q]? :=fun{q} hq=>zcl _ _ _ _ fun e=>hq (by have e':q=xb:=e;rw[e',h.iO])
 have ht:∀q,v2.ownBlock≠some q->(if v2.ownBlock=some q then((1,24,0):Tag)else τ q)=τ q:=fun q hq=>by rw[if_neg hq]
 have hn:∀{q:Nat} {t:Tag},τ q=t->t≠(0,0,0)->v2.ownBlock≠some q:=fun h1 h2 e=>h2 (by rw[<-h1];exact(hT _ e).1);have hz:(w.setCell ⟨xb,2,none⟩ v2).heap.size=w.heap.size:=by simp[World.setCell]
 have hkg:∀{a:Option aA} {L:List ah},FW w τ a L->(∀q,v2.ownBlock=some q->a≠some ⟨q,0,none⟩)->FW (w.setCell ⟨xb,2,none⟩ v2) (fun q=>if v2.ownBlock=some q then(1,24,0)else τ q) a L:=fun{a L} hk hq=>⟨fun j x hx=>by obtain⟨g,e,h1,h2,h3⟩:=hk.at_ j x hx;exact⟨g,e,by rw[hz];exact h1,(ht g fun e'=>hq g e' e).trans h2,(zcq (w:=w) (a:=⟨g,j,none⟩) (hne (by rw[h2];simp))).trans h3⟩⟩
 refine⟨fun q=>if v2.ownBlock=some q then(1,24,0)else τ q,h.rep.frame (fun q _ e=>⟨hne (fun e'=>by rw[e']at e;cases e),ht q (hn rfl fun e'=>by rw[e']at e;cases e)⟩),⟨h.env.below.setCell (p:=⟨xb,2,none⟩) (h.low (by rw[h.iO])) _,fun k hk=>(ht k fun e=>by have:=(hT k e).2.2.1;omega).trans (h.env.lm k hk)⟩,fun k hk=>⟨by rw[hz];exact(h.zs k hk).1,(ht k fun e=>(hT k e).2.1 hk).trans (h.zs k hk).2⟩,h.x.set 2 v2,(ht xb (hn h.iO (by simp))).trans h.iO,aH h.row fun q hq=>hne (by rw[h.dw q hq];simp),fun q hq=>(ht q (hn (h.dw q hq) (by simp))).trans (h.dw q hq),aH hO fun q hq=>hne (by rw[(hT q hq).1];simp),fun q hq=>if_pos hq,fun i d hd=>?_,fun R hR=>?_⟩
 ·have hk:=h.kn i d hd;exact⟨hk.blk.of_eq (hne (by rw[hk.tag];simp)),(ht _ (hn hk.tag (by simp))).trans hk.tag,hkg hk.keys fun q hq e=>(hT q hq).2.2.2.1 i d hd (by cases e;rfl)⟩
 ·have hr:=h.rd R (hsub R hR);exact⟨hr.blk.of_eq (hne (by rw[hr.tag];simp)),(ht _ (hn hr.tag (by simp))).trans hr.tag,hkg hr.keys fun q hq e=>((hT q hq).2.2.2.2 R hR).1 (by cases e;rfl),hkg hr.left fun q hq e=>((hT q hq).2.2.2.2 R hR).2 e,aH hr.row fun q hq=>hne (by rw[hr.dw q hq];simp),fun q hq=>(ht q (hn (hr.dw q hq) (by simp))).trans (hr.dw q hq),hr.kc⟩
end
end
end Go.Proofs.YteoahlieielcdaaGreat
