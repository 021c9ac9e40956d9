import Derived.Conc.CompanyMem
import Derived.Conc.MuSpec
import Derived.Conc.AtomicLaws2
set_option linter.all false
set_option maxHeartbeats 4000000
set_option maxRecDepth 100000
open Option renaming some->Y,none->F
open Bool renaming false->E,true->Z6,and_eq_true->az7
open Go.World renaming cell?->ad3,frozen?->aj2,frozen?_setCell->ar3,cell?_setCell_same->au6,cell?_setCell_other->bc5
open List renaming mem_singleton->af7,mem_cons->ar9,not_mem_nil->at5
open Go.Region renaming wanted->ac3,ready->al2,noSelect->ba3,free->bg3
open Option.some renaming injEq->ac6
open BitVec renaming ofInt->ad0,toNat_ofNat->ap7
open Go renaming deafBehind->ad2,execOp->ad6,yielded->ai5
open Array renaming getElem?_modify->ak5,getElem?_eq_none->an2,replicate->ap6,getElem?_push->au7
open Go.Act renaming put_comm->be3
open Go.Extern renaming findNext->ai6,find->al9
open Prod.mk renaming injEq->ai7
open Nat renaming lt_or_ge->aq8,le_of_eq->as9,add_zero->au3,div_add_mod->ba5
open Go.Region.linearise renaming go->ax9
namespace Go.Proofs.YteoahlieielcdaaGreat
def I{p:Prop}(h:p:=by omega):p:=h
def XI{p:Prop}(h:p:=by simp):p:=h
def Yl{p:Prop}(h:p:=by kernel_rfl):p:=h
def Ym{p:Prop}(h:p:=by rfl):p:=h
def Yn{p:Prop}(h:p:=by simp;omega):p:=h
def Yo{p:Prop}(h:p:=by decide):p:=h
def YU{p:Prop}(h:p:=by simp[go_sem]):p:=h
def ZD{p:Prop}(h:p:=by assumption):p:=h
def Z5{p:Prop}(h:p:=by trivial):p:=h
abbrev af:=World
abbrev ah:=ByteArray
abbrev aj:=Value
abbrev ak:=Frame
abbrev au:=Goroutine
abbrev ay:=FuncId
abbrev az:=TypeId
abbrev aA:=Addr
abbrev aB:=Program
abbrev aC:=Event
abbrev aD:=Operand
abbrev zao:=@Nat.le_refl
abbrev zap:=@Nat.le_trans
abbrev zaq:=@Array.getElem?_eq_some_iff
abbrev zar:=@Nat.le_add_right
abbrev zas:=@Nat.mod_eq_of_lt
variable{i j n u it r n' n₁ n₂ dn m nf pb m' k':Nat}{sv ws t:Bool}{w₁ w0:af}{x:aD}{ops:Array Oper}{y cd:Code}{o oi:Oper}{f:ay}{Sn:Array aD}{b:ak}{cs:List ak}{ds:List Deferred}{cap:Array aj}{fn':Func}{a a':Act}{es:Array aC}{G1 C1:Prop}
def sm(f:Nat->Nat):Nat->Nat
 | 0=>0
 |n+1=>sm f n+f n
def aR{α:Type}(f:Nat->α)(i:Nat)(x:α):Nat->α:=λj=>if j=i then x else f j
def aV{α:Type}(f:Nat->α)(i:Nat)(x:α):aR f i x i=x:=by simp[aR]
def bE{α:Type}(f:Nat->α)(x:α)(h:j≠i):aR f i x j=f j:=by simp[aR,h]
def zg{f g:Nat->Nat}:∀{n:Nat},(∀i,i<n->f i=g i)->sm f n=sm g n
 | 0,_=>rfl
 |n+1,h=>by rw[sm,sm,zg (λi hi=>h i I),h n I]
def mL{α:Type}(φ:α->Nat)(f:Nat->α)(x:α){i:Nat}:∀{n:Nat},i<n->sm (λj=>φ (aR f i x j)) n+φ (f i)=sm (λj=>φ (f j)) n+φ x
 |n+1,h=>by
  rcases aq8 i n with hlt|hge
  ·have:=mL φ f x hlt;simp only[sm,bE f x (I:n≠i)];omega
  ·obtain rfl:i=n:=I
   simp only[sm,aV];rw[zg (g:=λj=>φ (f j)) (λj hj=>by rw[bE f x I])];omega
def eF{f:Nat->Nat}{i:Nat}:∀{n:Nat},i<n->f i<=sm f n
 |n+1,h=>by
  rcases aq8 i n with hlt|hge
  ·have:=eF (f:=f) hlt;simp only[sm];omega
  ·obtain rfl:i=n:=I
   simp only[sm];omega
def II{f:Nat->Nat}:∀{n:Nat},0<sm f n->∃i,i<n/\0<f i
 |n+1,h=>by
  simp only[sm]at h;rcases Nat.eq_zero_or_pos (f n)with e|e
  ·obtain⟨i,hi,hp⟩:=II (f:=f) (n:=n) I;exact⟨i,I,hp⟩
  ·exact⟨n,I,e⟩
def BS{f:Nat->Nat}{c:Nat}(h:∀i,f i<=c):∀n,sm f n<=c*n
 | 0=>by simp[sm]
 |n+1=>by have:=BS h n;have:=h n;simp only[sm,Nat.mul_add,Nat.mul_one];omega
def uj{f:Nat->Nat}:∀{n:Nat},(∀i,i<n->f i=0)->sm f n=0
 | 0,_=>rfl
 |n+1,h=>by rw[sm,uj (λi hi=>h i I),h n I]
structure Wd where
 l:Bool
 w:Bool
 s:Bool
 c:Nat
 deriving DecidableEq
inductive Lk where
 |out
 |vk
 |rd (aw sv:Bool) (it:Nat) (ws:Bool)
 |AU (old:Wd) (aw sv:Bool) (it:Nat) (ws:Bool)
 |cw (old:Wd) (sv:Bool) (it:Nat) (ws:Bool)
 |sG (old:Wd) (aw sv:Bool) (it:Nat) (ws:Bool)
 |t1 (sv:Bool)
 |iJ (sv ws:Bool)
 |t2 (ws:Bool)
 |wk (sv ws:Bool)
 |add (cl:Bool)
 |hold
 |G0 (old:Wd)
 |KH
 |tok
 |hand
 |bad
 deriving DecidableEq
def mI(old:Wd)(aw sv:Bool)(it:Nat)(ws:Bool):Lk:=if old.l=Z6/\old.s=E then .AU old aw sv it ws else .sG old aw sv it ws
def Pp(old:Wd)(aw sv:Bool):Wd:={l:=if old.s then old.l else Z6,w:=if aw then E else old.w,s:=old.s ||(sv && old.l),c:=if old.l || old.s then old.c+1 else old.c}
def wL(x:Wd):Lk:=if x.s then .hand else if x.c=0\/x.w=Z6 then .out else .G0 x
def iq(T:Lk)(x:Wd)(v:Nat):List (Lk×Wd×Nat):=
 match T with
 |.vk=>if x=⟨E,E,E,0⟩then [(.hold,{x with l:=Z6},v)]else [(.rd E E 0 E,x,v)]
 |.rd aw sv it ws=> [(mI x aw sv it ws,x,v)]
 |.AU old aw sv it ws=>(.sG old aw sv it ws,x,v)::(if it<4 then [(if aw=E/\old.w=E/\old.c≠0 then .cw old sv it ws else .rd aw sv (it+1) ws,x,v)]else [])
 |.cw old sv it ws=>if x=old then [(.rd Z6 sv (it+1) ws,{x with w:=Z6},v)]else [(.rd E sv (it+1) ws,x,v)]
 |.sG old aw sv it ws=>if aw=Z6/\old.w=E then [(.bad,x,v)]else if x=old then(if old.l=Z6\/old.s=Z6 then [(if ws then .iJ sv Z6 else .t1 sv,Pp old aw sv,v)]else [(.hold,Pp old aw sv,v)])else [(.rd aw sv it ws,x,v)]
 |.t1 sv=> [(.iJ sv Z6,x,v),(.iJ sv E,x,v)]
 |.iJ sv ws=>if v=0 then []else [(if sv then .wk Z6 ws else .t2 ws,x,v-1)]
 |.t2 ws=> [(.wk E ws,x,v),(.wk Z6 ws,x,v)]
 |.wk sv ws=>if x.s then(if x.l=Z6\/x.w=Z6\/x.c=0 then [(.bad,x,v)]else [(.add (!sv || x.c == 1),x,v)])else [(mI x Z6 sv 0 ws,x,v)]
 |.add cl=>if x.l=Z6\/x.s=E\/x.c=0 then [(.bad,x,v)]else [(.hold,{x with l:=Z6,c:=x.c-1,s:=if cl then E else x.s},v)]
 |.hold=>if x.l then [(wL {x with l:=E},{x with l:=E},v)]else [(.bad,x,v)]
 |.G0 old=>if x=old then [(.tok,{x with c:=x.c-1,w:=Z6},v)]else [(.KH,x,v)]
 |.KH=> [(if x.c=0\/x.l=Z6\/x.w=Z6\/x.s=Z6 then .out else .G0 x,x,v)]
 |.tok=> [(.out,x,v+1)]
 |.hand=> [(.out,x,v+1)]
 |.out=> []
 |.bad=> []
def b1(b:Bool):Nat:=if b then 1 else 0
def nH:Lk->Nat|.hold=>1|_=>0
def lZ:Lk->Nat|.rd aw _ _ _=>b1 aw|.AU _ aw _ _ _=>b1 aw|.sG _ aw _ _ _=>b1 aw|_=>0
def mN:Lk->Nat|.tok=>1|_=>0
def mU:Lk->Nat|.hand=>1|_=>0
def kL:Lk->Nat|.t2 _=>1|.wk _ _=>1|_=>0
def jG:Lk->Nat|.add _=>1|_=>0
def nQ:Lk->Nat|.t1 _=>1|.iJ _ _=>1|_=>0
def nj:Lk->Nat|.G0 _=>1|.KH=>1|_=>0
def Yh(n:Nat)(x:Wd):Lk->Prop
 |.rd aw sv it _=>(sv=Z6->aw=Z6)/\it<=4
 |.AU old aw sv it _=>old.l=Z6/\old.s=E/\(aw=Z6->old.w=Z6)/\(sv=Z6->aw=Z6)/\it<=4/\old.c<=n
 |.cw old sv it _=>old.l=Z6/\old.s=E/\old.w=E/\old.c≠0/\sv=E/\it<4/\old.c<=n
 |.sG old aw sv it _=>(aw=Z6->old.w=Z6/\old.s=E)/\(sv=Z6->aw=Z6)/\it<=4/\old.c<=n
 |.add cl=>cl=E->2<=x.c
 |.G0 old=>old.l=E/\old.w=E/\old.s=E/\old.c≠0/\old.c<=n
 |.bad=>False
 |_=>True
structure kB(n:Nat)(th:Nat->Lk)(x:Wd)(v:Nat):Prop where
 lk:sm (λi=>nH (th i)) n=b1 x.l
 norm:x.s=E->sm (λi=>mU (th i)) n=0/\sm (λi=>jG (th i)) n=0/\sm (λi=>lZ (th i)) n+sm (λi=>mN (th i)) n+v+sm (λi=>kL (th i)) n=b1 x.w/\x.c+sm (λi=>mN (th i)) n+v=sm (λi=>nQ (th i)) n
 BU:x.s=Z6->x.w=E/\sm (λi=>lZ (th i)) n=0/\sm (λi=>mN (th i)) n=0/\sm (λi=>nH (th i)) n+sm (λi=>mU (th i)) n+v+sm (λi=>kL (th i)) n+sm (λi=>jG (th i)) n=1/\x.c=sm (λi=>nQ (th i)) n+sm (λi=>kL (th i)) n+sm (λi=>jG (th i)) n/\1<=x.c
 agr:x.s=E->x.l=E->x.w=E->x.c≠0->0<sm (λi=>nj (th i)) n
 ok:∀i,i<n->Yh n x (th i)
def nX:Lk->Nat
 |.out=>0|.vk=>9
 |.rd aw _ _ _=>if aw then 7 else 8
 |.AU _ aw _ _ _=>if aw then 7 else 8
 |.cw ..=>8
 |.sG _ aw _ _ _=>if aw then 7 else 8
 |.t1 _=>6|.iJ _ _=>6
 |.t2 _=>8|.wk _ _=>8|.add _=>7|.hold=>6|.G0 _=>5|.KH=>5|.tok=>4|.hand=>4|.bad=>0
def Ez(x:Wd):Lk->Nat
 |.rd _ _ it _=>10*(5-it)+4
 |.AU old _ _ it _=>(if x=old then 0 else 100)+10*(5-it)+3
 |.cw old _ it _=>(if x=old then 0 else 100)+10*(5-it)+2
 |.sG old _ _ it _=>(if x=old then 0 else 100)+10*(5-it)+1
 |.t1 _=>1|.t2 _=>2|.wk _ _=>1
 |.G0 old=>if x=old then 1 else 3
 |.KH=>2
 |_=>0
def msA(n:Nat)(th:Nat->Lk)(v:Nat):Nat:=sm (λi=>nX (th i)) n+3*v
def Qh(n:Nat)(th:Nat->Lk)(x:Wd):Nat:=sm (λi=>Ez x (th i)) n
def ab5(T:Lk):nQ T+kL T+jG T<=1:=by cases T<;>simp[nQ,kL,jG]
def zi(f g:Nat->Nat):∀n,sm (λi=>f i+g i) n=sm f n+sm g n
 | 0=>rfl
 |n+1=>by simp only[sm,zi f g n];omega
def kB.cbd{th:Nat->Lk}{x:Wd}{v:Nat}(h:kB n th x v):x.c<=n:=by
 have h1:=BS (f:=λi=>nQ (th i)+kL (th i)+jG (th i)) (c:=1) (λi=>ab5 (th i)) n;rw[zi (λi=>nQ (th i)+kL (th i)) (λi=>jG (th i)),zi (λi=>nQ (th i)) (λi=>kL (th i))]at h1;cases hs:x.s with
 |false=>have:=h.norm hs;omega
 |true=>have:=h.BU hs;omega
def Qi{x y:Wd}{T:Lk}(h:Yh n x T)(hc:∀cl,T=.add cl->x.c<=y.c):Yh n y T:=by
 cases T<;>first|exact h|skip
 case add cl=>intro e;have:=h e;have:=hc cl rfl;omega
def ou(H Aw Tk Hd Wk Ad Q Un:Nat)(x:Wd)(v:Nat):Prop:=
 H=b1 x.l/\(x.s=E->Hd=0/\Ad=0/\Aw+Tk+v+Wk=b1 x.w/\x.c+Tk+v=Q)/\
 (x.s=Z6->x.w=E/\Aw=0/\Tk=0/\H+Hd+v+Wk+Ad=1/\x.c=Q+Wk+Ad/\1<=x.c)/\(x.s=E->x.l=E->x.w=E->x.c≠0->0<Un)
def BV(n:Nat)(th:Nat->Lk)(x:Wd)(v:Nat):Prop:=
 ou (sm (λi=>nH (th i)) n) (sm (λi=>lZ (th i)) n) (sm (λi=>mN (th i)) n) (sm (λi=>mU (th i)) n) (sm (λi=>kL (th i)) n) (sm (λi=>jG (th i)) n) (sm (λi=>nQ (th i)) n) (sm (λi=>nj (th i)) n) x v
def kB.num{th:Nat->Lk}{x:Wd}{v:Nat}(h:kB n th x v):BV n th x v:=⟨h.lk,h.norm,h.BU,h.agr⟩
def KP{th:Nat->Lk}{x:Wd}{v:Nat}(h:BV n th x v)(ok:∀i,i<n->Yh n x (th i)):kB n th x v:=⟨h.1,h.2.1,h.2.2.1,h.2.2.2,ok⟩
def Fp{th:Nat->Lk}{x y:Wd}{v:Nat}(h:kB n th x v)(hi:i<n)(T':Lk)
 (ags:∀H Aw Tk Hd Wk Ad Q Un,ou H Aw Tk Hd Wk Ad Q Un x v->nH (th i)<=H->lZ (th i)<=Aw->mN (th i)<=Tk->mU (th i)<=Hd->kL (th i)<=Wk->jG (th i)<=Ad->nQ (th i)<=Q->nj (th i)<=Un->
   ou (H-nH (th i)+nH T') (Aw-lZ (th i)+lZ T') (Tk-mN (th i)+mN T') (Hd-mU (th i)+mU T') (Wk-kL (th i)+kL T') (Ad-jG (th i)+jG T') (Q-nQ (th i)+nQ T') (Un-nj (th i)+nj T') y u)
 (hok:Yh n y T') (yI:x.c<=y.c\/∀j,j<n->j≠i->jG (th j)=0):kB n (aR th i T') y u:=by
 refine KP ?_ (λj hj=>?_)
 ·have e:∀φ:Lk->Nat,sm (λj=>φ (aR th i T' j)) n=sm (λj=>φ (th j)) n-φ (th i)+φ T':=λφ=>by have h1:=mL φ th T' hi;have h2:=eF (f:=λj=>φ (th j)) hi;omega
  unfold BV;rw[e nH,e lZ,e mN,e mU,e kL,e jG,e nQ,e nj];exact ags _ _ _ _ _ _ _ _ h.num (eF (f:=λj=>nH (th j)) hi) (eF (f:=λj=>lZ (th j)) hi) (eF (f:=λj=>mN (th j)) hi) (eF (f:=λj=>mU (th j)) hi) (eF (f:=λj=>kL (th j)) hi) (eF (f:=λj=>jG (th j)) hi) (eF (f:=λj=>nQ (th j)) hi) (eF (f:=λj=>nj (th j)) hi)
 ·by_cases e:j=i
  ·subst e;rw[aV];exact hok
  ·rw[bE _ _ e];refine Qi (h.ok j hj) (λcl qO=>?_);rcases yI with h1|h1
   ·exact h1
   ·have:=h1 j hj e;rw[qO]at this;simp[jG]at this
def KQ{th:Nat->Lk}(hi:i<n)(T':Lk)(u:Nat):msA n (aR th i T') u+nX (th i)=sm (λj=>nX (th j)) n+nX T'+3*u:=by have:=mL nX th T' hi;unfold msA;omega
def Uk{th:Nat->Lk}(hi:i<n)(T':Lk)(x:Wd):Qh n (aR th i T') x+Ez x (th i)=Qh n th x+Ez x T':=mL (Ez x) th T' hi
def Qj(n:Nat)(th:Nat->Lk)(x:Wd)(v i:Nat)(r:Lk×Wd×Nat):Prop:=
 r.1≠.bad/\kB n (aR th i r.1) r.2.1 r.2.2/\(msA n (aR th i r.1) r.2.2<msA n th v\/(r.2.1=x/\r.2.2=v/\msA n (aR th i r.1) r.2.2=msA n th v/\Qh n (aR th i r.1) x<Qh n th x))
def Qk(old:Wd)(aw sv:Bool)(it:Nat)(ws:Bool):nH (mI old aw sv it ws)=0/\lZ (mI old aw sv it ws)=b1 aw/\mN (mI old aw sv it ws)=0/\mU (mI old aw sv it ws)=0/\kL (mI old aw sv it ws)=0/\jG (mI old aw sv it ws)=0/\nQ (mI old aw sv it ws)=0/\nj (mI old aw sv it ws)=0:=by unfold mI;split<;>simp[nH,lZ,mN,mU,kL,jG,nQ,nj]
def V4{x:Wd}{aw:Bool}(h1:sv=Z6->aw=Z6)(h2:it<=4)(h3:x.c<=n)(h4:aw=Z6->x.w=Z6/\x.s=E):Yh n x (mI x aw sv it ws):=by
 unfold mI;split
 ·rename_i h;exact⟨h.1,h.2,λe=>(h4 e).1,h1,h2,h3⟩
 ·exact⟨h4,h1,h2,h3⟩
def Ql(old:Wd)(aw sv:Bool)(it:Nat)(ws:Bool):mI old aw sv it ws≠.bad:=by unfold mI;split<;>simp
def ab6(old:Wd)(aw sv:Bool)(it:Nat)(ws:Bool):nX (mI old aw sv it ws)=if aw then 7 else 8:=by unfold mI;split<;>simp[nX]
def agt(x:Wd)(aw sv:Bool)(it:Nat)(ws:Bool):Ez x (mI x aw sv it ws)<=10*(5-it)+3:=by unfold mI;split<;>simp[Ez]
def kB.aw{th:Nat->Lk}{x:Wd}{v:Nat}(h:kB n th x v)(hi:i<n)(ha:0<lZ (th i)):x.w=Z6/\x.s=E:=by
 have h1:=eF (f:=λj=>lZ (th j)) hi;cases hs:x.s with
 |true=>have:=h.BU hs;omega
 |false=>
  have:=h.norm hs;cases hw:x.w with
  |true=>exact⟨rfl,rfl⟩
  |false=>rw[hw]at this;simp[b1]at this;omega
def Qm{th:Nat->Lk}{x:Wd}{v:Nat}(h:kB n th x v)(hi:i<n){r:Lk×Wd×Nat}(hr:r∈iq (th i) x v):Qj n th x v i r:=by
 have hc:=h.cbd;have hok:=h.ok i hi;have VV:=h.aw hi;have hA:=λT' u=>KQ (th:=th) hi T' u;have hB:=λT'=>Uk (th:=th) hi T' x;have hA0:msA n th v=sm (λj=>nX (th j)) n+3*v:=rfl;have hle:=eF (f:=λj=>nX (th j)) hi;have S0:=fun(T':Lk) (y:Wd) (u:Nat)=>Fp (y:=y) (u:=u) h hi T';generalize hT:th i=T at *;cases T with
 |out=>simp[iq]at hr
 |bad=>exact hok.elim
 |vk=>
  simp only[iq]at hr;split at hr
  ·simp only[af7]at hr;subst hr;rename_i hx;subst hx;refine⟨XI,S0 _ _ _ (λH Aw Tk Hd Wk Ad Q Un hn a1 a2 a3 a4 a5 a6 a7 a8=>?_) trivial (.inl (zao _)),.inl ?_⟩
   ·simp[ou,b1,nH,lZ,mN,mU,kL,jG,nQ,nj]at *;omega
   ·have:=hA .hold v;simp[nX]at *;omega
  ·simp only[af7]at hr;subst hr;refine⟨XI,S0 _ _ _ (λH Aw Tk Hd Wk Ad Q Un hn a1 a2 a3 a4 a5 a6 a7 a8=>?_) ⟨XI,I⟩ (.inl (zao _)),.inl ?_⟩
   ·simpa[nH,lZ,mN,mU,kL,jG,nQ,nj,b1]using hn
   ·have:=hA (.rd E E 0 E) v;simp[nX]at *;omega
 |rd aw sv it ws=>
  simp only[iq,af7]at hr;subst hr;obtain⟨k1,k2,k3,k4,k5,k6,k7,k8⟩:=Qk x aw sv it ws;refine⟨Ql _ _ _ _ _,S0 _ _ _ (λH Aw Tk Hd Wk Ad Q Un hn a1 a2 a3 a4 a5 a6 a7 a8=>?_) (V4 hok.1 hok.2 hc (λe=>VV (by simp[lZ,b1,e]))) (.inl (zao _)),.inr ⟨rfl,rfl,?_,?_⟩⟩
  ·rw[k1,k2,k3,k4,k5,k6,k7,k8];simp only[nH,lZ,mN,mU,kL,jG,nQ,nj]at *;have:Aw-b1 aw+b1 aw=Aw:=I
   simpa[this]using hn
  ·have:=hA (mI x aw sv it ws) v;rw[ab6]at this;simp[nX]at *;omega
  ·have:=hB (mI x aw sv it ws);have:=agt x aw sv it ws;simp[Ez]at *;omega
 |AU old aw sv it ws=>
  obtain⟨o1,o2,o3,o4,o5,o6⟩:=hok;simp only[iq,ar9]at hr;rcases hr with hr|hr
  ·subst hr;refine⟨XI,S0 _ _ _ (λH Aw Tk Hd Wk Ad Q Un hn a1 a2 a3 a4 a5 a6 a7 a8=>?_) ⟨λe=>⟨o3 e,o2⟩,o4,o5,o6⟩ (.inl (zao _)),.inr ⟨rfl,rfl,?_,?_⟩⟩
   ·simp only[nH,lZ,mN,mU,kL,jG,nQ,nj]at *;have:Aw-b1 aw+b1 aw=Aw:=I
    simpa[this]using hn
   ·have:=hA (.sG old aw sv it ws) v;simp[nX]at *;omega
   ·have:=hB (.sG old aw sv it ws);simp[Ez]at *;omega
  ·split at hr
   ·simp only[af7]at hr;subst hr;rename_i hit;split
    ·rename_i hw;obtain⟨rfl,w2,w3⟩:=hw;refine⟨XI,S0 _ _ _ (λH Aw Tk Hd Wk Ad Q Un hn a1 a2 a3 a4 a5 a6 a7 a8=>?_) ⟨o1,o2,w2,w3,by cases sv<;>simp_all,hit,o6⟩ (.inl (zao _)),.inr ⟨rfl,rfl,?_,?_⟩⟩
     ·simpa[nH,lZ,mN,mU,kL,jG,nQ,nj,b1]using hn
     ·have:=hA (.cw old sv it ws) v;simp[nX]at *;omega
     ·have:=hB (.cw old sv it ws);simp[Ez]at *;omega
    ·refine⟨XI,S0 _ _ _ (λH Aw Tk Hd Wk Ad Q Un hn a1 a2 a3 a4 a5 a6 a7 a8=>?_) ⟨o4,I⟩ (.inl (zao _)),.inr ⟨rfl,rfl,?_,?_⟩⟩
     ·simp only[nH,lZ,mN,mU,kL,jG,nQ,nj]at *;have:Aw-b1 aw+b1 aw=Aw:=I
      simpa[this]using hn
     ·have:=hA (.rd aw sv (it+1) ws) v;simp[nX]at *;omega
     ·have:=hB (.rd aw sv (it+1) ws);simp[Ez]at *;omega
   ·simp at hr
 |cw old sv it ws=>
  obtain⟨o1,o2,o3,o4,o5,o6,o7⟩:=hok;simp only[iq]at hr;split at hr
  ·simp only[af7]at hr;subst hr;rename_i hx;subst hx;refine⟨XI,S0 _ _ _ (λH Aw Tk Hd Wk Ad Q Un hn a1 a2 a3 a4 a5 a6 a7 a8=>?_) ⟨XI,I⟩ (.inl (zao _)),.inl ?_⟩
   ·simp[ou,b1,nH,lZ,mN,mU,kL,jG,nQ,nj,o1,o2,o3]at *;omega
   ·have:=hA (.rd Z6 sv (it+1) ws) v;simp[nX]at *;omega
  ·simp only[af7]at hr;subst hr;refine⟨XI,S0 _ _ _ (λH Aw Tk Hd Wk Ad Q Un hn a1 a2 a3 a4 a5 a6 a7 a8=>?_) ⟨by simp[o5],I⟩ (.inl (zao _)),.inr ⟨rfl,rfl,?_,?_⟩⟩
   ·simpa[nH,lZ,mN,mU,kL,jG,nQ,nj,b1]using hn
   ·have:=hA (.rd E sv (it+1) ws) v;simp[nX]at *;omega
   ·have:=hB (.rd E sv (it+1) ws);simp[Ez]at *;omega
 |sG old aw sv it ws=>
  obtain⟨o1,o2,o3,o4⟩:=hok;simp only[iq]at hr;split at hr
  ·rename_i hb;have:=(o1 hb.1).1;rw[hb.2]at this;cases this
  ·split at hr
   ·rename_i hx;subst hx;split at hr
    ·rename_i hls;simp only[af7]at hr;subst hr;have hq:∀φ:Lk->Nat,(φ=nH\/φ=lZ\/φ=mN\/φ=mU\/φ=kL\/φ=jG\/φ=nj->φ (if ws=Z6 then .iJ sv Z6 else .t1 sv)=0):=by rintro φ (rfl|rfl|rfl|rfl|rfl|rfl|rfl) <;>cases ws<;>rfl
     have V5:nQ (if ws=Z6 then .iJ sv Z6 else .t1 sv)=1:=by cases ws<;>rfl
     have hqA:nX (if ws=Z6 then .iJ sv Z6 else .t1 sv)=6:=by cases ws<;>rfl
     refine⟨by cases ws<;>simp,S0 _ _ _ (λH Aw Tk Hd Wk Ad Q Un hn a1 a2 a3 a4 a5 a6 a7 a8=>?_) (by cases ws<;>trivial) (.inl (by simp[Pp];split<;>omega)),.inl ?_⟩
     ·rw[hq nH XI,hq lZ XI,hq mN XI,hq mU XI,hq kL XI,hq jG XI,hq nj XI,V5];obtain⟨l,w,s,c⟩:=x;cases l<;>cases w<;>cases s<;>cases aw<;>cases sv<;>simp[ou,b1,nH,lZ,mN,mU,kL,jG,nQ,nj,Pp]at*<;>omega
     ·have:=hA (if ws=Z6 then .iJ sv Z6 else .t1 sv) v;rw[hqA]at this;cases aw<;>simp[nX]at*<;>omega
    ·rename_i hls;simp only[af7]at hr;subst hr;refine⟨XI,S0 _ _ _ (λH Aw Tk Hd Wk Ad Q Un hn a1 a2 a3 a4 a5 a6 a7 a8=>?_) trivial (.inl (by simp[Pp];split<;>omega)),.inl ?_⟩
     ·obtain⟨l,w,s,c⟩:=x;cases l<;>cases w<;>cases s<;>cases aw<;>simp[ou,b1,nH,lZ,mN,mU,kL,jG,nQ,nj,Pp]at*<;>omega
     ·have:=hA .hold v;cases aw<;>simp[nX]at*<;>omega
   ·rename_i hx;simp only[af7]at hr;subst hr;refine⟨XI,S0 _ _ _ (λH Aw Tk Hd Wk Ad Q Un hn a1 a2 a3 a4 a5 a6 a7 a8=>?_) ⟨o2,o3⟩ (.inl (zao _)),.inr ⟨rfl,rfl,?_,?_⟩⟩
    ·simp only[nH,lZ,mN,mU,kL,jG,nQ,nj]at *;have:Aw-b1 aw+b1 aw=Aw:=I
     simpa[this]using hn
    ·have:=hA (.rd aw sv it ws) v;simp[nX]at *;omega
    ·have:=hB (.rd aw sv it ws);simp[Ez,hx]at *;omega
 |t1 sv=>
  simp only[iq,ar9,at5,or_false]at hr;have key:∀ws,Qj n th x v i (.iJ sv ws,x,v):=λws=>by
   refine⟨XI,S0 _ _ _ (λH Aw Tk Hd Wk Ad Q Un hn a1 a2 a3 a4 a5 a6 a7 a8=>?_) trivial (.inl (zao _)),.inr ⟨rfl,rfl,?_,?_⟩⟩
   ·simp only[nH,lZ,mN,mU,kL,jG,nQ,nj]at *;have:Q-1+1=Q:=I
    simpa[this]using hn
   ·have:=hA (.iJ sv ws) v;simp[nX]at *;omega
   ·have:=hB (.iJ sv ws);simp[Ez]at *;omega
  rcases hr with rfl|rfl
  ·exact key Z6
  ·exact key E
 |iJ sv ws=>
  simp only[iq]at hr;split at hr
  ·simp at hr
  ·rename_i hv;simp only[af7]at hr;subst hr;have hq:∀φ:Lk->Nat,(φ=nH\/φ=lZ\/φ=mN\/φ=mU\/φ=nQ\/φ=jG\/φ=nj->φ (if sv=Z6 then .wk Z6 ws else .t2 ws)=0):=by rintro φ (rfl|rfl|rfl|rfl|rfl|rfl|rfl) <;>cases sv<;>rfl
   have V5:kL (if sv=Z6 then .wk Z6 ws else .t2 ws)=1:=by cases sv<;>rfl
   have hqA:nX (if sv=Z6 then .wk Z6 ws else .t2 ws)=8:=by cases sv<;>rfl
   refine⟨by cases sv<;>simp,S0 _ _ _ (λH Aw Tk Hd Wk Ad Q Un hn a1 a2 a3 a4 a5 a6 a7 a8=>?_) (by cases sv<;>trivial) (.inl (zao _)),.inl ?_⟩
   ·rw[hq nH XI,hq lZ XI,hq mN XI,hq mU XI,hq nQ XI,hq jG XI,hq nj XI,V5];obtain⟨l,w,s,c⟩:=x;cases l<;>cases w<;>cases s<;>simp[ou,b1,nH,lZ,mN,mU,kL,jG,nQ,nj]at*<;>omega
   ·have:=hA (if sv=Z6 then .wk Z6 ws else .t2 ws) (v-1);rw[hqA]at this;simp[nX]at *;omega
 |t2 ws=>
  simp only[iq,ar9,at5,or_false]at hr;have key:∀sv,Qj n th x v i (.wk sv ws,x,v):=λsv=>by
   refine⟨XI,S0 _ _ _ (λH Aw Tk Hd Wk Ad Q Un hn a1 a2 a3 a4 a5 a6 a7 a8=>?_) trivial (.inl (zao _)),.inr ⟨rfl,rfl,?_,?_⟩⟩
   ·simp only[nH,lZ,mN,mU,kL,jG,nQ,nj]at *;have:Wk-1+1=Wk:=I
    simpa[this]using hn
   ·have:=hA (.wk sv ws) v;simp[nX]at *;omega
   ·have:=hB (.wk sv ws);simp[Ez]at *;omega
  rcases hr with rfl|rfl
  ·exact key E
  ·exact key Z6
 |wk sv ws=>
  have hwk:1<=sm (λj=>kL (th j)) n:=zap (by rw[hT];exact zao 1:1<=kL (th i)) (eF (f:=λj=>kL (th j)) hi);simp only[iq]at hr;split at hr
  ·rename_i hs;obtain⟨g1,g2,g3,g4,g5,g6⟩:=h.BU hs;have hlk:=h.lk;have hl:x.l=E:=by
    cases hl:x.l with
    |false=>rfl
    |true=>rw[hl]at hlk;simp[b1]at hlk;omega
   rw[if_neg (by rw[hl,g1];simp;omega)]at hr;simp only[af7]at hr;subst hr;refine⟨XI,S0 _ _ _ (λH Aw Tk Hd Wk Ad Q Un hn a1 a2 a3 a4 a5 a6 a7 a8=>?_) ?_ (.inl (zao _)),.inl ?_⟩
   ·obtain⟨l,w,s,c⟩:=x;cases l<;>cases w<;>cases s<;>simp[ou,b1,nH,lZ,mN,mU,kL,jG,nQ,nj]at*<;>omega
   ·intro e;simp at e;have:=e.2;show 2<=x.c;omega
   ·have:=hA (.add (!sv || x.c == 1)) v;simp[nX]at *;omega
  ·rename_i hs;simp only[af7]at hr;subst hr;have hs':x.s=E:=by simpa using hs
   obtain⟨g1,g2,g3,g4⟩:=h.norm hs';have hw:x.w=Z6:=by
    cases hw:x.w with
    |true=>rfl
    |false=>rw[hw]at g3;simp[b1]at g3;omega
   obtain⟨k1,k2,k3,k4,k5,k6,k7,k8⟩:=Qk x Z6 sv 0 ws;refine⟨Ql _ _ _ _ _,S0 _ _ _ (λH Aw Tk Hd Wk Ad Q Un hn a1 a2 a3 a4 a5 a6 a7 a8=>?_) (V4 (λ_=>rfl) I hc (λ_=>⟨hw,hs'⟩)) (.inl (zao _)),.inl ?_⟩
   ·rw[k1,k2,k3,k4,k5,k6,k7,k8];obtain⟨l,w,s,c⟩:=x;cases l<;>cases w<;>cases s<;>simp[ou,b1,nH,lZ,mN,mU,kL,jG,nQ,nj]at*<;>omega
   ·have:=hA (mI x Z6 sv 0 ws) v;rw[ab6]at this;simp[nX]at *;omega
 |add cl=>
  have had:1<=sm (λj=>jG (th j)) n:=zap (by rw[hT];exact zao 1:1<=jG (th i)) (eF (f:=λj=>jG (th j)) hi);have hs:x.s=Z6:=by
   cases hs:x.s with
   |true=>rfl
   |false=>have:=(h.norm hs).2.1;omega
  obtain⟨g1,g2,g3,g4,g5,g6⟩:=h.BU hs;have hlk:=h.lk;have hl:x.l=E:=by
   cases hl:x.l with
   |false=>rfl
   |true=>rw[hl]at hlk;simp[b1]at hlk;omega
  simp only[iq]at hr;rw[if_neg (by rw[hl,hs];simp;omega)]at hr;simp only[af7]at hr;subst hr;have dY:∀j,j<n->j≠i->jG (th j)=0:=λj hj hji=>by have e1:=mL jG th .out hi;have e2:=eF (f:=λq=>jG (aR th i .out q)) hj;rw[bE th .out hji]at e2;rw[hT]at e1;have e3:jG (.add cl)=1:=rfl;have e4:jG .out=0:=rfl;omega
  refine⟨XI,S0 _ _ _ (λH Aw Tk Hd Wk Ad Q Un hn a1 a2 a3 a4 a5 a6 a7 a8=>?_) trivial (.inr dY),.inl ?_⟩
  ·obtain⟨l,w,s,c⟩:=x;cases l<;>cases w<;>cases s<;>cases cl<;>simp[ou,b1,nH,lZ,mN,mU,kL,jG,nQ,nj,Yh]at*<;>omega
  ·have:=hA .hold v;simp[nX]at *;omega
 |hold=>
  have hh:1<=sm (λj=>nH (th j)) n:=zap (by rw[hT];exact zao 1:1<=nH (th i)) (eF (f:=λj=>nH (th j)) hi);have hlk:=h.lk;have hl:x.l=Z6:=by
   cases hl:x.l with
   |true=>rfl
   |false=>rw[hl]at hlk;simp[b1]at hlk;omega
  simp only[iq,hl,if_true,af7]at hr;subst hr;refine⟨by simp only[wL];split<;>(try split) <;>simp,S0 _ _ _ (λH Aw Tk Hd Wk Ad Q Un hn a1 a2 a3 a4 a5 a6 a7 a8=>?_) ?_ (.inl (zao _)),.inl ?_⟩
  ·obtain⟨l,w,s,c⟩:=x;by_cases hc0:c=0<;>cases l<;>cases w<;>cases s<;>simp[ou,b1,nH,lZ,mN,mU,kL,jG,nQ,nj,wL,hc0]at*<;>omega
  ·simp only[wL];split
   ·trivial
   ·split
    ·trivial
    ·rename_i h1 h2;simp at h1 h2;exact⟨rfl,h2.2,h1,h2.1,hc⟩
  ·have e:nX (wL {x with l:=E})<=5:=by unfold wL;split<;>(try split) <;>simp[nX]
   have:=hA (wL {x with l:=E}) v;simp[nX]at *;omega
 |G0 old=>
  obtain⟨o1,o2,o3,o4,o5⟩:=hok;simp only[iq]at hr;split at hr
  ·rename_i hx;subst hx;simp only[af7]at hr;subst hr;refine⟨XI,S0 _ _ _ (λH Aw Tk Hd Wk Ad Q Un hn a1 a2 a3 a4 a5 a6 a7 a8=>?_) trivial (.inr (λj hj _=>?_)),.inl ?_⟩
   ·obtain⟨l,w,s,c⟩:=x;cases l<;>cases w<;>cases s<;>simp[ou,b1,nH,lZ,mN,mU,kL,jG,nQ,nj]at*<;>omega
   ·have:=(h.norm o3).2.1;have:=eF (f:=λq=>jG (th q)) hj;omega
   ·have:=hA .tok v;simp[nX]at *;omega
  ·rename_i hx;simp only[af7]at hr;subst hr;refine⟨XI,S0 _ _ _ (λH Aw Tk Hd Wk Ad Q Un hn a1 a2 a3 a4 a5 a6 a7 a8=>?_) trivial (.inl (zao _)),.inr ⟨rfl,rfl,?_,?_⟩⟩
   ·simp only[nH,lZ,mN,mU,kL,jG,nQ,nj]at *;have:Un-1+1=Un:=I
    simpa[this]using hn
   ·have:=hA .KH v;simp[nX]at *;omega
   ·have:=hB .KH;simp[Ez,hx]at *;omega
 |KH=>
  simp only[iq,af7]at hr;subst hr;split
  ·rename_i hx;refine⟨XI,S0 _ _ _ (λH Aw Tk Hd Wk Ad Q Un hn a1 a2 a3 a4 a5 a6 a7 a8=>?_) trivial (.inl (zao _)),.inl ?_⟩
   ·obtain⟨l,w,s,c⟩:=x;cases l<;>cases w<;>cases s<;>simp[ou,b1,nH,lZ,mN,mU,kL,jG,nQ,nj]at*<;>omega
   ·have:=hA .out v;simp[nX]at *;omega
  ·rename_i hx;simp only[not_or,Bool.not_eq_true]at hx;refine⟨XI,S0 _ _ _ (λH Aw Tk Hd Wk Ad Q Un hn a1 a2 a3 a4 a5 a6 a7 a8=>?_) ⟨hx.2.1,hx.2.2.1,hx.2.2.2,hx.1,hc⟩ (.inl (zao _)),.inr ⟨rfl,rfl,?_,?_⟩⟩
   ·simp only[nH,lZ,mN,mU,kL,jG,nQ,nj]at *;have:Un-1+1=Un:=I
    simpa[this]using hn
   ·have:=hA (.G0 x) v;simp[nX]at *;omega
   ·have:=hB (.G0 x);simp[Ez]at *;omega
 |tok=>
  simp only[iq,af7]at hr;subst hr;refine⟨XI,S0 _ _ _ (λH Aw Tk Hd Wk Ad Q Un hn a1 a2 a3 a4 a5 a6 a7 a8=>?_) trivial (.inl (zao _)),.inl ?_⟩
  ·obtain⟨l,w,s,c⟩:=x;cases l<;>cases w<;>cases s<;>simp[ou,b1,nH,lZ,mN,mU,kL,jG,nQ,nj]at*<;>omega
  ·have:=hA .out (v+1);simp[nX]at *;omega
 |hand=>
  simp only[iq,af7]at hr;subst hr;refine⟨XI,S0 _ _ _ (λH Aw Tk Hd Wk Ad Q Un hn a1 a2 a3 a4 a5 a6 a7 a8=>?_) trivial (.inl (zao _)),.inl ?_⟩
  ·obtain⟨l,w,s,c⟩:=x;cases l<;>cases w<;>cases s<;>simp[ou,b1,nH,lZ,mN,mU,kL,jG,nQ,nj]at*<;>omega
  ·have:=hA .out (v+1);simp[nX]at *;omega
def IJ{th:Nat->Lk}(h:∀i,i<n->th i=.out\/th i=.vk):kB n th ⟨E,E,E,0⟩ 0:=by have z:∀φ:Lk->Nat,φ .out=0->φ .vk=0->sm (λi=>φ (th i)) n=0:=λφ h1 h2=>uj (λi hi=>by rcases h i hi with e|e<;>rw[e]<;>assumption);refine KP ?_ (λi hi=>by rcases h i hi with e|e<;>rw[e]<;>trivial);unfold BV;rw[z nH rfl rfl,z lZ rfl rfl,z mN rfl rfl,z mU rfl rfl,z kL rfl rfl,z jG rfl rfl,z nQ rfl rfl,z nj rfl rfl];simp[ou,b1]
def kB.begin{th:Nat->Lk}{x:Wd}{v:Nat}(h:kB n th x v)(hi:i<n)(ho:th i=.out):kB n (aR th i .vk) x v:=
 Fp h hi .vk (λH Aw Tk Hd Wk Ad Q Un hn _ _ _ _ _ _ _ _=>by simpa[ho,nH,lZ,mN,mU,kL,jG,nQ,nj]using hn) trivial (.inl (zao _))
def Ul{T:Lk}{x:Wd}{v:Nat}(h:iq T x v= []):T=.out\/T=.bad\/(v=0/\∃sv ws,T=.iJ sv ws):=by
 cases T with
 |out=>exact .inl rfl
 |bad=>exact .inr (.inl rfl)
 |iJ sv ws=>
  simp only[iq]at h;split at h
  ·exact .inr (.inr ⟨ZD,sv,ws,rfl⟩)
  ·cases h
 |vk=>simp only[iq]at h;split at h<;>cases h
 |rd aw sv it ws=>simp[iq]at h
 |AU old aw sv it ws=>simp[iq]at h
 |cw old sv it ws=>simp only[iq]at h;split at h<;>cases h
 |sG old aw sv it ws=>simp only[iq]at h;split at h<;>(try split at h) <;>(try split at h) <;>cases h
 |t1 sv=>simp[iq]at h
 |t2 ws=>simp[iq]at h
 |wk sv ws=>simp only[iq]at h;split at h<;>(try split at h) <;>cases h
 |add cl=>simp only[iq]at h;split at h<;>cases h
 |hold=>simp only[iq]at h;split at h<;>cases h
 |G0 old=>simp only[iq]at h;split at h<;>cases h
 |KH=>simp[iq]at h
 |tok=>simp[iq]at h
 |hand=>simp[iq]at h
def kB.live{th:Nat->Lk}{x:Wd}{v:Nat}(h:kB n th x v)(hi:i<n)(hne:th i≠.out):∃j,j<n/\iq (th j) x v≠ []:=by
 refine Classical.byContradiction λhno=>?_;have hall:∀j,j<n->th j=.out\/(v=0/\∃sv ws,th j=.iJ sv ws):=λj hj=>by
  have hm:iq (th j) x v= []:=Classical.byContradiction λe=>hno ⟨j,hj,e⟩;rcases Ul hm with e|e|e
  ·exact .inl e
  ·have:=h.ok j hj;rw[e]at this;exact this.elim
  ·exact .inr e
 have hv:v=0:=by
  rcases hall i hi with e|e
  ·exact absurd e hne
  ·exact e.1
 have z:∀φ:Lk->Nat,φ .out=0->(∀sv ws,φ (.iJ sv ws)=0)->sm (λj=>φ (th j)) n=0:=λφ h1 h2=>uj (λj hj=>by
  rcases hall j hj with e|⟨_,sv,ws,e⟩
  ·rw[e];exact h1
  ·rw[e];exact h2 sv ws)
 have hQ:1<=sm (λj=>nQ (th j)) n:=by
  refine zap ?_ (eF (f:=λj=>nQ (th j)) hi);rcases hall i hi with e|⟨_,sv,ws,e⟩
  ·exact absurd e hne
  ·rw[e];exact zao 1
 have h1:=h.num;unfold BV at h1;rw[z nH rfl (λ_ _=>rfl),z lZ rfl (λ_ _=>rfl),z mN rfl (λ_ _=>rfl),z mU rfl (λ_ _=>rfl),z kL rfl (λ_ _=>rfl),z jG rfl (λ_ _=>rfl),z nj rfl (λ_ _=>rfl)]at h1;obtain⟨l,w,s,c⟩:=x;cases l<;>cases w<;>cases s<;>simp[ou,b1]at h1<;>omega
def kB.fin{th:Nat->Lk}{x:Wd}{v:Nat}(h:kB n th x v)(hall:∀j,j<n->th j=.out):x=⟨E,E,E,0⟩/\v=0:=by have z:∀φ:Lk->Nat,φ .out=0->sm (λj=>φ (th j)) n=0:=λφ h1=>uj (λj hj=>by rw[hall j hj];exact h1);have h1:=h.num;unfold BV at h1;rw[z nH rfl,z lZ rfl,z mN rfl,z mU rfl,z kL rfl,z jG rfl,z nQ rfl,z nj rfl]at h1;obtain⟨l,w,s,c⟩:=x;cases l<;>cases w<;>cases s<;>simp[ou,b1]at h1<;>first|omega|(refine⟨?_,I⟩;congr;omega)
def Wd.val(x:Wd):Nat:=b1 x.l+2*b1 x.w+4*b1 x.s+8*x.c
def Wd.val_inj{x y:Wd}(h:x.val=y.val):x=y:=by obtain⟨l,w,s,c⟩:=x;obtain⟨l',w',s',c'⟩:=y;cases l<;>cases w<;>cases s<;>cases l'<;>cases w'<;>cases s'<;>simp[Wd.val,b1]at h⊢<;>omega
inductive Ws where
 |nb|wk|d2|d3|d4|qt
 deriving DecidableEq
inductive Ct where
 |sp (r:Nat)|a1 (r:Nat)|ar (r:Nat)|ae (r:Nat)|go (r:Nat)
 |w1|w2 (vs:Nat)|SM|w3|w4|ke|aq|rt
 deriving DecidableEq
structure Gw where
 v:Nat
 wt:Bool
 sm:Nat
 deriving DecidableEq
def kN:Ws->Nat|.nb=>1|_=>0
def kW:Ws->Nat|.wk=>1|_=>0
def kD:Ws->Nat|.d2=>1|.d3=>1|.d4=>1|_=>0
def k4:Ws->Nat|.d4=>1|_=>0
def Ct.left:Ct->Nat
 |.sp r|.a1 r|.ar r|.ae r|.go r=>r
 |_=>0
def Ct.pend:Ct->Nat
 |.ar _|.ae _|.go _=>1
 |_=>0
def Ct.open:Ct->Bool
 |.sp _|.a1 _|.ar _|.ae _|.go _|.w1|.w2 _=>Z6
 |_=>E
def Ct.waits:Ct->Bool
 |.SM|.w3=>Z6
 |_=>E
def R4(T:Ws)(g:Gw):Option (Ws×Gw):=
 match T with
 |.wk=>if g.v=0 then F else Y (if g.v=1/\g.wt=Z6 then .d2 else .qt,{g with v:=g.v-1})
 |.d2=>if g.v=0/\g.wt=Z6 then Y (.d3,g)else F
 |.d3=>Y (.d4,{g with v:=0,wt:=E})
 |.d4=>Y (.qt,{g with sm:=g.sm+1})
 |_=>F
def pJ(c:Ct)(g:Gw):Option (Ct×Gw):=
 match c with
 |.sp r=>Y (if r=0 then .w1 else .a1 r,g)
 |.a1 r=>Y (if g.v=0 then .ar r else .ae r,{g with v:=g.v+1})
 |.ar r=>Y (.ae r,g)
 |.ae r=>Y (.go r,g)
 |.go _=>F
 |.w1=>Y (if g.v=0 then .ke else .w2 g.v,g)
 |.w2 vs=>Y (if g.v=vs then(.SM,{g with wt:=Z6})else(.w1,g))
 |.SM=>Y (.w3,g)
 |.w3=>if g.sm=0 then F else Y (.w4,{g with sm:=g.sm-1})
 |.w4=>if g.v=0/\g.wt=E then Y (.ke,g)else F
 |.ke=>Y (.aq,g)
 |.aq=>Y (.rt,g)
 |.rt=>F
structure Ar(N W D wv:Nat)(c:Ct)(g:Gw):Prop where
 left:N=c.left
 a1:∀r,c=.a1 r\/c=.ar r\/c=.ae r\/c=.go r->1<=r
 opn:c.open=Z6->g.v=W+c.pend/\g.wt=E/\g.sm=0/\D=0
 w2:∀vs,c=.w2 vs->g.v<=vs/\1<=vs
 wait:c.waits=Z6->(g.v=W/\1<=g.v/\g.wt=Z6/\g.sm=0/\D=0)\/(g.v=0/\W=0/\g.sm=0/\D=1/\g.wt=decide (wv=0))\/(g.v=0/\W=0/\g.wt=E/\g.sm=1/\D=0)
 fin:c.open=E->c.waits=E->g.v=0/\g.wt=E/\g.sm=0/\W=0/\D=0
def fY(n:Nat)(ws:Nat->Ws)(c:Ct)(g:Gw):Prop:=
 Ar (sm (λi=>kN (ws i)) n) (sm (λi=>kW (ws i)) n) (sm (λi=>kD (ws i)) n) (sm (λi=>k4 (ws i)) n) c g
def JW:Ws->Nat|.nb=>7|.wk=>6|.d2=>4|.d3=>3|.d4=>2|.qt=>1
def Cs(n v:Nat):Ct->Nat
 |.sp r=>8*n+20+8*r+5
 |.a1 r=>8*n+20+8*r+4
 |.ar r=>8*n+20+8*r+3
 |.ae r=>8*n+20+8*r+2
 |.go r=>8*n+20+8*r+1
 |.w1=>8*v+7
 |.w2 vs=>8*vs+6
 |.SM=>6
 |.w3=>5
 |.w4=>4
 |.ke=>3
 |.aq=>2
 |.rt=>1
def On(n:Nat)(ws:Nat->Ws)(c:Ct):Nat:=Cs n (sm (λi=>kW (ws i)) n) c+sm (λi=>JW (ws i)) n
def R5(n:Nat)(ws:Nat->Ws):sm (λi=>kW (ws i)) n<=n:=by have:=BS (f:=λi=>kW (ws i)) (c:=1) (λi=>by cases ws i<;>simp[kW]) n;omega
def R6(n:Nat){v v':Nat}(h:v'<=v)(c:Ct):Cs n v' c<=Cs n v c:=by cases c<;>simp only[Cs]<;>omega
def stepW{ws:Nat->Ws}{c:Ct}{g:Gw}(h:fY n ws c g)(hi:i<n){T':Ws}{g':Gw}(hm:R4 (ws i) g=Y (T',g')):fY n (aR ws i T') c g'/\On n (aR ws i T') c<On n ws c:=by
 have e:∀φ:Ws->Nat,sm (λj=>φ (aR ws i T' j)) n=sm (λj=>φ (ws j)) n-φ (ws i)+φ T':=λφ=>by have h1:=mL φ ws T' hi;have h2:=eF (f:=λj=>φ (ws j)) hi;omega
 have l:∀φ:Ws->Nat,φ (ws i)<=sm (λj=>φ (ws j)) n:=λφ=>eF (f:=λj=>φ (ws j)) hi;have lN:=l kN;have lW:=l kW;have lD:=l kD;have l4:=l k4;have lr:=l JW;have h4D:sm (λj=>k4 (ws j)) n<=sm (λj=>kD (ws j)) n:=by
  have:=zi (λj=>k4 (ws j)) (λj=>kD (ws j)-k4 (ws j)) n;have e2:(λj=>k4 (ws j)+(kD (ws j)-k4 (ws j)))=λj=>kD (ws j):=by funext j;cases ws j<;>rfl
  rw[e2]at this;omega
 have key:kW T'<=kW (ws i)->JW T'<JW (ws i)->On n (aR ws i T') c<On n ws c:=λa b=>by unfold On;have:=R6 n (v:=sm (λj=>kW (ws j)) n) (v':=sm (λj=>kW (aR ws i T' j)) n) (by rw[e kW];omega) c;rw[e JW];omega
 unfold fY at h⊢;rw[e kN,e kW,e kD,e k4];clear e l;generalize sm (λj=>kN (ws j)) n=N at *;generalize sm (λj=>kW (ws j)) n=W at *;generalize sm (λj=>kD (ws j)) n=D at *;generalize sm (λj=>k4 (ws j)) n=wv at *;generalize sm (λj=>JW (ws j)) n=R at *;obtain⟨h1,ha,h2,h3,h4,h5⟩:=h;obtain⟨v,wt,s⟩:=g;simp only at h2 h3 h4 h5;generalize hT:ws i=T at *;cases T with
 |nb=>simp[R4]at hm
 |qt=>simp[R4]at hm
 |wk=>
  simp only[R4]at hm;split at hm
  ·cases hm
  rename_i hv;simp only[ac6,ai7]at hm;obtain⟨ZZ,rfl⟩:=hm;refine⟨?_,key (by rw[<-ZZ];split<;>simp[kW]) (by rw[<-ZZ];split<;>simp[JW])⟩;clear key;by_cases hb:v=1/\wt=Z6
  ·rw[if_pos hb]at ZZ;obtain⟨rfl,rfl⟩:=hb;subst ZZ;simp only[kN,kW,kD,k4]at *;refine⟨I,ha,λho=>?_,λvs hvs=>?_,λhw=>?_,λho hw=>?_⟩
   ·have:=h2 ho;simp at this
   ·have:=h3 vs hvs;simp;omega
   ·rcases h4 hw with q|q|q
    ·right;left;simp;omega
    ·omega
    ·simp at q
   ·have:=h5 ho hw;omega
  ·rw[if_neg hb]at ZZ;subst ZZ;simp only[kN,kW,kD,k4]at *;refine⟨I,ha,λho=>?_,λvs hvs=>?_,λhw=>?_,λho hw=>?_⟩
   ·have:=h2 ho;exact⟨by simp;omega,this.2.1,this.2.2.1,I⟩
   ·have:=h3 vs hvs;simp;omega
   ·rcases h4 hw with q|q|q
    ·obtain⟨q1,q2,q3,q4,q5⟩:=q;subst q3;left;exact⟨by simp;omega,by simp at hb⊢;omega,rfl,q4,I⟩
    ·omega
    ·omega
   ·have:=h5 ho hw;omega
 |d2=>
  simp only[R4]at hm;split at hm
  ·simp only[ac6,ai7]at hm;obtain⟨rfl,rfl⟩:=hm;refine⟨?_,key (by simp[kW]) (by simp[JW])⟩;simp only[kN,kW,kD,k4]at *;have e1:N-0+0=N:=I
   have e2:W-0+0=W:=I
   have e3:D-1+1=D:=I
   have e4:wv-0+0=wv:=I
   rw[e1,e2,e3,e4];exact⟨h1,ha,h2,h3,h4,h5⟩
  ·cases hm
 |d3=>
  simp only[R4,ac6,ai7]at hm;obtain⟨rfl,rfl⟩:=hm;refine⟨?_,key (by simp[kW]) (by simp[JW])⟩;clear key;simp only[kN,kW,kD,k4]at *;refine⟨I,ha,λho=>?_,λvs hvs=>?_,λhw=>?_,λho hw=>?_⟩
  ·have:=h2 ho;omega
  ·have:=h3 vs hvs;simp;omega
  ·rcases h4 hw with q|q|q
   ·omega
   ·right;left;simp;omega
   ·omega
  ·have:=h5 ho hw;omega
 |d4=>
  simp only[R4,ac6,ai7]at hm;obtain⟨rfl,rfl⟩:=hm;refine⟨?_,key (by simp[kW]) (by simp[JW])⟩;clear key;simp only[kN,kW,kD,k4]at *;refine⟨I,ha,λho=>?_,λvs hvs=>?_,λhw=>?_,λho hw=>?_⟩
  ·have:=h2 ho;omega
  ·have:=h3 vs hvs;exact this
  ·rcases h4 hw with q|q|q
   ·omega
   ·obtain⟨q1,q2,q3,q4,q5⟩:=q;have:¬wv=0:=I
    simp[this]at q5;right;right;simp[q5];omega
   ·omega
  ·have:=h5 ho hw;omega
def ada{ws:Nat->Ws}{c c':Ct}{g g':Gw}(h:fY n ws c g)(hm:pJ c g=Y (c',g')):fY n ws c' g'/\On n ws c'<On n ws c:=by
 have hW:=R5 n ws;unfold fY at h⊢;unfold On;generalize sm (λj=>kN (ws j)) n=N at *;generalize sm (λj=>kW (ws j)) n=W at *;generalize sm (λj=>kD (ws j)) n=D at *;generalize sm (λj=>k4 (ws j)) n=wv at *;generalize sm (λj=>JW (ws j)) n=R at *;obtain⟨h1,ha,h2,h3,h4,h5⟩:=h;obtain⟨v,wt,s⟩:=g;simp only at h2 h3 h4 h5;cases c with
 |sp r=>
  obtain⟨q1,q2,q3,q4⟩:=h2 rfl;simp only[pJ,ac6,ai7]at hm;obtain⟨rfl,rfl⟩:=hm;by_cases hr:r=0
  ·subst hr;simp only[if_true];exact⟨⟨h1,XI,λ_=>⟨q1,q2,q3,q4⟩,XI,by simp[Ct.waits],by simp[Ct.open]⟩,by simp only[Cs];omega⟩
  ·simp only[hr,if_false];exact⟨⟨h1,λr' h=>by simp at h;omega,λ_=>⟨q1,q2,q3,q4⟩,XI,by simp[Ct.waits],by simp[Ct.open]⟩,by simp only[Cs];omega⟩
 |a1 r=>
  obtain⟨q1,q2,q3,q4⟩:=h2 rfl;have hr:=ha r (.inl rfl);simp only[pJ,ac6,ai7]at hm;obtain⟨rfl,rfl⟩:=hm;simp only[Ct.pend,au3]at q1;by_cases hv:v=0
  ·simp only[hv,if_true];exact⟨⟨h1,λr' h=>by simp at h;omega,λ_=>⟨by simp[Ct.pend];omega,q2,q3,q4⟩,XI,by simp[Ct.waits],by simp[Ct.open]⟩,by simp only[Cs];omega⟩
  ·simp only[hv,if_false];exact⟨⟨h1,λr' h=>by simp at h;omega,λ_=>⟨by simp[Ct.pend];omega,q2,q3,q4⟩,XI,by simp[Ct.waits],by simp[Ct.open]⟩,by simp only[Cs];omega⟩
 |ar r=>
  have hr:=ha r (.inr (.inl rfl));simp only[pJ,ac6,ai7]at hm;obtain⟨rfl,rfl⟩:=hm;exact⟨⟨h1,λr' h=>by simp at h;omega,λ_=>h2 rfl,XI,by simp[Ct.waits],by simp[Ct.open]⟩,by simp only[Cs];omega⟩
 |ae r=>
  have hr:=ha r (.inr (.inr (.inl rfl)));simp only[pJ,ac6,ai7]at hm;obtain⟨rfl,rfl⟩:=hm;exact⟨⟨h1,λr' h=>by simp at h;omega,λ_=>h2 rfl,XI,by simp[Ct.waits],by simp[Ct.open]⟩,by simp only[Cs];omega⟩
 |go r=>simp[pJ]at hm
 |w1=>
  obtain⟨q1,q2,q3,q4⟩:=h2 rfl;simp only[pJ,ac6,ai7]at hm;obtain⟨rfl,rfl⟩:=hm;simp only[Ct.pend,au3]at q1;by_cases hv:v=0
  ·simp only[hv,if_true];exact⟨⟨h1,XI,by simp[Ct.open],XI,by simp[Ct.waits],λ_ _=>⟨rfl,q2,q3,I,q4⟩⟩,by simp only[Cs];omega⟩
  ·simp only[hv,if_false];exact⟨⟨h1,XI,λ_=>⟨q1,q2,q3,q4⟩,λvs h=>by simp at h;subst h;simp;omega,by simp[Ct.waits],by simp[Ct.open]⟩,by simp only[Cs];omega⟩
 |w2 vs=>
  obtain⟨q1,q2,q3,q4⟩:=h2 rfl;obtain⟨q5,q6⟩:=h3 vs rfl;simp only[pJ,ac6]at hm;simp only[Ct.pend,au3]at q1;by_cases hv:v=vs
  ·simp only[hv,if_true,ai7]at hm;obtain⟨rfl,rfl⟩:=hm;exact⟨⟨h1,XI,by simp[Ct.open],XI,λ_=>.inl ⟨by simp;omega,by simp;omega,rfl,q3,q4⟩,by simp[Ct.open,Ct.waits]⟩,by simp only[Cs];omega⟩
  ·simp only[hv,if_false,ai7]at hm;obtain⟨rfl,rfl⟩:=hm;exact⟨⟨h1,XI,λ_=>⟨q1,q2,q3,q4⟩,XI,by simp[Ct.waits],by simp[Ct.open]⟩,by simp only[Cs];omega⟩
 |SM=>
  simp only[pJ,ac6,ai7]at hm;obtain⟨rfl,rfl⟩:=hm;exact⟨⟨h1,XI,by simp[Ct.open],XI,λ_=>h4 rfl,by simp[Ct.open,Ct.waits]⟩,by simp only[Cs];omega⟩
 |w3=>
  simp only[pJ]at hm;split at hm
  ·cases hm
  rename_i hs;simp only[ac6,ai7]at hm;obtain⟨rfl,rfl⟩:=hm;rcases h4 rfl with q|q|q
  ·omega
  ·omega
  ·obtain⟨p1,p2,p3,p4,p5⟩:=q;exact⟨⟨h1,XI,by simp[Ct.open],XI,by simp[Ct.waits],λ_ _=>⟨p1,p3,by simp;omega,p2,p5⟩⟩,by simp only[Cs];omega⟩
 |w4=>
  simp only[pJ]at hm;split at hm
  ·simp only[ac6,ai7]at hm;obtain⟨rfl,rfl⟩:=hm;exact⟨⟨h1,XI,by simp[Ct.open],XI,by simp[Ct.waits],λ_ _=>h5 rfl rfl⟩,by simp only[Cs];omega⟩
  ·cases hm
 |ke=>
  simp only[pJ,ac6,ai7]at hm;obtain⟨rfl,rfl⟩:=hm;exact⟨⟨h1,XI,by simp[Ct.open],XI,by simp[Ct.waits],λ_ _=>h5 rfl rfl⟩,by simp only[Cs];omega⟩
 |aq=>
  simp only[pJ,ac6,ai7]at hm;obtain⟨rfl,rfl⟩:=hm;exact⟨⟨h1,XI,by simp[Ct.open],XI,by simp[Ct.waits],λ_ _=>h5 rfl rfl⟩,by simp only[Cs];omega⟩
 |rt=>simp[pJ]at hm
def Y7{ws:Nat->Ws}{g:Gw}(h:fY n ws (.go (r+1)) g)(hi:i<n)(hb:ws i=.nb):fY n (aR ws i .wk) (.sp r) g/\On n (aR ws i .wk) (.sp r)<On n ws (.go (r+1)):=by
 have e:∀φ:Ws->Nat,sm (λj=>φ (aR ws i .wk j)) n=sm (λj=>φ (ws j)) n-φ .nb+φ .wk:=λφ=>by have h1:=mL φ ws .wk hi;have h2:=eF (f:=λj=>φ (ws j)) hi;rw[hb]at h1 h2;omega
 have l:∀φ:Ws->Nat,φ .nb<=sm (λj=>φ (ws j)) n:=λφ=>by have:=eF (f:=λj=>φ (ws j)) hi;rw[hb]at this;exact this
 have lN:=l kN;have lr:=l JW;unfold fY at h⊢;unfold On;rw[e kN,e kW,e kD,e k4,e JW];clear e l;generalize sm (λj=>kN (ws j)) n=N at *;generalize sm (λj=>kW (ws j)) n=W at *;generalize sm (λj=>kD (ws j)) n=D at *;generalize sm (λj=>k4 (ws j)) n=wv at *;generalize sm (λj=>JW (ws j)) n=R at *;obtain⟨h1,ha,h2,h3,h4,h5⟩:=h;obtain⟨q1,q2,q3,q4⟩:=h2 rfl;simp only[Ct.left,Ct.pend]at h1 q1;simp only[kN,kW,kD,k4,JW]at *;exact⟨⟨by simp only[Ct.left];omega,XI,λ_=>⟨by simp only[Ct.pend];omega,q2,q3,I⟩,XI,by simp[Ct.waits],by simp[Ct.open]⟩,by simp only[Cs];omega⟩
def JX(n:Nat){ws:Nat->Ws}(h:∀i,i<n->ws i=.nb):fY n ws (.sp n) ⟨0,E,0⟩:=by
 have z:∀φ:Ws->Nat,φ .nb=0->sm (λi=>φ (ws i)) n=0:=λφ h1=>uj λi hi=>by rw[h i hi];exact h1
 have zN:∀m,m<=n->sm (λi=>kN (ws i)) m=m:=by
  intro m;induction m with
  |zero=>intro _;rfl
  |succ m ih=>intro hm;simp only[sm];rw[ih I,h m I];rfl
 unfold fY;rw[zN n (zao _),z kW rfl,z kD rfl,z k4 rfl];exact⟨rfl,XI,λ_=>⟨rfl,rfl,rfl,rfl⟩,XI,by simp[Ct.waits],by simp[Ct.open]⟩
def fY.live{ws:Nat->Ws}{g:Gw}(h:fY n ws .w3 g)(hs:g.sm=0):∃i,i<n/\(ws i=.wk\/ws i=.d2\/ws i=.d3\/ws i=.d4):=by
 have:0<sm (λi=>kW (ws i)) n\/0<sm (λi=>kD (ws i)) n:=by
  rcases Ar.wait h rfl with q|q|q
  ·exact .inl I
  ·exact .inr I
  ·omega
 rcases this with h|h
 ·obtain⟨i,hi,hp⟩:=II h;refine⟨i,hi,.inl ?_⟩;revert hp;cases ws i<;>simp[kW]
 ·obtain⟨i,hi,hp⟩:=II h;refine⟨i,hi,.inr ?_⟩;revert hp;cases ws i<;>simp[kD]
section
open Go Go.Conc
inductive Tp where
 |lk (T:Lk) (m:Nat)
 |mn (c:Ct)
structure aL where
 own:Nat->Prop
 pos:Tp
 fu:Nat
abbrev eK:=(O:aL)->Exit->Act->World->Prop
abbrev vn:=(O:aL)->World->World->Prop
abbrev vo:=(O:aL)->World->World->Array Event->Prop
abbrev yE:=(O:aL)->Goroutine->World->Prop
def aL.grow(O:aL)(w w':af):aL:=⟨λi=>O.own i\/(w.heap.size<=i/\i<w'.heap.size),O.pos,O.fu⟩
def aL.jump(O:aL)(own:Nat->Prop)(p:Tp):aL:=⟨own,p,O.fu-1⟩
def aL.dG(O:aL){w w':af}(h:w'.heap.size=w.heap.size):O.grow w w'=O:=by obtain⟨own,p,k⟩:=O;simp only[aL.grow,h,aL.mk.injEq,and_true];funext i;simp only[eq_iff_iff];exact⟨λx=>x.elim id (λy=>I),.inl⟩
structure Jm where
 to:aL->au->af->((Nat->Prop)->Tp->au->af->Prop)->Prop
 mono:∀{O:aL} {g:au} {w:af} {K K':(Nat->Prop)->Tp->au->af->Prop},(∀own p g w,K own p g w->K' own p g w)->to O g w K->to O g w K'
def R7(P:aB)(main:Bool)(R:vn)(D:vo)(B:yE):Nat->yE
 | 0,O,g,w=>B O g w
 |n+1,O,g,w=>B O g w\/(g.status=.running/\∀w₁,R O w w₁->(stepG P main g w₁).goes λg' w' es=>D O w₁ w' es/\R7 P main R D B n (O.grow w₁ w') g' w')
def Z0(P:aB)(main:Bool)(J:Jm)(R:vn)(D:vo)(Stop:yE):Nat->Nat->yE
 | 0,_,_,_,_=>True
 |k+1,n,O,g,w=>R7 P main R D (λO g w=>(∀w₁,R O w w₁->Stop O g w₁)\/(g.status=.running/\∀w₁,R O w w₁->J.to O g w₁ λown p g' w'=>∃n',Z0 P main J R D Stop k n' ⟨own,p,k⟩ g' w')) n O g w
def cN(P:aB)(main:Bool)(J:Jm)(R:vn)(D:vo)(Stop:yE)(n:Nat)(O:aL)(g:au)(w:af):Prop:=Z0 P main J R D Stop O.fu n O g w
def Y8(P:aB)(main:Bool)(J:Jm)(R:vn)(D:vo)(Stop:yE)(O:aL)(g:au)(w:af):Prop:=
 (∀w₁,R O w w₁->Stop O g w₁)\/(g.status=.running/\∀w₁,R O w w₁->J.to O g w₁ λown p g' w'=>∃n',cN P main J R D Stop n' (O.jump own p) g' w')
structure cy(R:vn)(D:vo):Prop where
 refl:∀O w,R O w w
 trans:∀O a b c,R O a b->R O b c->R O a c
 idle:∀O w,D O w w #[]
def GStep.goes_mono{s:GStep}{K K':au->af->Array aC->Prop}(h:s.goes K)(hk:∀g w es,K g w es->K' g w es):s.goes K':=by
 cases s<;>first|exact hk _ _ _ h|exact h
section
variable {P:aB}{main:Bool}{J:Jm}{R:vn}{D:vo}{Stop:yE}{n m:Nat}{O:aL}{g:au}{w:af}
def R7.imp{B B':yE}(hb:∀(O':aL) g w,O'.fu=O.fu->B O' g w->B' O' g w)(h:R7 P main R D B n O g w):R7 P main R D B' n O g w:=by
 induction n generalizing O g w with
 |zero=>exact hb O g w rfl h
 |succ n ih=>
  rcases h with h|⟨hs,h⟩
  ·exact .inl (hb O g w rfl h)
  ·exact .inr ⟨hs,λw₁ h₁=>GStep.goes_mono (h w₁ h₁) λ_ _ _ x=>⟨x.1,ih (λO' g w e b=>hb O' g w e b) x.2⟩⟩
def jE:cN P main J R D Stop n O g w↔(O.fu=0\/R7 P main R D (Y8 P main J R D Stop) n O g w):=by
 unfold cN;cases hk:O.fu with
 |zero=>simp[Z0]
 |succ k=>
  simp only[Z0,Nat.succ_ne_zero,false_or];constructor
  ·refine R7.imp λO' g w e h=>?_;have e':O'.fu=k+1:=e.trans hk;rcases h with h|⟨hs,h⟩
   ·exact .inl h
   ·refine .inr ⟨hs,λw₁ h₁=>J.mono (λown p g w x=>?_) (h w₁ h₁)⟩;obtain⟨n',x⟩:=x;refine⟨n',?_⟩;simpa[cN,aL.jump,e']using x
  ·refine R7.imp λO' g w e h=>?_;have e':O'.fu=k+1:=e.trans hk;rcases h with h|⟨hs,h⟩
   ·exact .inl h
   ·refine .inr ⟨hs,λw₁ h₁=>J.mono (λown p g w x=>?_) (h w₁ h₁)⟩;obtain⟨n',x⟩:=x;refine⟨n',?_⟩;simpa[cN,aL.jump,e']using x
def cN.stop(h:∀w₁,R O w w₁->Stop O g w₁):cN P main J R D Stop n O g w:=by
 refine jE.2 (.inr ?_);cases n with
 |zero=>exact .inl h
 |succ n=>exact .inl (.inl h)
def cN.jump(hs:g.status=.running)(h:∀w₁,R O w w₁->J.to O g w₁ λown p g' w'=>∃n',cN P main J R D Stop n' (O.jump own p) g' w'):cN P main J R D Stop n O g w:=by
 refine jE.2 (.inr ?_);cases n with
 |zero=>exact .inr ⟨hs,h⟩
 |succ n=>exact .inl (.inr ⟨hs,h⟩)
def cN.step(hs:g.status=.running)(h:∀w₁,R O w w₁->(stepG P main g w₁).goes λg' w' es=>D O w₁ w' es/\cN P main J R D Stop n (O.grow w₁ w') g' w'):cN P main J R D Stop (n+1) O g w:=by
 refine jE.2 ?_;cases hk:O.fu with
 |zero=>exact .inl rfl
 |succ k=>exact .inr (.inr ⟨hs,λw₁ h₁=>GStep.goes_mono (h w₁ h₁) λg' w' es x=>⟨x.1,(jE.1 x.2).resolve_left (by simp[aL.grow,hk])⟩⟩)
def cN.spent(h:O.fu=0):cN P main J R D Stop n O g w:=jE.2 (.inl h)
def cN.ways(h:cN P main J R D Stop n O g w)(hk:O.fu≠0):Y8 P main J R D Stop O g w\/(∃m,n=m+1/\g.status=.running/\∀w₁,R O w w₁->(stepG P main g w₁).goes λg' w' es=>D O w₁ w' es/\cN P main J R D Stop m (O.grow w₁ w') g' w'):=by
 have h:=(jE.1 h).resolve_left hk;cases n with
 |zero=>exact .inl h
 |succ n=>
  rcases h with h|⟨hs,h⟩
  ·exact .inl h
  ·exact .inr ⟨n,rfl,hs,λw₁ h₁=>GStep.goes_mono (h w₁ h₁) λ_ _ _ x=>⟨x.1,jE.2 (.inr x.2)⟩⟩
def Y8.rely(T:cy R D)(h:Y8 P main J R D Stop O g w)(hr:R O w w₁):Y8 P main J R D Stop O g w₁:=
 h.imp (λh w₂ h₂=>h w₂ (T.trans _ _ _ _ hr h₂)) (λh=>⟨h.1,λw₂ h₂=>h.2 w₂ (T.trans _ _ _ _ hr h₂)⟩)
def cN.rely(T:cy R D){w₁:af}(h:cN P main J R D Stop n O g w)(hr:R O w w₁):cN P main J R D Stop n O g w₁:=by
 by_cases hk:O.fu=0
 ·exact cN.spent hk
 refine jE.2 (.inr ?_);have h:=(jE.1 h).resolve_left hk;cases n with
 |zero=>exact Y8.rely T h hr
 |succ n=>
  rcases h with h|⟨hs,h⟩
  ·exact .inl (Y8.rely T h hr)
  ·exact .inr ⟨hs,λw₂ h₂=>h w₂ (T.trans _ _ _ _ hr h₂)⟩
def cN.more(h:cN P main J R D Stop n O g w):cN P main J R D Stop (n+1) O g w:=by
 have key:∀{n:Nat} {O:aL} {g:au} {w:af} {B:yE},R7 P main R D B n O g w->R7 P main R D B (n+1) O g w:=by
  intro n;induction n with
  |zero=>exact λh=>.inl h
  |succ n ih=>
   intro O g w B h;rcases h with h|⟨hs,h⟩
   ·exact .inl h
   ·exact .inr ⟨hs,λw₁ h₁=>GStep.goes_mono (h w₁ h₁) λ_ _ _ x=>⟨x.1,ih x.2⟩⟩
 exact jE.2 ((jE.1 h).imp id key)
def cN.mono(h:cN P main J R D Stop n O g w)(hn:n<=n'):cN P main J R D Stop n' O g w:=by
 induction hn with
 |refl=>exact h
 |step _ ih=>exact ih.more
def cN.quiet(T:cy R D){g':au}(hs:g.status=.running)(h:∀w₁,stepG P main g w₁=.go g' w₁)(hg:cN P main J R D Stop n O g' w):cN P main J R D Stop (n+1) O g w:=
 cN.step hs λw₁ h₁=>by rw[h];exact⟨T.idle _ _,by rw[O.dG rfl];exact hg.rely T h₁⟩
end
def qE(P:aB)(main:Bool)(J:Jm)(R:vn)(D:vo)(Stop:yE)(m:Nat)(b:ak)(k:List Item)(cs:List ak):eK
 |O,.normal,a,w=>cN P main J R D Stop m O (G (b.at a k) cs) w
 |O,.exit id,a,w=>∃k',exitTo id k=Y k'/\cN P main J R D Stop m O (G (b.at a k') cs) w
 |O,.ret,a,w=>∀todo,cN P main J R D Stop m O (G {b.at a todo with mode:=.returning} cs) w
 |_,_,_,_=>False
section
variable {P:aB}{main:Bool}{J:Jm}{R:vn}{D:vo}{Stop:yE}{n m m':Nat}{O:aL}{w:af}{b:ak}{k:List Item}{cs:List ak}{e:Exit}{a:Act}
def qE.mono(h:qE P main J R D Stop m b k cs O e a w)(hm:m<=m'):qE P main J R D Stop m' b k cs O e a w:=by
 cases e with
 |normal=>exact cN.mono h hm
 |exit id=>obtain⟨k',hk,hg⟩:=h;exact⟨k',hk,hg.mono hm⟩
 |ret=>exact λtodo=>(h todo).mono hm
 |goto l=>exact h
 |panic ch=>exact h
 |outgrown=>exact h
def qE.push{x:Item}(hx:x.plain=Z6)(he:e≠.normal)(h:qE P main J R D Stop m b k cs O e a w):qE P main J R D Stop m b (x :: k) cs O e a w:=by
 cases e with
 |normal=>exact absurd rfl he
 |exit id=>obtain⟨k',hk,hg⟩:=h;exact⟨k',by cases x<;>simp_all [exitTo,Item.plain],hg⟩
 |ret=>exact h
 |goto l=>exact h
 |panic ch=>exact h
 |outgrown=>exact h
end
def cZ(P:aB)(main:Bool)(J:Jm)(R:vn)(D:vo)(fn:ay)(c:Code)(n:Nat)(Q:eK)(O:aL)(a:Act)(w:af):Prop:=
 ∀(b:ak) (k:List Item) (cs:List ak) (Stop:yE) (m:Nat->Nat),b.fn=fn->b.kind≠.early->
  (∀O' e a' w',Q O' e a' w'->qE P main J R D Stop (m O'.fu) b k cs O' e a' w')->cN P main J R D Stop (m O.fu+n) O (G (b.at a (.code c :: k)) cs) w
def bQ(P:aB)(main:Bool)(J:Jm)(R:vn)(D:vo)(fn:ay)(ops:Array Oper)(todo:List Nat)(n:Nat)(Q:eK)(O:aL)(a:Act)(w:af):Prop:=
 ∀(b:ak) (k:List Item) (cs:List ak) (Stop:yE) (m:Nat->Nat),b.fn=fn->b.kind≠.early->
  (∀O' e a' w',Q O' e a' w'->qE P main J R D Stop (m O'.fu) b k cs O' e a' w')->cN P main J R D Stop (m O.fu+n) O (G (b.at a (.inRegion ops todo :: k)) cs) w
abbrev bn(next:aL->Act->World->Prop)(Q:eK):eK:=λO=>Exit.then (next O) (Q O)
abbrev ju(id:Nat)(Q:eK):eK:=λO=>Exit.inBlock id (Q O)
section rules
variable {P:aB}{main:Bool}{J:Jm}{R:vn}{D:vo}{fn:ay}{Q Q':eK}{O:aL}{a:Act}{w:af}{n n':Nat}
def pL{c:Code}(h:cZ P main J R D fn c n Q O a w)(hn:n<=n'):cZ P main J R D fn c n' Q O a w:=
 λb k cs Stop m hb hk hc=>(h b k cs Stop m hb hk hc).mono I
def nP{todo:List Nat}(h:bQ P main J R D fn ops todo n Q O a w)(hn:n<=n'):bQ P main J R D fn ops todo n' Q O a w:=
 λb k cs Stop m hb hk hc=>(h b k cs Stop m hb hk hc).mono I
def pO{c:Code}(h:cZ P main J R D fn c n Q O a w)(hq:∀O e a w,Q O e a w->Q' O e a w):cZ P main J R D fn c n Q' O a w:=
 λb k cs Stop m hb hk hc=>h b k cs Stop m hb hk λO' e a' w' q=>hc O' e a' w' (hq O' e a' w' q)
def lB(T:cy R D){c:Code}(h:cZ P main J R D fn c n Q O a w)(hr:R O w w₁):cZ P main J R D fn c n Q O a w₁:=
 λb k cs Stop m hb hk hc=>(h b k cs Stop m hb hk hc).rely T hr
def jr(T:cy R D)(h:Q O .normal a w):cZ P main J R D fn .skip 1 Q O a w:=λ_ _ _ _ _ _ _ hc=>cN.quiet T rfl (λ_=>stepG_skip) (hc _ _ _ _ h)
def Nv(T:cy R D){l:Nat}(h:Q O .normal a w):cZ P main J R D fn (.label l) 1 Q O a w:=λ_ _ _ _ _ _ _ hc=>cN.quiet T rfl (λ_=>stepG_label) (hc _ _ _ _ h)
def Vd(T:cy R D)(h:Q O .ret a w):cZ P main J R D fn .ret 1 Q O a w:=λ_ _ _ _ _ _ _ hc=>cN.quiet T rfl (λ_=>stepG_ret') (hc _ _ _ _ h _)
def tV(T:cy R D){id:Nat}(h:Q O (.exit id) a w):cZ P main J R D fn (.exit id) 1 Q O a w:=λb k cs Stop m _ _ hc=>by obtain⟨k',hk',hg⟩:=hc _ _ _ _ h;exact cN.quiet T rfl (λ_=>stepG_exit hk') hg
def aM(T:cy R D){x:Code}(M:aL->Act->af->Prop)(hx:cZ P main J R D fn x n₁ (bn M Q) O a w)(hy:∀O' a' w',M O' a' w'->cZ P main J R D fn y n₂ Q O' a' w'):cZ P main J R D fn (.seq x y) (n₁+n₂+1) Q O a w:=by
 intro b k cs Stop m hb hk hc;have e:m O.fu+(n₁+n₂+1)=(m O.fu+n₂+n₁)+1:=I
 rw[e];refine cN.quiet T rfl (λ_=>stepG_seq) (hx b (.code y :: k) cs Stop (λj=>m j+n₂) hb hk λO' e a' w' q=>?_);cases e with
 |normal=>exact hy O' a' w' q b k cs Stop m hb hk hc
 |exit id=>exact((hc _ _ _ _ q).mono (zar _ _)).push rfl XI
 |ret=>exact((hc _ _ _ _ q).mono (zar _ _)).push (x:=.code y) rfl XI
 |goto l=>exact hc _ _ _ _ q
 |panic ch=>exact hc _ _ _ _ q
 |outgrown=>exact hc _ _ _ _ q
def tU(T:cy R D){c:aD}{x:Code}(hc:a.eval c=.bool t)(h:cZ P main J R D fn (if t then x else y) n Q O a w):cZ P main J R D fn (.cond c x y) (n+1) Q O a w:=
 λb k cs Stop m hb hk hq=>cN.quiet T rfl (λ_=>stepG_cond hc) (h b k cs Stop m hb hk hq)
def fP(T:cy R D){id:Nat}{c:Code}(h:cZ P main J R D fn c n (ju id Q) O a w):cZ P main J R D fn (.block id c) (n+2) Q O a w:=by
 intro b k cs Stop m hb hk hc;have e:m O.fu+(n+2)=(m O.fu+1+n)+1:=I
 rw[e];refine cN.quiet T rfl (λ_=>stepG_block) (h b (.inBlock id :: k) cs Stop (λj=>m j+1) hb hk λO' e a' w' q=>?_);cases e with
 |normal=>exact cN.quiet T rfl (λ_=>stepG_inBlock) (hc _ _ _ _ q)
 |exit id'=>
  by_cases hid:id'=id
  ·simp only[ju,Exit.inBlock,hid,if_true]at q;exact⟨k,by simp[exitTo,hid],cN.more (hc _ _ _ _ q)⟩
  ·simp only[ju,Exit.inBlock,hid,if_false]at q;obtain⟨k',hk',hg⟩:=hc _ _ _ _ q;have:(id == id')=E:=by simp;exact λh=>hid h.symm
   exact⟨k',by simp[exitTo,this,hk'],hg.more⟩
 |ret=>exact λtodo=>(hc _ _ _ _ q todo).more
 |goto l=>exact hc _ _ _ _ q
 |panic ch=>exact hc _ _ _ _ q
 |outgrown=>exact hc _ _ _ _ q
def mY(T:cy R D){c:Code}(Lt:Nat->aL->Act->af->Prop)(r:Nat){N:Nat}(h₀:Lt N O a w)
 (round:∀j O a w,Lt j O a w->cZ P main J R D fn c r (bn (λO' a' w'=>∃j',j'<j/\Lt j' O' a' w') Q) O a w):cZ P main J R D fn (.loop c) ((N+1)*(r+1)+1) Q O a w:=by
 intro b k cs Stop m hb hk hc;have key:∀N j O a w,j<=N->Lt j O a w->cN P main J R D Stop (m O.fu+(N+1)*(r+1)) O (G (b.at a (.code c :: .inLoop c :: k)) cs) w:=by
  intro N;induction N with
  |zero=>
   intro j O a w hj hI;refine(round j O a w hI b (.inLoop c :: k) cs Stop (λj=>m j+1) hb hk λO' e a' w' q=>?_).mono I;cases e with
   |normal=>obtain⟨j',hj',_⟩:=q;omega
   |exit id=>exact((hc _ _ _ _ q).mono (zar _ _)).push rfl XI
   |ret=>exact((hc _ _ _ _ q).mono (zar _ _)).push (x:=.inLoop c) rfl XI
   |goto l=>exact hc _ _ _ _ q
   |panic ch=>exact hc _ _ _ _ q
   |outgrown=>exact hc _ _ _ _ q
  |succ N ih=>
   intro j O a w hj hI;refine(round j O a w hI b (.inLoop c :: k) cs Stop (λj=>m j+(N+1)*(r+1)+1) hb hk λO' e a' w' q=>?_).mono (by
    have:(N+1+1)*(r+1)=(N+1)*(r+1)+(r+1):=by rw[Nat.succ_mul]
    omega)
   cases e with
   |normal=>obtain⟨j',hj',XJ⟩:=q;exact cN.quiet T rfl (λ_=>stepG_inLoop) (ih j' O' a' w' I XJ)
   |exit id=>exact((hc _ _ _ _ q).mono I).push rfl XI
   |ret=>exact((hc _ _ _ _ q).mono I).push (x:=.inLoop c) rfl XI
   |goto l=>exact hc _ _ _ _ q
   |panic ch=>exact hc _ _ _ _ q
   |outgrown=>exact hc _ _ _ _ q
 have e:m O.fu+((N+1)*(r+1)+1)=(m O.fu+(N+1)*(r+1))+1:=I
 rw[e];exact cN.quiet T rfl (λ_=>stepG_loop) (key N N O a w (zao _) h₀)
def vq(T:cy R D){c:Code}(Lt:aL->Act->af->Prop)(r:Nat)(h₀:Lt O a w)
 (round:∀O a w,Lt O a w->0<O.fu->cZ P main J R D fn c r (bn (λO' a' w'=>O'.fu<O.fu/\Lt O' a' w') Q) O a w):cZ P main J R D fn (.loop c) (r+1) Q O a w:=by
 intro b k cs Stop m hb hk hc;have key:∀(K:Nat) (O:aL) a w,O.fu=K->Lt O a w->cN P main J R D Stop (m O.fu+r) O (G (b.at a (.code c :: .inLoop c :: k)) cs) w:=by
  intro K;induction K using Nat.strongRecOn with
  |ind K ih=>
   intro O a w hK hI;by_cases h0:O.fu=0
   ·exact cN.spent h0
   refine(round O a w hI I b (.inLoop c :: k) cs Stop (λj=>if j<O.fu then m j+r+1 else m j) hb hk λO' e a' w' q=>?_).mono XI;have hle:m O'.fu<=(if O'.fu<O.fu then m O'.fu+r+1 else m O'.fu):=by split<;>omega
   cases e with
   |normal=>
    obtain⟨hlt,XJ⟩:=q;have:=cN.quiet (P:=P) (main:=main) (J:=J) (D:=D) (Stop:=Stop) T rfl (λ_=>stepG_inLoop) (ih O'.fu I O' a' w' rfl XJ);simp only[hlt,if_true];exact this
   |exit id=>exact((hc _ _ _ _ q).mono hle).push rfl XI
   |ret=>exact((hc _ _ _ _ q).mono hle).push (x:=.inLoop c) rfl XI
   |goto l=>exact hc _ _ _ _ q
   |panic ch=>exact hc _ _ _ _ q
   |outgrown=>exact hc _ _ _ _ q
 exact cN.quiet T rfl (λ_=>stepG_loop) (key O.fu O a w rfl h₀)
def JY(T:cy R D){id:Nat}(h:bQ P main J R D fn ops (List.range ops.size) n Q O a w):cZ P main J R D fn (.region id ops E) (n+1) Q O a w:=
 λb k cs Stop m hb hk hc=>cN.quiet T rfl (λ_=>stepG_region) (h b k cs Stop m hb hk hc)
def At(T:cy R D)(h:Q O .normal a w):bQ P main J R D fn ops [] 1 Q O a w:=λ_ _ _ _ _ _ _ hc=>cN.quiet T rfl (λ_=>stepG_region_end) (hc _ _ _ _ h)
def jP{rest:List Nat}(ho:ops[i]?=Y o)(hw:ac3 o (ai5 ops a.tmps)=Z6)
 (h:∀w₁,R O w w₁->uponK o a (λa' w'=>D O w₁ w' (listed P fn a o w₁)/\bQ P main J R D fn ops rest n Q (O.grow w₁ w') a' w') ((ad6 a.eval o).run P w₁)):bQ P main J R D fn ops (i :: rest) (n+1) Q O a w:=by
 intro b k cs Stop m hb hk hc;refine cN.step rfl λw₁ h₁=>goes_oper ho hw hk ?_;have:=h w₁ h₁;revert this;cases (ad6 a.eval o).run P w₁ with
 |ok x w'=>cases x<;>first|exact λ⟨d,g⟩=>⟨hb▸d,g b k cs Stop m hb hk hc⟩|exact id
 |halt _ _=>exact id
def sk(T:cy R D){rest:List Nat}(ho:ops[i]?=Y o)(hw:ac3 o (ai5 ops a.tmps)=E)
 (h:bQ P main J R D fn ops rest n Q O (a.put o.dst undef) w):bQ P main J R D fn ops (i :: rest) (n+1) Q O a w:=
 λb k cs Stop m hb hk hc=>cN.quiet T rfl (λ_=>stepG_unwanted ho hw) (h b k cs Stop m hb hk hc)
def xT(hd:∀O w,D O w {w with drawn:=w.drawn+1} #[]){id:Nat}
 (h:∀w₁,R O w w₁->∀t,bQ P main J R D fn ops (Region.schedule (P.follows .mixedOrders) ops t) n Q O a {w₁ with drawn:=w₁.drawn+1}):cZ P main J R D fn (.region id ops Z6) (n+1) Q O a w:=
 λb k cs Stop m hb hk hc=>cN.step rfl λw₁ h₁=>by rw[stepG_region_draw];exact⟨hd _ _,by rw[O.dG (w:=w₁) (w':={w₁ with drawn:=w₁.drawn+1}) rfl];exact h w₁ h₁ _ b k cs Stop m hb hk hc⟩
def yG(T:cy R D){rest:List Nat}{ats:Array az}(ho:ops[i]?=Y o)(hw:ac3 o (ai5 ops a.tmps)=Z6)
 (hop:o.op=.defer {callee:=.value (.func f),args:=Sn,argTypes:=ats}) (h:bQ P main J R D fn ops rest n Q O (Act.put ⟨a.tmps,dcall f (Sn.map a.eval):: a.defers⟩ o.dst undef) w):bQ P main J R D fn ops (i :: rest) (n+1) Q O a w:=
 λb k cs Stop m hb hk hc=>cN.quiet T rfl (λ_=>stepG_defer ho hw hk hop) (h b k cs Stop m hb hk hc)
def nR(P:aB)(R:vn)(D:vo)(f:ay)(fn:Func)(O:aL)(w:af)(tmps:Array aj)(v:aj):Prop:=
 ∀w₁,R O w w₁->(results fn tmps).run P w₁=.ok v w₁/\D O w₁ w₁ (seen P f ((results fn tmps).events P w₁ #[]))
def bW(T:cy R D){fn:Func}{tmps:Array aj}{v:aj}(h:ResultsC P fn tmps v):nR P R D f fn O w tmps v:=
 λw₁ _=>⟨(h w₁).1,by rw[(h w₁).2,seen_none];exact T.idle _ _⟩
def Au{fn:Func}{todo:List Item}{c:ak}{v:aj}(hn:b.kind=.normal)(hd:a.defers= [])(hf:P.funcs[b.fn]?=Y fn)
 (hr:(results fn a.tmps).run P w=.ok v w):
 stepG P main (G {b.at a todo with mode:=.returning} (c :: cs)) w=.go (G (c.finish v) cs) w (seen P b.fn ((results fn a.tmps).events P w #[])):=by simp[G,stepG,unwind,doReturn,Frame.at,hn,hd,hf,hr,GStep.after]
def oQ{todo:List Item}{d:Deferred}{fn:Func}{c:Code}(hd:a.defers=d :: ds)(ht:d.target=.fn (.func f) cap)(hf:P.funcs[f]?=Y fn)(hname:(fn.name == "runtime.NumGoroutine")=E)(hb:fn.body=Y c):
 stepG P main (G {b.at a todo with mode:=.returning} cs) w=
  .go (G ((baseD f).at {tmps:=(d.args++cap)++ap6 (fn.ntmps-(d.args++cap).size) undef,defers:= []} [.code c]) ({b.at ⟨a.tmps,ds⟩ todo with mode:=.returning}:: cs)) w #[]:=by
 have h1:¬fn.name= "runtime.NumGoroutine" :=by simpa using hname
 rw[<-enter_atD (d.args++cap) hf hb]
 obtain⟨dt,da⟩:=d
 simp only at ht
 subst ht
 simp[G,stepG,unwind,callDeferred,Frame.at,hd,invoke,callFunc,hf,h1,hb,GStep.after,seen_none]
def adb(P:aB)(fn:Func)(Post:aL->af->Prop):eK
 |O,.normal,a,w|O,.ret,a,w=>a.defers= []/\(∃v,ResultsC P fn a.tmps v)/\Post O w
 |_,_,_,_=>False
def CallsD(P:aB)(main:Bool)(J:Jm)(R:vn)(D:vo)(f:ay)(args:Array aj)(n:Nat)(O:aL)(w:af)(Post:aL->af->Prop):Prop:=
 ∃fn c,P.funcs[f]?=Y fn/\(fn.name == "runtime.NumGoroutine")=E/\fn.body=Y c/\
  cZ P main J R D f c n (adb P fn Post) O {tmps:=args++ap6 (fn.ntmps-args.size) undef,defers:= []} w
def oR(P:aB)(main:Bool)(J:Jm)(R:vn)(D:vo)(dn:Nat)(f:ay)(fn:Func)(Post:aL->aj->af->Prop):eK
 |O,.normal,a,w|O,.ret,a,w=>(a.defers= []/\∃v,nR P R D f fn O w a.tmps v/\Post O v w)\/
   (∃d f' cap,a.defers= [d]/\d.target=.fn (.func f') cap/\CallsD P main J R D f' (d.args++cap) dn O w λO' w'=>∃v,nR P R D f fn O' w' a.tmps v/\Post O' v w')\/
   (∃d,a.defers= [d]/\∀(b:ak) (todo:List Item) (cs:List ak),b.fn=f->∀w₁,R O w w₁->J.to O (G {b.at a todo with mode:=.returning} cs) w₁ λown p g' w'=>g'=G {b.at ⟨a.tmps, []⟩ todo with mode:=.returning} cs/\∃v,nR P R D f fn (O.jump own p) w' a.tmps v/\Post (O.jump own p) v w')
 |_,_,_,_=>False
def bG(P:aB)(main:Bool)(J:Jm)(R:vn)(D:vo)(f:ay)(args:Array aj)(n:Nat)(O:aL)(w:af)(Post:aL->aj->af->Prop):Prop:=
 ∃fn c n₀ dn,n₀+dn<=n/\P.funcs[f]?=Y fn/\(fn.name == "runtime.NumGoroutine")=E/\fn.body=Y c/\
  cZ P main J R D f c n₀ (oR P main J R D dn f fn Post) O {tmps:=args++ap6 (fn.ntmps-args.size) undef,defers:= []} w
def CallsD.mono{args:Array aj}{Post Post':aL->af->Prop}(h:CallsD P main J R D f args n O w Post)(hp:∀O w,Post O w->Post' O w)(hn:n<=n'):CallsD P main J R D f args n' O w Post':=by obtain⟨fn,c,hf,hnm,hb,hw⟩:=h;refine⟨fn,c,hf,hnm,hb,pL (pO hw λO e a w q=>?_) hn⟩;cases e<;>first|exact⟨q.1,q.2.1,hp _ _ q.2.2⟩|exact q
def bG.mono{f:ay}{args:Array aj}{Post Post':aL->aj->af->Prop}(h:bG P main J R D f args n O w Post)(hp:∀O v w,Post O v w->Post' O v w):bG P main J R D f args n O w Post':=by
 obtain⟨fn,c,n₀,dn,hle,hf,hn,hb,hw⟩:=h;refine⟨fn,c,n₀,dn,hle,hf,hn,hb,pO hw λO e a w q=>?_⟩;have key:oR P main J R D dn f fn Post O .ret a w->oR P main J R D dn f fn Post' O .ret a w:=λq=>by
  rcases q with⟨h1,v,h2,h3⟩|⟨d,f',cap,h1,h2,h3⟩|⟨d,h1,h2⟩
  ·exact .inl ⟨h1,v,h2,hp _ _ _ h3⟩
  ·exact .inr (.inl ⟨d,f',cap,h1,h2,h3.mono (λO w ⟨v,x,y⟩=>⟨v,x,hp _ _ _ y⟩) (zao _)⟩)
  ·exact .inr (.inr ⟨d,h1,λb todo cs hb w₁ h₁=>J.mono (λown p g' w' ⟨x,v,y,z⟩=>⟨x,v,y,hp _ _ _ z⟩) (h2 b todo cs hb w₁ h₁)⟩)
 cases e<;>first|exact key q|exact q
def bG.rely(T:cy R D){args:Array aj}{Post:aL->aj->af->Prop}(h:bG P main J R D f args n O w Post)(hr:R O w w₁):bG P main J R D f args n O w₁ Post:=by obtain⟨fn,c,n₀,dn,hle,hf,hn,hb,hw⟩:=h;exact⟨fn,c,n₀,dn,hle,hf,hn,hb,lB T hw hr⟩
def JZ{fn:Func}{c:Code}{args:Array aj}{Post:aL->aj->af->Prop}(hf:P.funcs[f]?=Y fn)(hname:(fn.name == "runtime.NumGoroutine")=E)(hb:fn.body=Y c)
 (h:cZ P main J R D f c n (oR P main J R D dn f fn Post) O {tmps:=args++ap6 (fn.ntmps-args.size) undef,defers:= []} w):bG P main J R D f args (n+dn) O w Post:=⟨fn,c,n,dn,zao _,hf,hname,hb,h⟩
def cN.leave(T:cy R D){todo:List Item}{c:ak}{m:Nat->Nat}{Post:aL->aj->af->Prop}{Stop:yE}(hf:P.funcs[f]?=Y fn')(h:oR P main J R D dn f fn' Post O .ret a w)
 (hnext:∀O v w,Post O v w->cN P main J R D Stop (m O.fu) O (G (c.finish v) cs) w):cN P main J R D Stop (m O.fu+dn+4) O (G {(base f).at a todo with mode:=.returning} (c :: cs)) w:=by
 have last:∀(O':aL) (a'':Act) (w':af),a''.tmps=a.tmps->a''.defers= []->(∃v,nR P R D f fn' O' w' a.tmps v/\Post O' v w')->cN P main J R D Stop (m O'.fu+1) O' (G {(base f).at a'' todo with mode:=.returning} (c :: cs)) w':=by rintro O' a'' w' ht hd' ⟨v,hr,hp⟩;refine cN.step rfl (λw₁ h₁=>?_);rw[Au (b:=base f) rfl hd' hf (by rw[ht];exact(hr w₁ h₁).1),ht];exact⟨(hr w₁ h₁).2,by rw[O'.dG rfl];exact(hnext O' v w' hp).rely T h₁⟩
 rcases h with⟨hd,hv⟩|⟨d,f',cap,hd,ht,fnd,cd,Cl,hnd,hbd,hwd⟩|⟨d,hd,hj⟩
 ·exact(last O a w rfl hd hv).mono I
 ·have hl:∀(O':aL) (a':Act) (w':af) (todo':List Item),(a'.defers= []/\(∃v,ResultsC P fnd a'.tmps v)/\∃v,nR P R D f fn' O' w' a.tmps v/\Post O' v w')->
   cN P main J R D Stop (m O'.fu+2) O' (G {(baseD f').at a' todo' with mode:=.returning} ({(base f).at ⟨a.tmps, []⟩ todo with mode:=.returning}:: c :: cs)) w':=by rintro O' a' w' todo' ⟨h1,⟨v,hv⟩,h3⟩;exact cN.quiet T rfl (λw₁=>stepG_leave_deferred (b:=baseD f') rfl h1 Cl (hv w₁).1 (hv w₁).2 rfl) (last O' ⟨a.tmps, []⟩ w' rfl rfl h3)
  refine cN.quiet T rfl (λw₁=>oQ hd ht Cl hnd hbd) ?_;refine(hwd (baseD f') [] _ Stop (λj=>m j+3) rfl (by simp[baseD]) λO' e a' w' q=>?_).mono (n:=m O.fu+3+dn) I;cases e with
  |normal=>exact cN.quiet T rfl (λ_=>stepG_end) (hl O' a' w' [] q)
  |ret=>exact λtodo'=>(hl O' a' w' todo' q).more
  |exit id=>exact q.elim
  |goto l=>exact q.elim
  |panic ch=>exact q.elim
  |outgrown=>exact q.elim
 ·refine cN.jump rfl λw₁ h₁=>J.mono ?_ (hj (base f) todo (c :: cs) rfl w₁ h₁);rintro own p g' w' ⟨rfl,h3⟩;exact⟨_,last (O.jump own p) ⟨a.tmps, []⟩ w' rfl rfl h3⟩
def cN.body(T:cy R D){c:ak}{m:Nat->Nat}{Post:aL->aj->af->Prop}{Stop:yE}(hf:P.funcs[f]?=Y fn')(h:cZ P main J R D f cd n (oR P main J R D dn f fn' Post) O a w)
 (hnext:∀O v w,Post O v w->cN P main J R D Stop (m O.fu) O (G (c.finish v) cs) w):cN P main J R D Stop (m O.fu+n+dn+5) O (G ((base f).at a [.code cd]) (c :: cs)) w:=by
 refine(h (base f) [] (c :: cs) Stop (λj=>m j+dn+5) rfl (by simp[base]) λO' e a' w' q=>?_).mono (n:=m O.fu+dn+5+n) I;cases e with
 |normal=>exact cN.quiet T rfl (λ_=>stepG_end) (cN.leave T hf q hnext)
 |ret=>exact λtodo=>(cN.leave T hf q hnext).more
 |exit id=>exact q.elim
 |goto l=>exact q.elim
 |panic ch=>exact q.elim
 |outgrown=>exact q.elim
def cN.enter(T:cy R D){k:List Item}{rest:List Nat}{fn:Func}{c:Code}{args:Array aD}{ats:Array az}{Stop:yE}
 (ho:ops[i]?=Y o) (hw:ac3 o (ai5 ops a.tmps)=Z6) (hk:b.kind≠.early) (hop:o.op=.call {callee:=.value (.func f),args,argTypes:=ats})
 (hf:P.funcs[f]?=Y fn) (hname:(fn.name == "runtime.NumGoroutine")=E) (hb:fn.body=Y c)
 (h:cN P main J R D Stop n O (G ((base f).at {tmps:=args.map a.eval++ap6 (fn.ntmps-(args.map a.eval).size) undef,defers:= []} [.code c]) (b.at a (.inRegion ops (i :: rest):: k):: cs)) w):
 cN P main J R D Stop (n+1) O (G (b.at a (.inRegion ops (i :: rest):: k)) cs) w:=
 cN.step rfl λw₁ h₁=>goes_call ho hw hk hop hf hname hb ⟨T.idle _ _,by rw[O.dG rfl];exact h.rely T h₁⟩
def Er:Nat:=6
def bX(T:cy R D){rest:List Nat}{args:Array aD}{ats:Array az}{Post:aL->aj->af->Prop}
 (ho:ops[i]?=Y o) (hw:ac3 o (ai5 ops a.tmps)=Z6) (hop:o.op=.call {callee:=.value (.func f),args,argTypes:=ats})
 (hcall:bG P main J R D f (args.map a.eval) nf O w Post) (hnext:∀O' v w',Post O' v w'->bQ P main J R D fn ops rest n Q O' (a.put o.dst v) w'):bQ P main J R D fn ops (i :: rest) (n+nf+Er) Q O a w:=by
 intro b k cs Stop m hb hk hc;obtain⟨fn',c,n₀,dn,hle,hf,hname,hbody,hwp⟩:=hcall;have iu:∀v,(b.at a (.inRegion ops (i :: rest):: k)).finish v=b.at (a.put o.dst v) (.inRegion ops rest :: k):=λv=>by rw[Frame.finish_at,ho];rfl
 have e:(m O.fu+n+n₀+dn+5)+1<=m O.fu+(n+nf+Er):=by unfold Er;omega
 refine cN.mono ?_ e;refine cN.enter T ho hw hk hop hf hname hbody (cN.body (m:=λj=>m j+n) T hf hwp λO' v w' hp=>?_);rw[iu];exact hnext O' v w' hp b k cs Stop m hb hk hc
def qL{todo:List Nat}
 (h:∀(b:ak) (k:List Item) (cs:List ak),b.fn=fn->b.kind≠.early->∀w₁,R O w w₁->J.to O (G (b.at a (.inRegion ops todo :: k)) cs) w₁ λown p g' w'=>
   ∃todo' a' n',g'=G (b.at a' (.inRegion ops todo' :: k)) cs/\bQ P main J R D fn ops todo' n' Q (O.jump own p) a' w'):bQ P main J R D fn ops todo n Q O a w:=by
 intro b k cs Stop m hb hk hc
 refine cN.jump rfl λw₁ h₁=>J.mono ?_ (h b k cs hb hk w₁ h₁)
 rintro own p g' w' ⟨todo',a',n',rfl,h'⟩
 exact⟨_,h' b k cs Stop m hb hk hc⟩
end rules
end
section
open Go Go.Conc
section
variable (P:aB)(main:Bool)(J:Jm)(R:vn)(D:vo)(fn:ay)(ops:Array Oper)
def By(c i:Nat)(K:aL->Act->af->Prop)(O:aL)(a:Act)(w:af):Prop:=
 match ops[i]? with
 |none=>False
 |some o=>
  if ac3 o (ai5 ops a.tmps)then
   (∀w₁,R O w w₁->uponK o a (λa' w'=>D O w₁ w' (listed P fn a o w₁)/\K (O.grow w₁ w') a' w') ((ad6 a.eval o).run P w₁))\/
   (∃f args ats nf,∃Post:aL->aj->af->Prop,nf+Er<=c/\o.op=.call {callee:=.value (.func f),args,argTypes:=ats}/\bG P main J R D f (args.map a.eval) nf O w Post/\∀O' v w',Post O' v w'->K O' (a.put o.dst v) w')
  else K O (a.put o.dst undef) w
def iW(O0:aL)(S:af->Prop)(o:Oper)(v:aj)(a:Act):Prop:=
 (ac3 o (ai5 ops a.tmps)=Z6/\∀O w,(∀i,O0.own i->O.own i)->S w->(ad6 a.eval o).run P w=.ok (.value v) w/\D O w w (listed P fn a o w))\/
 (ac3 o (ai5 ops a.tmps)=E/\v=undef)
def kF(md:Region.Mode)(c:Nat)(Q:eK)(O0:aL)(S:af->Prop):Nat->Array Bool->aL->Act->af->Prop
 | 0,listed,O,a,w=>al2 md ops listed= []/\Q O .normal a w
 |fuel+1,listed,O,a,w=>
  (al2 md ops listed= []->Q O .normal a w)/\
  ∀i∈al2 md ops listed,By P main J R D fn ops c i (λO' a' w'=>((∀i,O0.own i->O'.own i)/\S w')/\kF md c Q O0 S fuel (listed.setIfInBounds i Z6) O' a' w') O a w
end
section
variable {P:aB}{main:Bool}{J:Jm}{R:vn}{D:vo}{fn:ay}{ops:Array Oper}{Q:eK}{md:Region.Mode}{c:Nat}{O0:aL}{S:af->Prop}
def Gx{K K':Act->af->Prop}(h:∀a w,K a w->K' a w){r:Result Next}(hh:uponK o a K r):uponK o a K' r:=by
 cases r with
 |ok n w'=>cases n<;>first|exact h _ _ hh|exact hh
 |halt x w'=>exact hh
def By.mono{O:aL}{w:af}{K K':aL->Act->af->Prop}(h:∀O a w,K O a w->K' O a w)(hh:By P main J R D fn ops c i K O a w):By P main J R D fn ops c i K' O a w:=by
 unfold By at *;split
 ·simp_all
 ·rename_i o ho;simp only[ho]at hh;split
  ·rename_i hw;simp only[hw,if_true]at hh;rcases hh with hh|⟨f,args,ats,nf,Post,h1,h2,h3,h4⟩
   ·exact .inl λw₁ h₁=>Gx (λa' w' x=>⟨x.1,h _ _ _ x.2⟩) (hh w₁ h₁)
   ·exact .inr ⟨f,args,ats,nf,Post,h1,h2,h3,λO' v w' x=>h _ _ _ (h4 O' v w' x)⟩
  ·rename_i hw;simp only[hw]at hh;exact h _ _ _ hh
def By.rely(T:cy R D){i:Nat}{O:aL}{a:Act}{w w₁:af}{K:aL->Act->af->Prop}(hK:∀a,K O a w->K O a w₁)(hh:By P main J R D fn ops c i K O a w)(r:R O w w₁):By P main J R D fn ops c i K O a w₁:=by
 unfold By at *;split
 ·simp_all
 ·rename_i o ho;simp only[ho]at hh;split
  ·rename_i hw;simp only[hw,if_true]at hh;rcases hh with hh|⟨f,args,ats,nf,Post,h1,h2,h3,h4⟩
   ·exact .inl λw₂ h₂=>hh w₂ (T.trans _ _ _ _ r h₂)
   ·exact .inr ⟨f,args,ats,nf,Post,h1,h2,h3.rely T r,h4⟩
  ·rename_i hw;simp only[hw]at hh;exact hK _ hh
def Gy(T:cy R D)(hc:1<=c){rest:List Nat}{O:aL}{w:af}(h:By P main J R D fn ops c i (λO' a' w'=>bQ P main J R D fn ops rest n Q O' a' w') O a w):bQ P main J R D fn ops (i :: rest) (n+c) Q O a w:=by
 unfold By at h;split at h
 ·exact h.elim
 ·rename_i o ho;split at h
  ·rename_i hw;rcases h with h|⟨f,args,ats,nf,Post,h1,h2,h3,h4⟩
   ·exact nP (jP ho hw h) I
   ·exact nP (bX T ho hw h2 h3 h4) I
  ·rename_i hw;exact nP (sk T ho (by simpa using hw) h) I
def kF.rely(T:cy R D)(hSR:∀O x y,(∀i,O0.own i->O.own i)->S x->R O x y->S y)(hQR:∀O a x y,Q O .normal a x->R O x y->Q O .normal a y):
 ∀(fuel:Nat) (listed:Array Bool) (O:aL) (a:Act) (w w₁:af),kF P main J R D fn ops md c Q O0 S fuel listed O a w->R O w w₁->kF P main J R D fn ops md c Q O0 S fuel listed O a w₁
 | 0,_,_,_,_,_,h,r=>⟨h.1,hQR _ _ _ _ h.2 r⟩
 |fuel+1,_,_,_,_,_,h,r=>⟨λe=>hQR _ _ _ _ (h.1 e) r,λi hi=>(h.2 i hi).rely T (λ_ x=>⟨⟨x.1.1,hSR _ _ _ x.1.1 x.1.2 r⟩,kF.rely T hSR hQR fuel _ _ _ _ _ x.2 r⟩) r⟩
def J2(T:cy R D)(hc:1<=c):∀(fuel t:Nat) (listed:Array Bool) (O:aL) (a:Act) (w:af),kF P main J R D fn ops md c Q O0 S fuel listed O a w->
 bQ P main J R D fn ops (ax9 md ops fuel t listed []) (fuel*c+1) Q O a w:=by
 intro fuel;induction fuel with
 |zero=>intro t listed O a w h;simpa[ax9]using At T h.2
 |succ fuel ih=>
  intro t listed O a w h;obtain⟨h₀,h₁⟩:=h;simp only[ax9];change bQ P main J R D fn ops (match (al2 md ops listed)[t %(al2 md ops listed).length]? with
   |some i=>ax9 md ops fuel (t /(al2 md ops listed).length) (listed.setIfInBounds i Z6) [i]
   |none=> [].reverse) ((fuel+1)*c+1) Q O a w
  cases hi:(al2 md ops listed)[t %(al2 md ops listed).length]? with
  |none=>
   have hnil:al2 md ops listed= []:=by
    rcases Nat.eq_zero_or_pos (al2 md ops listed).length with h0|h0
    ·exact List.length_eq_zero_iff.1 h0
    ·have:=List.getElem?_eq_none_iff.1 hi;have:=Nat.mod_lt t h0;omega
   exact nP (by simpa using At T (h₀ hnil)) I
  |some i=>
   simp only[];rw[linearise_go_acc,List.reverse_singleton,List.singleton_append];have:=Gy T hc (By.mono (λO' a' w' x=>ih (t /(al2 md ops listed).length) (listed.setIfInBounds i Z6) O' a' w' x.2) (h₁ i (List.mem_of_getElem? hi)));exact nP this (by rw[Nat.succ_mul];omega)
def iW.same{v:aj}(hy:iW P D fn ops O0 S o v a)(he:ad6 a'.eval o=ad6 a.eval o)
 (hw:ac3 o (ai5 ops a'.tmps)=ac3 o (ai5 ops a.tmps)):iW P D fn ops O0 S o v a':=by unfold iW listed at *;rw[he,hw];exact hy
def iW.opX(hSR:∀O x y,(∀i,O0.own i->O.own i)->S x->R O x y->S y){v:aj}(hi:ops[i]?=Y o)(hy:iW P D fn ops O0 S o v a)
 {K:aL->Act->af->Prop} {O:aL} (hK:∀a x y,K O a x->R O x y->K O a y) {w:af} (hO:∀i,O0.own i->O.own i) (hS:S w) (h:K O (a.put o.dst v) w):By P main J R D fn ops c i K O a w:=by
 unfold By;simp only[hi];rcases hy with⟨hw,hv⟩|⟨hw,rfl⟩
 ·simp only[hw,if_true];refine .inl λw₁ h₁=>?_;have:=hv O w₁ hO (hSR _ _ _ hO hS h₁);rw[this.1];refine⟨this.2,?_⟩;rw[O.dG rfl];exact hK _ _ _ h h₁
 ·simp only[hw,Bool.false_eq_true,if_false];exact h
def R8{args:Array aD}{ats:Array az}(hop:o.op=.call {callee:=.value (.func f),args,argTypes:=ats})(a:Act)(dst:Option Tmp)(v:aj)(h:∀d,dst=Y d->d ∉ o.looksAt ops):
 args.map (a.put dst v).eval=args.map a.eval:=by refine Array.map_congr_left λx hx=>Act.eval_put λd hd hxd=>h d hd ?_;subst hxd;exact List.mem_append_left _ (List.mem_filterMap.2 ⟨.tmp d,by rw[hop];simp[Op.operands,Call.operands];exact hx,rfl⟩)
def By.adg{oj:Oper}{v:aj}(hj:ops[j]?=Y oj)(hap:oi.apart ops oj=Z6)
 (hsi:∀cs b,oi.op≠.select cs b) (hsj:∀cs b,oj.op≠.select cs b) {K:aL->Act->af->Prop} {O:aL} {a:Act} {w:af}
 (hy:iW P D fn ops O0 S oi v a) (h:By P main J R D fn ops c j K O (a.put oi.dst v) w):
 By P main J R D fn ops c j (λO' a' w'=>iW P D fn ops O0 S oi v a'/\K O' (a'.put oi.dst v) w') O a w:=by
 obtain⟨h1,h2,h3⟩:=Oper.apart_spec hap;have keep:∀(a:Act),iW P D fn ops O0 S oi v a->∀u,iW P D fn ops O0 S oi v (a.put oj.dst u):=λa hy u=>
  hy.same (execOp_put oi hsi a oj.dst u h3) (wanted_put oi a oj.dst u h3)
 unfold By at *;simp only[hj]at *;rw[wanted_put oj a oi.dst v h1]at h;split
 ·rename_i hw;simp only[hw,if_true]at h;rcases h with h|⟨f,args,ats,nf,Post,q1,q2,q3,q4⟩
  ·refine .inl λw₁ h₁=>?_;have h:=h w₁ h₁;unfold listed at *;rw[execOp_put oj hsj a oi.dst v h1]at h;generalize (ad6 a.eval oj).run P w₁=r at *;cases r with
   |ok n w'=>
    cases n<;>simp only[uponK]at h⊢;case value u=>exact⟨h.1,keep a hy u,by rw[<-be3 a v u h2];exact h.2⟩
    case skip=>exact⟨h.1,keep a hy _,by rw[<-be3 a v undef h2];exact h.2⟩
   |halt x w'=>simp only[uponK]at h
  ·rw[R8 q2 a oi.dst v h1]at q3;exact .inr ⟨f,args,ats,nf,Post,q1,q2,q3,λO' u w' x=>⟨keep a hy u,by rw[<-be3 a v u h2];exact q4 O' u w' x⟩⟩
 ·rename_i hw;simp only[hw]at h;exact⟨keep a hy _,by rw[<-be3 a v undef h2];exact h⟩
def J3(T:cy R D)(hSR:∀O x y,(∀i,O0.own i->O.own i)->S x->R O x y->S y)(hQR:∀O a x y,Q O .normal a x->R O x y->Q O .normal a y){v:aj}(hi:ops[i]?=Y oi)
 (hsel:∀(j:Nat) (o:Oper) cs b,ops[j]?=Y o->o.op≠.select cs b):
 ∀(fuel:Nat) (listed:Array Bool) (O:aL) (a:Act) (w:af),
  (∀j oj,ops[j]?=Y oj->j≠i->listed.getD j Z6=E->(∀e∈oj.after,Region.binds md e=Z6->e.on≠i)->oi.apart ops oj=Z6)->
  i∈al2 md ops listed->iW P D fn ops O0 S oi v a->(∀i,O0.own i->O.own i)->S w->
  kF P main J R D fn ops md c Q O0 S fuel (listed.setIfInBounds i Z6) O (a.put oi.dst v) w->kF P main J R D fn ops md c Q O0 S (fuel+1) listed O a w:=by
 have hK:∀fuel listed O,∀a x y,(((∀i,O0.own i->O.own i)/\S x)/\kF P main J R D fn ops md c Q O0 S fuel listed O a x)->R O x y->(((∀i,O0.own i->O.own i)/\S y)/\kF P main J R D fn ops md c Q O0 S fuel listed O a y):=
  λfuel listed O a x y h r=>⟨⟨h.1.1,hSR _ _ _ h.1.1 h.1.2 r⟩,kF.rely T hSR hQR fuel listed O a x y h.2 r⟩
 intro fuel
 induction fuel with
 |zero=>
  intro listed O a w _ hr hy hO hS H
  refine⟨λh=>(by rw[h]at hr;cases hr),λj hj=>?_⟩
  by_cases hji:j=i
  ·subst hji;exact hy.opX hSR hi (hK _ _ _) hO hS ⟨⟨hO,hS⟩,H⟩
  ·have:=ready_mono hj hji
   rw[H.1]at this
   cases this
 |succ fuel ih=>
  intro listed O a w hfree hr hy hO hS H
  refine⟨λh=>(by rw[h]at hr;cases hr),λj hj=>?_⟩
  by_cases hji:j=i
  ·subst hji;exact hy.opX hSR hi (hK _ _ _) hO hS ⟨⟨hO,hS⟩,H⟩
  ·have h1:=H.2 j (ready_mono hj hji)
   obtain⟨adh,oj,UW,hall⟩:=mem_ready.1 hj
   have ahN:∀e∈oj.after,Region.binds md e=Z6->e.on≠i:=λe he hb heq=>by
    have h1:=hall e he hb;have h0:=(mem_ready.1 hr).1;rw[heq]at h1;rcases aq8 i listed.size with h'|h'
    ·simp[h']at h0 h1;rw[h0]at h1;cases h1
    ·simp[an2 h']at h1
   have h2:=By.adg UW (hfree j oj UW hji adh ahN) (λcs b=>hsel i oi cs b hi) (λcs b=>hsel j oj cs b UW) hy h1
   have Y9:∀k ok,ops[k]?=Y ok->k≠i->(listed.setIfInBounds j Z6).getD k Z6=E->
    (∀e∈ok.after,Region.binds md e=Z6->e.on≠i)->oi.apart ops ok=Z6:=λk ok hk hki hun hno=>by
    refine hfree k ok hk hki ?_ hno;by_cases hjk:j=k
    ·subst hjk;exact adh
    ·rw[getD_set_ne Z6 hjk]at hun;exact hun
   refine By.mono (λO' a' w' h3=>⟨h3.2.1,ih (listed.setIfInBounds j Z6) O' a' w' Y9 (ready_mono hr (Ne.symm hji)) h3.1 h3.2.1.1 h3.2.1.2 ?_⟩) h2
   rw[Array.setIfInBounds_comm _ _ hji]
   exact h3.2.2
def vw(T:cy R D)(hSR:∀O x y,(∀i,O0.own i->O.own i)->S x->R O x y->S y)(hQR:∀O a x y,Q O .normal a x->R O x y->Q O .normal a y){v:aj}{fuel:Nat}{listed:Array Bool}{O:aL}{w:af}(hi:ops[i]?=Y oi)
 (hs:ba3 ops=Z6) (hf:bg3 md ops listed i=Z6) (hr:(al2 md ops listed).contains i=Z6)
 (hy:iW P D fn ops O0 S oi v a) (hO:∀i,O0.own i->O.own i) (hS:S w) (h:kF P main J R D fn ops md c Q O0 S fuel (listed.setIfInBounds i Z6) O (a.put oi.dst v) w):kF P main J R D fn ops md c Q O0 S (fuel+1) listed O a w:=
 J3 T hSR hQR hi (Region.noSelect_spec hs) fuel listed O a w (Region.free_spec hi hf) (by simpa using hr) hy hO hS h
def ko{rs:List Nat}{fuel:Nat}{listed:Array Bool}{O:aL}{w:af}(hr:al2 md ops listed=rs)(hne:rs≠ [])
 (h:∀i∈rs,By P main J R D fn ops c i (λO' a' w'=>((∀i,O0.own i->O'.own i)/\S w')/\kF P main J R D fn ops md c Q O0 S fuel (listed.setIfInBounds i Z6) O' a' w') O a w):kF P main J R D fn ops md c Q O0 S (fuel+1) listed O a w:=
 ⟨λh0=>absurd (hr▸h0) hne,hr▸h⟩
def kY{listed:Array Bool}{O:aL}{w:af}(hr:al2 md ops listed= [])(h:Q O .normal a w):∀fuel,kF P main J R D fn ops md c Q O0 S fuel listed O a w
 | 0=>⟨hr,h⟩
 |_+1=>⟨λ_=>h,λi hi=>by rw[hr]at hi;cases hi⟩
def gF(T:cy R D)(hd:∀O w,D O w {w with drawn:=w.drawn+1} #[])(hc:1<=c){id:Nat}{O:aL}{w:af}(hm:P.follows .mixedOrders=Z6)
 (h:∀w₁,R O w w₁->kF P main J R D fn ops .any c Q O0 S ops.size (ap6 ops.size E) O a {w₁ with drawn:=w₁.drawn+1}):cZ P main J R D fn (.region id ops Z6) (ops.size*c+1+1) Q O a w:=
 xT hd λw₁ h₁ t=>by simp only[Region.schedule,hm,Bool.true_or,if_true];exact J2 T hc ops.size t _ O a _ (h w₁ h₁)
end
structure eI where
 Fx:Nat->Prop
 og:aA->Prop
 Mn:aA->Prop
 Sh:Nat->Prop
 Wg:Nat
 tw:az
 N:Nat
 low:∀a,og a->a.block<N
 J4:∀a,Mn a->a.block<N
def Ep(tw:az)(Wg:Nat)(w:af):Prop:=∃st sm,w.heap[Wg]?=Y (.cells #[.int .u64 st,.int .u32 sm] tw)
structure RX(L:eI)(O:aL)(w w₁:af):Prop where
 le:w.heap.size<=w₁.heap.size
 blk:∀i,i<w.heap.size->O.own i\/L.Fx i->w₁.heap[i]?=w.heap[i]?
 Hw:∀a,L.og a->w₁.cell? a=w.cell? a
 mn:∀a,L.Mn a->w₁.cell? a=w.cell? a/\w₁.frozen? a=w.frozen? a
 sh:∀i c e f,L.Sh i->w.heap[i]?=Y (.cells c e f)->∃c',w₁.heap[i]?=Y (.cells c' e f)/\c'.size=c.size
 live:Ep L.tw L.Wg w->Ep L.tw L.Wg w₁
def Es(L:eI)(O:aL)(e:aC):Prop:=
 e.sync=E/\((∃a,e.loc=.cell a/\(O.own a.block\/L.Mn a\/((L.Fx a.block\/L.og a)/\e.write=E)))\/(∃r,e.loc=.obj r/\(O.own r\/(L.Fx r/\e.write=E))))
structure DX(L:eI)(O:aL)(w w':af)(es:Array aC):Prop where
 tape:w'.tape=w.tape
 os:w'.os=w.os
 out:w'.output=w.output
 le:w.heap.size<=w'.heap.size
 blk:∀i,i<w.heap.size->¬O.own i->w'.heap[i]?=w.heap[i]? \/
  ∃c c' e f,w.heap[i]?=Y (.cells c e f)/\w'.heap[i]?=Y (.cells c' e f)/\c'.size=c.size/\∀j,¬L.Mn ⟨i,j,F⟩->c'[j]?=c[j]?
 ev:∀e∈es,Es L O e
variable {L:eI}{O O':aL}{w w₁ w₂:af}
def RX.refl(O:aL)(w:af):RX L O w w:=⟨zao _,λ_ _ _=>rfl,λ_ _=>rfl,λ_ _=>⟨rfl,rfl⟩,λ_ c _ _ _ h=>⟨c,h,rfl⟩,id⟩
def RX.trans(h:RX L O w w₁)(h':RX L O w₁ w₂):RX L O w w₂:=
 ⟨zap h.le h'.le,λi hi ho=>(h'.blk i (Nat.lt_of_lt_of_le hi h.le) ho).trans (h.blk i hi ho),λa ha=>(h'.Hw a ha).trans (h.Hw a ha),λa ha=>⟨(h'.mn a ha).1.trans (h.mn a ha).1,(h'.mn a ha).2.trans (h.mn a ha).2⟩,λi c e f hi hc=>by obtain⟨c1,h1,e1⟩:=h.sh i c e f hi hc;obtain⟨c2,h2,e2⟩:=h'.sh i c1 e f hi h1;exact⟨c2,h2,e2.trans e1⟩,h'.live ∘ h.live⟩
def RX.anti(h:RX L O' w w₁)(hO:∀i,O.own i->O'.own i):RX L O w w₁:=⟨h.le,λi hi ho=>h.blk i hi (ho.imp (hO i) id),h.Hw,h.mn,h.sh,h.live⟩
def DX.idle(O:aL)(w:af):DX L O w w #[]:=⟨rfl,rfl,rfl,zao _,λ_ _ _=>.inl rfl,λ_ h=>by simp at h⟩
def DX.still(O:aL)(w:af)(h:∀e∈es,Es L O e):DX L O w w es:=⟨rfl,rfl,rfl,zao _,λ_ _ _=>.inl rfl,h⟩
def DX.draw(O:aL)(w:af):DX L O w {w with drawn:=w.drawn+1} #[]:=⟨rfl,rfl,rfl,zao _,λ_ _ _=>.inl rfl,λ_ h=>by simp at h⟩
def RX.draw(O:aL)(w:af):RX L O w {w with drawn:=w.drawn+1}:=⟨zao _,λ_ _ _=>rfl,λ_ _=>rfl,λ_ _=>⟨rfl,rfl⟩,λ_ c _ _ _ h=>⟨c,h,rfl⟩,id⟩
def aF(L:eI):cy (RX L) (DX L):=⟨RX.refl,λ_ _ _ _=>RX.trans,DX.idle⟩
structure bJ(L:eI)(O0:aL)(w0:af)(O:aL)(w:af):Prop where
 base:L.N<=w0.heap.size
 own:∀i,O0.own i->O.own i
 rel:RX L O0 w0 w
 gh:O.pos=O0.pos/\O.fu=O0.fu
 new:∀i,O.own i->O0.own i\/w0.heap.size<=i
def bJ.refl(h:L.N<=w.heap.size):bJ L O w O w:=⟨h,λ_ h=>h,RX.refl _ _,⟨rfl,rfl⟩,λ_ h=>.inl h⟩
def bJ.rely{O0:aL}(h:bJ L O0 w0 O w)(r:RX L O w w₁):bJ L O0 w0 O w₁:=⟨h.base,h.own,h.rel.trans (r.anti h.own),h.gh,h.new⟩
def bJ.trans{O0 O1 O2:aL}{w0:af}(h:bJ L O0 w0 O1 w₁)(r:bJ L O1 w₁ O2 w₂):bJ L O0 w0 O2 w₂:=⟨h.base,λi hi=>r.own i (h.own i hi),h.rel.trans (r.rel.anti h.own),⟨r.gh.1.trans h.gh.1,r.gh.2.trans h.gh.2⟩,λi hi=>(r.new i hi).elim (h.new i) λx=>.inr (zap h.rel.le x)⟩
def bJ.top{O0:aL}(h:bJ L O0 w0 O w):L.N<=w.heap.size:=zap h.base h.rel.le
structure rA(L:eI)(O0:aL)(w0:af)(O:aL)(w:af):Prop where
 base:L.N<=w0.heap.size
 own:∀i,O0.own i->O.own i
 rel:RX L O0 w0 w
 new:∀i,O.own i->O0.own i\/w0.heap.size<=i
def bJ.SN{O0:aL}(h:bJ L O0 w0 O w):rA L O0 w0 O w:=⟨h.base,h.own,h.rel,h.new⟩
def rA.refl(h:L.N<=w.heap.size):rA L O w O w:=⟨h,λ_ h=>h,RX.refl _ _,λ_ h=>.inl h⟩
def rA.rely{O0:aL}(h:rA L O0 w0 O w)(r:RX L O w w₁):rA L O0 w0 O w₁:=⟨h.base,h.own,h.rel.trans (r.anti h.own),h.new⟩
def rA.trans{O0 O1 O2:aL}{w0:af}(h:rA L O0 w0 O1 w₁)(r:rA L O1 w₁ O2 w₂):rA L O0 w0 O2 w₂:=⟨h.base,λi hi=>r.own i (h.own i hi),h.rel.trans (r.rel.anti h.own),λi hi=>(r.new i hi).elim (h.new i) λx=>.inr (zap h.rel.le x)⟩
def rA.top{O0:aL}(h:rA L O0 w0 O w):L.N<=w.heap.size:=zap h.base h.rel.le
def rA.oc{O0:aL}(h:rA L O0 w0 O w)(hi:¬O0.own i)(hl:i<w0.heap.size):¬O.own i:=λx=>(h.new i x).elim hi I
def bJ.oc{O0:aL}{w0:af}(h:bJ L O0 w0 O w){i:Nat}(hi:¬O0.own i)(hl:i<w0.heap.size):¬O.own i:=h.SN.oc hi hl
structure OB(r:Nat)(o:Obj)(O:aL)(w:af):Prop where
 own:O.own r
 heap:w.heap[r]?=Y o
def OB.lt{o:Obj}(h:OB r o O w):r<w.heap.size:=by
 rcases aq8 r w.heap.size with hl|hl
 ·exact hl
 ·have:=h.heap;rw[an2 hl]at this;cases this
def OB.rely{o:Obj}(h:OB r o O w)(x:RX L O w w₁):OB r o O w₁:=⟨h.own,(x.blk r h.lt (.inl h.own)).trans h.heap⟩
def OB.ya{o:Obj}(h:OB r o O w)(x:bJ L O w O' w₁):OB r o O' w₁:=⟨x.own _ h.own,(x.rel.blk r h.lt (.inl h.own)).trans h.heap⟩
def yf(w:af)(o:Obj):(w.alloc o).heap.size=w.heap.size+1:=Array.size_push ..
def Av(w:af)(o:Obj)(h:i<w.heap.size):(w.alloc o).heap[i]?=w.heap[i]? :=by show (w.heap.push o)[i]?=_;rw[au7,if_neg I]
def OZ(w:af)(o:Obj):(w.alloc o).heap[w.heap.size]?=Y o:=by show (w.heap.push o)[w.heap.size]?=_;rw[au7,if_pos rfl]
def DX.alloc(O:aL)(w:af)(o:Obj):DX L O w (w.alloc o) #[]:=
 ⟨rfl,rfl,rfl,by rw[yf];omega,λi hi _=>.inl (Av w o hi),λ_ h=>by simp at h⟩
def RX.alloc(O:aL)(h:L.N<=w.heap.size)(o:Obj):RX L O w (w.alloc o):=
 ⟨by rw[yf];omega,λi hi _=>Av w o hi,λa ha=>by have:=L.low a ha;unfold ad3;rw[Av w o (I:a.block<w.heap.size)],λa ha=>by have:=L.J4 a ha;unfold ad3 aj2;rw[Av w o (I:a.block<w.heap.size)];exact⟨rfl,rfl⟩,λi c e f _ h=>⟨c,by rw[Av w o (zaq.1 h).1];exact h,rfl⟩,λ⟨st,sm,h⟩=>⟨st,sm,by rw[Av w o (zaq.1 h).1];exact h⟩⟩
def OB.new(O:aL)(w:af)(o:Obj):OB w.heap.size o (O.grow w (w.alloc o)) (w.alloc o):=⟨.inr ⟨zao _,by rw[yf];omega⟩,OZ w o⟩
def bJ.alloc{O0:aL}{w0:af}(h:bJ L O0 w0 O w)(o:Obj):bJ L O0 w0 (O.grow w (w.alloc o)) (w.alloc o):=⟨h.base,λi hi=>.inl (h.own i hi),h.rel.trans ((RX.alloc _ h.top o)),h.gh,λi hi=>hi.elim (h.new i) λx=>.inr (zap h.rel.le x.1)⟩
def OB.alloc{r:Nat}{o:Obj}(h:OB r o O w)(o':Obj):OB r o (O.grow w (w.alloc o')) (w.alloc o'):=⟨.inl h.own,(Av w o' h.lt).trans h.heap⟩
structure ep(r:Nat)(w w':af):Prop where
 tape:w'.tape=w.tape
 os:w'.os=w.os
 out:w'.output=w.output
 size:w'.heap.size=w.heap.size
 other:∀i,i≠r->w'.heap[i]?=w.heap[i]?
def DX.own{r:Nat}{es:Array aC}(h:O.own r)(t:ep r w w₁)(he:∀e∈es,Es L O e):DX L O w w₁ es:=
 ⟨t.tape,t.os,t.out,as9 t.size.symm,λi _ hi=>.inl (t.other i λe=>hi (e▸h)),he⟩
def ep.ya{O0:aL}(t:ep r w w₁)(h:bJ L O0 w0 O w)(hr:w0.heap.size<=r):bJ L O0 w0 O w₁:=
 ⟨h.base,h.own,⟨by have:=h.rel.le;rw[t.size];exact this,λi hi ho=>(t.other i I).trans (h.rel.blk i hi ho),λa ha=>by
   rw[<-h.rel.Hw a ha];have:=L.low a ha;have:=h.base;simp only[ad3,t.other a.block I],λa ha=>by
   rw[<-(h.rel.mn a ha).1,<-(h.rel.mn a ha).2];have:=L.J4 a ha;have:=h.base;simp only[ad3,aj2,t.other a.block I];exact⟨trivial,trivial⟩,λi c e f hi hc=>by
   obtain⟨c1,h1,e1⟩:=h.rel.sh i c e f hi hc;have:=(zaq.1 hc).1;exact⟨c1,(t.other i I).trans h1,e1⟩,λhl=>by have hlt:=(zaq.1 hl.choose_spec.choose_spec).1;obtain⟨st,sm,h1⟩:=h.rel.live hl;exact⟨st,sm,(t.other L.Wg I).trans h1⟩⟩,h.gh,h.new⟩
def ep.ob{r':Nat}{o:Obj}(t:ep r w w₁)(h:OB r' o O w)(hr:r'≠r):OB r' o O w₁:=⟨h.own,(t.other r' hr).trans h.heap⟩
section
variable {P:aB}{main:Bool}{J:Jm}{R:vn}{D:vo}{fn:ay}{Q:eK}{a:Act}
def pN(T:cy R D){x:Code}(h:cZ P main J R D fn x n₁ (bn (λO' a' w'=>cZ P main J R D fn y n₂ Q O' a' w') Q) O a w):cZ P main J R D fn (.seq x y) (n₁+n₂+1) Q O a w:=
 aM T _ h λ_ _ _ h=>h
def aO{rest:List Nat}(ho:ops[i]?=Y o)(hw:ac3 o (ai5 ops a.tmps)=Z6)
 (h:∀w₁,R O w w₁->∀K:Act->af->Prop,(∀a',D O w₁ w₁ (listed P fn a o w₁)/\bQ P main J R D fn ops rest n Q O a' w₁->K a' w₁)->uponK o a K ((ad6 a.eval o).run P w₁)):bQ P main J R D fn ops (i :: rest) (n+1) Q O a w:=
 jP ho hw λw₁ h₁=>h w₁ h₁ _ λ_ x=>⟨x.1,by rw[O.dG rfl];exact x.2⟩
def bM{rest:List Nat}(ho:ops[i]?=Y o)(hw:ac3 o (ai5 ops a.tmps)=Z6)
 (h:∀w₁,R O w w₁->∀K:Act->af->Prop,(∀a' w',D O w₁ w' (listed P fn a o w₁)/\bQ P main J R D fn ops rest n Q (O.grow w₁ w') a' w'->K a' w')->uponK o a K ((ad6 a.eval o).run P w₁)):bQ P main J R D fn ops (i :: rest) (n+1) Q O a w:=
 jP ho hw λw₁ h₁=>h w₁ h₁ _ λ_ _ x=>x
def aW(T:cy R D){c:aD}{x:Code}(hc:a.eval c=.bool t)(ht:t=Z6->cZ P main J R D fn x n₁ Q O a w)(hf:t=E->cZ P main J R D fn y n₂ Q O a w):
 cZ P main J R D fn (.cond c x y) (max n₁ n₂+1) Q O a w:=by
 refine tU T hc ?_;cases t with
 |true=>exact pL (ht rfl) (Nat.le_max_left _ _)
 |false=>exact pL (hf rfl) (Nat.le_max_right _ _)
def yK{x:Code}(h:cZ P main J (RX L) (DX L) fn x n₁ (bn (λO' a' w'=>cZ P main J (RX L) (DX L) fn y n₂ Q O' a' w') Q) O a w):cZ P main J (RX L) (DX L) fn (.seq x y) (n₁+n₂+1) Q O a w:=pN (aF L) h
def Ty{id:Nat}{c:Code}(h:cZ P main J (RX L) (DX L) fn c n (ju id Q) O a w):cZ P main J (RX L) (DX L) fn (.block id c) (n+2) Q O a w:=fP (aF L) h
def GY(h:Q O .normal a w):cZ P main J (RX L) (DX L) fn .skip 1 Q O a w:=jr (aF L) h
def xLb{l:Nat}(h:Q O .normal a w):cZ P main J (RX L) (DX L) fn (.label l) 1 Q O a w:=Nv (aF L) h
def yL(h:Q O .ret a w):cZ P main J (RX L) (DX L) fn .ret 1 Q O a w:=Vd (aF L) h
def Tz{id:Nat}(h:Q O (.exit id) a w):cZ P main J (RX L) (DX L) fn (.exit id) 1 Q O a w:=tV (aF L) h
def yc(h:Q O .normal a w):bQ P main J (RX L) (DX L) fn ops [] 1 Q O a w:=At (aF L) h
def BJ{id:Nat}(h:bQ P main J (RX L) (DX L) fn ops (List.range' 0 ops.size) n Q O a w):cZ P main J (RX L) (DX L) fn (.region id ops E) (n+1) Q O a w:=
 JY (aF L) (by rw[List.range_eq_range'];exact h)
def TE{rest:List Nat}(ho:ops[i]?=Y o:=by rfl)(hw:ac3 o (ai5 ops a.tmps)=E:=by rfl)
 (h:bQ P main J (RX L) (DX L) fn ops rest n Q O (a.put o.dst undef) w):bQ P main J (RX L) (DX L) fn ops (i :: rest) (n+1) Q O a w:=sk (aF L) ho hw h
def xCt{c:aD}{x:Code}(hc:a.eval c=.bool Z6:=by rfl)(h:cZ P main J (RX L) (DX L) fn x n Q O a w):cZ P main J (RX L) (DX L) fn (.cond c x y) (n+1) Q O a w:=tU (aF L) hc h
def xCf{c:aD}{x:Code}(hc:a.eval c=.bool E:=by rfl)(h:cZ P main J (RX L) (DX L) fn y n Q O a w):cZ P main J (RX L) (DX L) fn (.cond c x y) (n+1) Q O a w:=tU (aF L) hc h
def vu{rest:List Nat}(ho:ops[i]?=Y o:=by rfl)(hw:ac3 o (ai5 ops a.tmps)=Z6:=by rfl)
 (h:∀w₁,RX L O w w₁->(ad6 a.eval o).events P w₁ #[]=#[]/\∀K:Act->af->Prop,(∀a',bQ P main J (RX L) (DX L) fn ops rest n Q O a' w₁->K a' w₁)->uponK o a K ((ad6 a.eval o).run P w₁)):bQ P main J (RX L) (DX L) fn ops (i :: rest) (n+1) Q O a w:=
 aO ho hw λw₁ r K hK=>(h w₁ r).2 K λa' x=>hK a' ⟨by rw[listed_nil (h w₁ r).1];exact DX.idle _ _,x⟩
def Ta(p:Prop):Prop:=p
def iw(c:C1)(h:Ta C1->G1:=by intro c;(repeat(first|co_apply BJ|((first|co_apply yK|co_apply Ty|co_apply GY|co_apply xLb|co_apply yL|co_apply Tz|co_apply yc);try co_then)));exact c):G1:=h c
def jO(c:C1)(h:Ta C1->G1:=by intro c;(repeat(first|co_apply BJ|((first|co_apply yK|co_apply Ty|co_apply GY|co_apply xLb|co_apply yL|co_apply Tz|co_apply yc);try co_then)|(co_apply (TE);try walk_nrm)|(first|co_apply (xCt)|co_apply (xCf))));exact c):G1:=h c
def eG(c:C1)(h:Ta C1->G1:=by intro c;(repeat(first|co_apply BJ|(co_apply (vu);intro w1 hR;replace hS:=hS.rely hR;clear hR;refine⟨by first|(simp[go_sem];done)|simp[*,go_sem],λK z=>?_⟩;go_simp;refine z _ ?_;clear z K;try walk_nrm)|(co_apply (TE);try walk_nrm)|((first|co_apply yK|co_apply Ty|co_apply GY|co_apply xLb|co_apply yL|co_apply Tz|co_apply yc);try co_then)|(first|co_apply (xCt)|co_apply (xCf))));revert hS;revert w1;exact c):G1:=h c
def Zw(c:C1)(h:Ta C1->G1:=by intro c;(repeat(first|co_apply BJ|(co_apply (vu);intro w1 hR;replace gN:=gN.rely hR;clear hR;refine⟨by first|(simp[go_sem];done)|simp[*,go_sem],λK z=>?_⟩;go_simp;refine z _ ?_;clear z K;try walk_nrm)|(co_apply (TE);try walk_nrm)|((first|co_apply yK|co_apply Ty|co_apply GY|co_apply xLb|co_apply yL|co_apply Tz|co_apply yc);try co_then)|(first|co_apply (xCt)|co_apply (xCf))));revert gN;revert w1;exact c):G1:=h c
def yJ(c:C1)(h:Ta C1->G1:=by intro c;(repeat(first|co_apply BJ|(co_apply (vu);intro w1 hR;replace hF:=hF.rely hR;clear hR;refine⟨by first|(simp[go_sem];done)|simp[*,go_sem],λK z=>?_⟩;go_simp;refine z _ ?_;clear z K;try walk_nrm)|(co_apply (TE);try walk_nrm)|((first|co_apply yK|co_apply Ty|co_apply GY|co_apply xLb|co_apply yL|co_apply Tz|co_apply yc);try co_then)|(first|co_apply (xCt)|co_apply (xCf))));revert hF;revert w1;exact c):G1:=h c
def kJ(c:C1)(h:Ta C1->G1:=by intro c;(co_apply (vu);intro w1 hR;replace hF:=hF.rely hR;clear hR;refine⟨by first|(simp[go_sem];done)|simp[*,go_sem],λK z=>?_⟩;go_simp;refine z _ ?_;clear z K;try walk_nrm);revert hF;revert w1;exact c):G1:=h c
def Tw(c:C1)(h:Ta C1->G1:=by intro c;(co_apply (vu);intro w1 hR;replace hS:=hS.rely hR;clear hR;refine⟨by first|(simp[go_sem];done)|simp[*,go_sem],λK z=>?_⟩;go_simp;refine z _ ?_;clear z K;try walk_nrm);revert hS;revert w1;exact c):G1:=h c
def oZ(c:C1)(h:Ta C1->G1:=by intro c;(co_apply (vu);intro w1 hR;replace hG:=rl hG hR;clear hR;refine⟨by first|(simp[go_sem];done)|simp[*,go_sem],λK z=>?_⟩;go_simp;refine z _ ?_;clear z K;try walk_nrm);revert hG;revert w1;exact c):G1:=h c
def L4(c:C1)(h:Ta C1->G1:=by intro c;obtain⟨fv,hT,aP⟩:=CP hl.d hl.size;rw[hT];simp only[aP 0 _ hl.g0,aP 2 _ hl.g2,aP 3 _ hl.g3,aP 4 _ hl.g4,aP 5 _ hl.g5,aP 6 _ hl.g6];clear hT aP;revert fv;exact c):G1:=h c
def wlM(c:C1)(h:Ta C1->G1:=by intro c;obtain⟨fv,hT,aP⟩:=CP hl.d hl.size;rw[hT];simp only[aP 0 _ hl.g0,aP 2 _ hl.g2,aP 3 _ hl.g3,aP 4 _ hl.g4,aP 5 _ hl.g5,aP 6 _ hl.g6,aP 7 _ h7];clear hT aP;revert fv;exact c):G1:=h c
structure Tks(L:eI)(O0:aL)(S:af->Prop)(Q:eK)(O:aL)(w:af):Prop where
 sr:∀O x y,(∀i,O0.own i->O.own i)->S x->RX L O x y->S y
 qr:∀O a x y,Q O .normal a x->RX L O x y->Q O .normal a y
 ow:∀i,O0.own i->O.own i
 st:S w
variable {ops:Array Oper}{md:Region.Mode}{c fuel i:Nat}{O0:aL}{S:af->Prop}{listed:Array Bool}{oi:Oper}{v:aj}
def SQ(h1:∀O x y,(∀i,O0.own i->O.own i)->S x->RX L O x y->S y)(h2:∀O a x y,Q O .normal a x->RX L O x y->Q O .normal a y)(h3:∀i,O0.own i->O.own i)(h4:S w)
 (h:Tks L O0 S Q O w->kF P main J (RX L) (DX L) fn ops md c Q O0 S fuel listed O a w):kF P main J (RX L) (DX L) fn ops md c Q O0 S fuel listed O a w:=h ⟨h1,h2,h3,h4⟩
def BL(hb:Tks L O0 S Q O w)(hi:ops[i]?=Y oi)(hk:(ba3 ops && bg3 md ops listed i &&(al2 md ops listed).contains i)=Z6)(hw:ac3 oi (ai5 ops a.tmps)=Z6)
 (hy:∀O w,(∀i,O0.own i->O.own i)->S w->(∀K:Result Next->Prop,K (.ok (.value v) w)->K ((ad6 a.eval oi).run P w))/\DX L O w w (Go.Conc.listed P fn a oi w))
 (h:kF P main J (RX L) (DX L) fn ops md c Q O0 S fuel (listed.setIfInBounds i Z6) O (a.put oi.dst v) w):kF P main J (RX L) (DX L) fn ops md c Q O0 S (fuel+1) listed O a w:=by simp only[az7]at hk;exact vw (aF L) hb.sr hb.qr hi hk.1.1 hk.1.2 hk.2 (.inl ⟨hw,λO w x y=>⟨run_eq_of (hy O w x y).1,(hy O w x y).2⟩⟩) hb.ow hb.st h
def qP(hb:Tks L O0 S Q O w)(hi:ops[i]?=Y oi:=by rfl)(hk:(ba3 ops && bg3 md ops listed i &&(al2 md ops listed).contains i)=Z6:=by kernel_rfl)(hw:ac3 oi (ai5 ops a.tmps)=Z6:=by rfl)
 (hy:∀w,S w->(ad6 a.eval oi).events P w #[]=#[]/\∀K:Result Next->Prop,K (.ok (.value v) w)->K ((ad6 a.eval oi).run P w):=by intro _ hw;refine⟨by first|(simp[go_sem];done)|simp[*,go_sem],λK hK=>?_⟩;go_simp;exact hK)
 (h:kF P main J (RX L) (DX L) fn ops md c Q O0 S fuel (listed.setIfInBounds i Z6) O (a.put oi.dst v) w):kF P main J (RX L) (DX L) fn ops md c Q O0 S (fuel+1) listed O a w:=
 BL hb hi hk hw (λO w _ y=>⟨(hy w y).2,by rw[listed_nil (hy w y).1];exact DX.idle _ _⟩) h
def Zz(hb:Tks L O0 S Q O w)(hi:ops[i]?=Y oi)(hk:(ba3 ops && bg3 md ops listed i &&(al2 md ops listed).contains i)=Z6)(hw:ac3 oi (ai5 ops a.tmps)=E)
 (h:kF P main J (RX L) (DX L) fn ops md c Q O0 S fuel (listed.setIfInBounds i Z6) O (a.put oi.dst undef) w):kF P main J (RX L) (DX L) fn ops md c Q O0 S (fuel+1) listed O a w:=by simp only[az7]at hk;exact vw (aF L) hb.sr hb.qr hi hk.1.1 hk.1.2 hk.2 (.inr ⟨hw,rfl⟩) hb.ow hb.st h
end
end
section
open Go Go.Conc
section
variable {P:aB}{main:Bool}{J:Jm}{R:vn}{D:vo}{fn:ay}{Q:eK}{O:aL}{a:Act}{w:af}{n:Nat}
def Nw{args:Array aD}{ats:Array az}(hop:o.op=.call {callee:=.value x,args,argTypes:=ats})(hx:a.eval x=.func (.func f) #[] cap)
 (hf:P.funcs[f]?=Y fn') (hname:(fn'.name == "runtime.NumGoroutine")=E) (hb:fn'.body.isNone=E) (w:af):
 (ad6 a.eval o).run P w=.ok (.enter f (args.map a.eval++cap)) w/\(ad6 a.eval o).events P w #[]=#[]:=by
 have h1:¬fn'.name= "runtime.NumGoroutine" :=by simpa using hname
 have h2:¬fn'.body=F:=λe=>by rw[e]at hb;cases hb
 unfold ad6;simp[hop,resolve,Deferred.ofValue,hx,invoke,callFunc,hf,h1,h2]
def Hs(T:cy R D){rest:List Nat}{args:Array aD}{ats:Array az}{Post:aL->aj->af->Prop}
 (ho:ops[i]?=Y o) (hw:ac3 o (ai5 ops a.tmps)=Z6) (hop:o.op=.call {callee:=.value x,args,argTypes:=ats}) (hx:a.eval x=.func (.func f) #[] cap)
 (hcall:bG P main J R D f (args.map a.eval++cap) nf O w Post) (hnext:∀O' v w',Post O' v w'->bQ P main J R D fn ops rest n Q O' (a.put o.dst v) w'):bQ P main J R D fn ops (i :: rest) (n+nf+Er) Q O a w:=by
 intro b k cs Stop m hb hk hc;obtain⟨fn',c,n₀,dn,hle,hf,hname,hbody,hwp⟩:=hcall;have iu:∀v,(b.at a (.inRegion ops (i :: rest):: k)).finish v=b.at (a.put o.dst v) (.inRegion ops rest :: k):=λv=>by rw[Frame.finish_at,ho];rfl
 have e:(m O.fu+n+n₀+dn+5)+1<=m O.fu+(n+nf+Er):=by unfold Er;omega
 refine cN.mono ?_ e;have hbn:fn'.body.isNone=E:=by rw[hbody];rfl
 refine cN.step rfl λw₁ h₁=>?_;obtain⟨hr,hev⟩:=Nw (P:=P) hop hx hf hname hbn w₁;rw[stepG_enter ho hw hk hr,enter_at _ hf hbody];have hl:listed P b.fn a o w₁=#[]:=listed_nil hev;rw[hl];refine⟨T.idle _ _,?_⟩;rw[O.dG rfl];refine cN.rely T (cN.body (m:=λj=>m j+n) T hf hwp λO' v w' hp=>?_) h₁;rw[iu];exact hnext O' v w' hp b k cs Stop m hb hk hc
end
end
section
open Go Go.Conc Go.ConcM
def x8:Lk->Nat->Nat
 |.vk,m=>if m=1 then 0 else 1
 |.hold,m=>if m=5\/m=1 then 1 else 0
 |.out,m=>if m=1 then 1 else 0
 |_,_=>1
def gW:Lk->Nat
 |.hold=>5
 |.out=>1
 |_=>0
def gE(T:Lk)(m:Nat)(x:Wd)(v:Nat):List ((Lk×Nat)×Wd×Nat):=
 if T=.vk/\m=1 then [((.vk,0),x,v)]
 else if T=.hold/\2<=m then [((.hold,m-1),x,v)]
 else if T=.out/\m=1 then [((.out,0),x,v)]
 else(iq T x v).map λr=>((r.1,gW r.1),r.2)
structure eE(pb:Nat)(x:Wd)(v:Nat)(w:af):Prop where
 word:w.cell? ⟨pb,0,F⟩=Y (.int .i32 (x.val:Nat))
 sema:w.cell? ⟨pb,1,F⟩=Y (.int .u32 (v:Nat))
 thaw:∀o,w.frozen? ⟨pb,o,F⟩=E
structure bA(pb:Nat)(w w':af):Prop where
 tape:w'.tape=w.tape
 output:w'.output=w.output
 os:OsLater w.os w'.os
 size:w'.heap.size=w.heap.size
 other:∀i,i≠pb->w'.heap[i]?=w.heap[i]?
 here:∀c e f,w.heap[pb]?=Y (.cells c e f)->∃c',w'.heap[pb]?=Y (.cells c' e f)/\c'.size=c.size/\∀j,2<=j->c'[j]?=c[j]?
def bA.refl(pb:Nat)(w:af):bA pb w w:=⟨rfl,rfl,.refl _,rfl,λ_ _=>rfl,λc _ _ h=>⟨c,h,rfl,λ_ _=>rfl⟩⟩
def bA.later(pb:Nat)(w:af):bA pb w w.later:=⟨rfl,rfl,⟨w.tick,rfl⟩,rfl,λ_ _=>rfl,λc _ _ h=>⟨c,h,rfl,λ_ _=>rfl⟩⟩
def bA.asked(pb:Nat)(w:af):bA pb w w.asked:=⟨rfl,rfl,.refl _,rfl,λ_ _=>rfl,λc _ _ h=>⟨c,h,rfl,λ_ _=>rfl⟩⟩
def bA.set(pb:Nat)(w:af)(o:Nat)(v:aj)(ho:o<2):bA pb w (w.setCell ⟨pb,o,F⟩ v):=by have A:=aside_setCell w ⟨pb,o,F⟩ v;refine⟨A.tape,A.output,by rw[A.os];exact .refl _,A.size,λi hi=>A.block i hi,λc e f h=>?_⟩;refine⟨c.setIfInBounds o v,by simp[World.setCell,ak5,h],XI,λj hj=>?_⟩;rw[Array.getElem?_setIfInBounds_ne I]
def eE.nZ{x y:Wd}{v:Nat}{w:af}(h:eE pb x v w):eE pb y v (w.setCell ⟨pb,0,F⟩ (.int .i32 (y.val:Nat))):=
 ⟨au6 _ _ _ h.word,by rw[bc5 _ _ _ _ XI];exact h.sema,λo=>by rw[ar3];exact h.thaw o⟩
def eE.tP{x:Wd}{v:Nat}{w:af}(h:eE pb x v w):eE pb x u (w.setCell ⟨pb,1,F⟩ (.int .u32 (u:Nat))):=
 ⟨by rw[bc5 _ _ _ _ XI];exact h.word,au6 _ _ _ h.sema,λo=>by rw[ar3];exact h.thaw o⟩
def Bk2(pb:Nat)(e:aC):Prop:=
 e.loc=.mark .disable\/e.loc=.mark .enable\/(∃a,(e.loc=.mark (.acquire a)\/e.loc=.mark (.releaseMerge a))/\a.block=pb)\/(∃a wr,e=⟨.cell a,wr,Z6⟩/\a.block=pb/\a.off<2/\a.spot=F)
structure Xa(P:aB)(pb:Nat)(T:Lk)(m:Nat)(g g':au)(w w':af)(es:Array aC)(r:(Lk×Nat)×Wd×Nat):Prop where
 rep:eE pb r.2.1 r.2.2 w'
 Kw:bA pb w w'
 bk:∀e∈es,Bk2 pb e
 deaf:ad2 (x8 T m) es=x8 r.1.1 r.1.2
 run:g'.status=.running
 aeR:T=.tok\/T=.hand->mayWake P g=Z6
def jo(P:aB)(main:Bool)(pb:Nat):Jm where
 to O g w K:=∀T m x v,O.pos=.lk T m->eE pb x v w->x.c<=1000->v<=1000->(∀r∈gE T m x v,r.1.1≠.bad)->
  (gE T m x v= []->(∃sv ws,T=.iJ sv ws)/\g.offers=F/\stepG P main g w=.go {g with status:=.blocked} w #[])/\
  (gE T m x v≠ []->∃g' w' es,stepG P main g w=.go g' w' es/\∃r∈gE T m x v,Xa P pb T m g g' w w' es r/\K O.own (.lk r.1.1 r.1.2) g' w')
 mono:=by intro O g w K K' hK h T m x v h1 h2 h3 h4 h5;refine⟨(h T m x v h1 h2 h3 h4 h5).1,λhne=>?_⟩;obtain⟨g',w',es,h6,r,h7,h8,h9⟩:=(h T m x v h1 h2 h3 h4 h5).2 hne;exact⟨g',w',es,h6,r,h7,h8,hK _ _ _ _ h9⟩
section
variable {P:aB}{main:Bool}{L:eI}{pb:Nat}{fn:ay}{Q:eK}{O:aL}{a:Act}{w:af}{n:Nat}{ops:Array Oper}{i:Nat}{rest:List Nat}{o:Oper}{T:Lk}{m:Nat}
def l9(hp:O.pos=.lk T m)
 (h:∀(b:ak) (k:List Item) (cs:List ak),b.fn=fn->b.kind≠.early->∀w₁ x v,RX L O w w₁->eE pb x v w₁->x.c<=1000->v<=1000->(∀r∈gE T m x v,r.1.1≠.bad)->
   (gE T m x v= []->(∃sv ws,T=.iJ sv ws)/\stepG P main (G (b.at a (.inRegion ops (i :: rest):: k)) cs) w₁=.go {G (b.at a (.inRegion ops (i :: rest):: k)) cs with status:=.blocked} w₁ #[])/\
   (gE T m x v≠ []->∃a' w' es r n',stepG P main (G (b.at a (.inRegion ops (i :: rest):: k)) cs) w₁=.go (G (b.at a' (.inRegion ops rest :: k)) cs) w' es/\r∈gE T m x v/\eE pb r.2.1 r.2.2 w'/\bA pb w₁ w'/\(∀e∈es,Bk2 pb e)/\ad2 (x8 T m) es=x8 r.1.1 r.1.2/\
     (T=.tok\/T=.hand->mayWake P (G (b.at a (.inRegion ops (i :: rest):: k)) cs)=Z6)/\bQ P main (jo P main pb) (RX L) (DX L) fn ops rest n' Q (O.jump O.own (.lk r.1.1 r.1.2)) a' w')):
 bQ P main (jo P main pb) (RX L) (DX L) fn ops (i :: rest) n Q O a w:=by refine qL λb k cs hb hk w₁ h₁ T' m' x v rz h2 h3 h4 h5=>?_;rw[hp]at rz;cases rz;obtain⟨q1,q2⟩:=h b k cs hb hk w₁ x v h₁ h2 h3 h4 h5;refine⟨λe=>⟨(q1 e).1,rfl,(q1 e).2⟩,λe=>?_⟩;obtain⟨a',w',es,r,n',e1,e2,e3,e4,e5,e6,e7,e8⟩:=q2 e;exact⟨_,w',es,e1,r,e2,⟨e3,e4,e5,e6,rfl,e7⟩,rest,a',n',rfl,e8⟩
def j9(hp:O.pos=.lk T m){T':Lk}(qM:∀x v,gE T m x v= [((T',m'),x,v)])(hT:T≠.tok/\T≠.hand)
 (hs:∀(b:ak) (k:List Item) (cs:List ak),b.fn=fn->b.kind≠.early->∀w₁,stepG P main (G (b.at a (.inRegion ops (i :: rest):: k)) cs) w₁=.go (G (b.at a' (.inRegion ops rest :: k)) cs) w₁ es)
 (hes:∀e∈es,Bk2 pb e) (hd:ad2 (x8 T m) es=x8 T' m') {n':Nat}
 (h:∀w₁,RX L O w w₁->bQ P main (jo P main pb) (RX L) (DX L) fn ops rest n' Q (O.jump O.own (.lk T' m')) a' w₁):
 bQ P main (jo P main pb) (RX L) (DX L) fn ops (i :: rest) n Q O a w:=by refine l9 hp λb k cs hb hk w₁ x v hR hM h3 h4 h5=>?_;rw[qM];refine⟨XI,λ_=>⟨a',w₁,es,((T',m'),x,v),n',hs b k cs hb hk w₁,XI,hM,bA.refl _ _,hes,hd,λh=>(h.elim hT.1 hT.2).elim,h w₁ hR⟩⟩
def bk_dis(pb:Nat):∀e∈#[(⟨.mark .disable,E,Z6⟩:aC)],Bk2 pb e:=by intro e he;simp at he;subst he;exact .inl rfl
def bk_en(pb:Nat):∀e∈#[(⟨.mark .enable,E,Z6⟩:aC)],Bk2 pb e:=by intro e he;simp at he;subst he;exact .inr (.inl rfl)
def OM(pb:Nat):∀e∈#[(⟨.mark (.acquire ⟨pb,0,F⟩),E,Z6⟩:aC)],Bk2 pb e:=by intro e he;simp at he;subst he;exact .inr (.inr (.inl ⟨_,.inl rfl,rfl⟩))
def Xb(pb:Nat):∀e∈#[(⟨.mark (.releaseMerge ⟨pb,0,F⟩),E,Z6⟩:aC)],Bk2 pb e:=by intro e he;simp at he;subst he;exact .inr (.inr (.inl ⟨_,.inr rfl,rfl⟩))
def aeS(pb o:Nat)(ho:o<2):∀e∈#[(⟨.cell ⟨pb,o,F⟩,E,Z6⟩:aC)],Bk2 pb e:=by intro e he;simp at he;subst he;exact .inr (.inr (.inr ⟨_,_,rfl,rfl,ho,rfl⟩))
def bk_rw(pb o:Nat)(ho:o<2):∀e∈#[(⟨.cell ⟨pb,o,F⟩,E,Z6⟩:aC),⟨.cell ⟨pb,o,F⟩,Z6,Z6⟩],Bk2 pb e:=by intro e he;simp at he;rcases he with rfl|rfl<;>exact .inr (.inr (.inr ⟨_,_,rfl,rfl,ho,rfl⟩))
def bk_sem(pb o:Nat)(ho:o<2):∀e∈semEvents ⟨pb,o,F⟩,Bk2 pb e:=by
 intro e he;simp[semEvents]at he;rcases he with rfl|rfl|rfl|rfl
 ·exact .inl rfl
 ·exact .inr (.inr (.inr ⟨_,_,rfl,rfl,ho,rfl⟩))
 ·exact .inr (.inr (.inr ⟨_,_,rfl,rfl,ho,rfl⟩))
 ·exact .inr (.inl rfl)
def tQ(hp:O.pos=.lk T m)(hT:T≠.tok/\T≠.hand)(N8:x8 T m=1){ats:Array az}{y z:aD}(ho:ops[i]?=Y o)(hw:ac3 o (ai5 ops a.tmps)=Z6)(hop:o.op=.call {callee:=.value (.func f),args:=#[x,y,z],argTypes:=ats})
 (hf:P.funcs[f]?=Y fn') (hname:(fn'.name == "runtime.NumGoroutine")=E) (hb:fn'.body.isNone=Z6) (hn:ai6 fn'=F) (he:al9 fn'=Y (Extern.Atomic.casT (.int .i32)))
 {old nw:Wd} (hx:a.eval x=.pointer (Y ⟨pb,0,F⟩)) (hy:a.eval y=.int .i32 (old.val:Nat)) (hz:a.eval z=.int .i32 (nw.val:Nat)) {T1 T2:Lk} {n1 n2:Nat}
 (aeT:∀v,(∀r∈gE T m old v,r.1.1≠.bad)->gE T m old v= [((T1,gW T1),nw,v)]) (aeU:∀x' v,x'≠old->(∀r∈gE T m x' v,r.1.1≠.bad)->gE T m x' v= [((T2,gW T2),x',v)]) (h1:x8 T1 (gW T1)=1) (h2:x8 T2 (gW T2)=1)
 (k1:∀w₁,RX L O w w₁->(∀v,eE pb old v w₁->(∀r∈gE T m old v,r.1.1≠.bad)->bQ P main (jo P main pb) (RX L) (DX L) fn ops rest n1 Q (O.jump O.own (.lk T1 (gW T1))) (a.put o.dst (.bool Z6)) (w₁.setCell ⟨pb,0,F⟩ (.int .i32 (nw.val:Nat)))))
 (k2:∀w₁,RX L O w w₁->(∀x' v,x'≠old->eE pb x' v w₁->(∀r∈gE T m x' v,r.1.1≠.bad)->bQ P main (jo P main pb) (RX L) (DX L) fn ops rest n2 Q (O.jump O.own (.lk T2 (gW T2))) (a.put o.dst (.bool E)) w₁)):
 bQ P main (jo P main pb) (RX L) (DX L) fn ops (i :: rest) n Q O a w:=by
 refine l9 hp λb k cs hb' hk w₁ x' v hR hM h3 h4 h5=>?_;by_cases e:x'=old
 ·subst e;rw[aeT v h5];refine⟨XI,λ_=>⟨_,_,_,((T1,gW T1),nw,v),n1,stepG_cas_hit ho hw hk hop hf hname hb hn .i32 he hx hy hz hM.word (hM.thaw 0),XI,hM.nZ,bA.set _ _ _ _ I,bk_rw pb 0 I,?_,λh=>(h.elim hT.1 hT.2).elim,k1 w₁ hR v hM h5⟩⟩;rw[N8,h1];rfl
 ·rw[aeU x' v e h5];refine⟨XI,λ_=>⟨_,_,_,((T2,gW T2),x',v),n2,stepG_cas_miss ho hw hk hop hf hname hb hn .i32 he hx hy hz hM.word (hM.thaw 0) (λq=>e (Wd.val_inj (by exact_mod_cast q))),XI,hM,bA.refl _ _,aeS pb 0 I,?_,λh=>(h.elim hT.1 hT.2).elim,k2 w₁ hR x' v e hM h5⟩⟩;rw[N8,h2];rfl
def qN(hp:O.pos=.lk T m)(hT:T≠.tok/\T≠.hand)(N8:x8 T m=1){ats:Array az}{y:aD}(ho:ops[i]?=Y o)(hw:ac3 o (ai5 ops a.tmps)=Z6)(hop:o.op=.call {callee:=.value (.func f),args:=#[x,y],argTypes:=ats})
 (hf:P.funcs[f]?=Y fn') (hname:(fn'.name == "runtime.NumGoroutine")=E) (hb:fn'.body.isNone=Z6) (hn:ai6 fn'=F) (he:al9 fn'=Y (Extern.Atomic.update (Op.intArith .add) .i32 Z6))
 {d:Int} (hx:a.eval x=.pointer (Y ⟨pb,0,F⟩)) (hy:a.eval y=.int .i32 d) {wv:Wd->Lk} {G':Wd->Wd} {n1:Nat}
 (qM:∀x' v,x'.c<=1000->(∀r∈gE T m x' v,r.1.1≠.bad)->gE T m x' v= [((wv x',gW (wv x')),G' x',v)]/\IntKind.i32.wrap ((x'.val:Nat)+d)=((G' x').val:Nat)) (h1:∀x',x8 (wv x') (gW (wv x'))=1)
 (k1:∀w₁,RX L O w w₁->(∀x' v,eE pb x' v w₁->x'.c<=1000->(∀r∈gE T m x' v,r.1.1≠.bad)->bQ P main (jo P main pb) (RX L) (DX L) fn ops rest n1 Q (O.jump O.own (.lk (wv x') (gW (wv x')))) (a.put o.dst (.int .i32 ((G' x').val:Nat))) (w₁.setCell ⟨pb,0,F⟩ (.int .i32 ((G' x').val:Nat))))):
 bQ P main (jo P main pb) (RX L) (DX L) fn ops (i :: rest) n Q O a w:=by refine l9 hp λb k cs hb' hk w₁ x' v hR hM h3 h4 h5=>?_;obtain⟨e1,e2⟩:=qM x' v h3 h5;rw[e1];have hst:=stepG_add_atomic (main:=main) (b:=b) (kk:=k) (cs:=cs) (rest:=rest) ho hw hk hop hf hname hb hn .i32 he hx hy hM.word (hM.thaw 0);rw[e2]at hst;refine⟨XI,λ_=>⟨_,_,_,((wv x',gW (wv x')),G' x',v),n1,hst,XI,hM.nZ,bA.set _ _ _ _ I,bk_rw pb 0 I,?_,λh=>(h.elim hT.1 hT.2).elim,k1 w₁ hR x' v hM h3 h5⟩⟩;rw[N8,h1];rfl
def vm(hp:O.pos=.lk T m)(hT:T≠.tok/\T≠.hand)(ho:ops[i]?=Y o)(hw:ac3 o (ai5 ops a.tmps)=Z6)
 (hrun:∀w₁ x',w₁.cell? ⟨pb,0,F⟩=Y (.int .i32 x')->(ad6 a.eval o).run P w₁=.ok (.value (.int .i32 x')) w₁) (hev:∀w₁ x',w₁.cell? ⟨pb,0,F⟩=Y (.int .i32 x')->listed P fn a o w₁=#[]) {wv:Wd->Lk} {n1:Nat} {mm:Wd->Nat}
 (qM:∀x' v,x'.c<=1000->(∀r∈gE T m x' v,r.1.1≠.bad)->gE T m x' v= [((wv x',mm x'),x',v)]) (h1:∀x',x8 (wv x') (mm x')=x8 T m)
 (k1:∀w₁,RX L O w w₁->(∀x' v,eE pb x' v w₁->x'.c<=1000->(∀r∈gE T m x' v,r.1.1≠.bad)->bQ P main (jo P main pb) (RX L) (DX L) fn ops rest n1 Q (O.jump O.own (.lk (wv x') (mm x'))) (a.put o.dst (.int .i32 (x'.val:Nat))) w₁)):
 bQ P main (jo P main pb) (RX L) (DX L) fn ops (i :: rest) n Q O a w:=by refine l9 hp λb k cs hb' hk w₁ x' v hR hM h3 h4 h5=>?_;rw[qM x' v h3 h5];have hst:=stepG_value (main:=main) (b:=b) (k:=k) (cs:=cs) (rest:=rest) ho hw hk (hrun w₁ _ hM.word);rw[hb',hev w₁ _ hM.word]at hst;refine⟨XI,λ_=>⟨_,_,_,((wv x',mm x'),x',v),n1,hst,XI,hM,bA.refl _ _,XI,?_,λh=>(h.elim hT.1 hT.2).elim,k1 w₁ hR x' v hM h3 h5⟩⟩;rw[h1];rfl
def LC(hp:O.pos=.lk T m)(hT:T=.iJ sv ws)(hm:m=0){ats:Array az}(ho:ops[i]?=Y o)(hw:ac3 o (ai5 ops a.tmps)=Z6)(hop:o.op=.call {callee:=.value (.func f),args:=Sn,argTypes:=ats})
 (hf:P.funcs[f]?=Y fn') (hname:(fn'.name == "runtime.NumGoroutine")=E) (hb:fn'.body.isNone=Z6) (hn:ai6 fn'=F) (he:al9 fn'=Y Extern.Sync.semacquire)
 (hx:(Sn.map a.eval)[0]?=Y (.pointer (Y ⟨pb,1,F⟩))) {n1:Nat}
 (k1:∀w₁,RX L O w w₁->(∀x' v,eE pb x' (v+1) w₁->bQ P main (jo P main pb) (RX L) (DX L) fn ops rest n1 Q (O.jump O.own (.lk (if sv then .wk Z6 ws else .t2 ws) 0)) (a.put o.dst (.tuple #[])) (w₁.setCell ⟨pb,1,F⟩ (.int .u32 (v:Nat))))):
 bQ P main (jo P main pb) (RX L) (DX L) fn ops (i :: rest) n Q O a w:=by
 subst hT hm;refine l9 hp λb k cs hb' hk w₁ x' v hR hM h3 h4 h5=>?_;cases v with
 |zero=>exact⟨λ_=>⟨⟨_,_,rfl⟩,stepG_semacquire_wait ho hw hop hf hname hb hn he hx hM.sema⟩,λh=>by simp[gE,iq]at h⟩
 |succ v=>
  refine⟨λh=>by simp[gE,iq]at h,λ_=>?_⟩;have hst:=stepG_semacquire (main:=main) (b:=b) (kk:=k) (cs:=cs) (rest:=rest) ho hw hk hop hf hname hb hn he hx hM.sema Yn (hM.thaw 1);have e:(((v+1:Nat):Int)-1)=((v:Nat):Int):=I
  rw[e]at hst;refine⟨_,_,_,((if sv then .wk Z6 ws else .t2 ws,0),x',v),n1,hst,by cases sv<;>simp[gE,iq,gW],hM.tP,bA.set _ _ _ _ I,bk_sem pb 1 I,?_,λh=>by simp at h,k1 w₁ hR x' v hM⟩;cases sv<;>rfl
def BH(hp:O.pos=.lk T m)(hT:T=.tok\/T=.hand)(hm:m=0){ats:Array az}(ho:ops[i]?=Y o)(hw:ac3 o (ai5 ops a.tmps)=Z6)(hop:o.op=.call {callee:=.value (.func f),args:=Sn,argTypes:=ats})
 (hf:P.funcs[f]?=Y fn') (hname:(fn'.name == "runtime.NumGoroutine")=E) (hb:fn'.body.isNone=Z6) (hn:ai6 fn'=F) (he:al9 fn'=Y Extern.Sync.semrelease)
 (hx:(Sn.map a.eval)[0]?=Y (.pointer (Y ⟨pb,1,F⟩))) {n1:Nat}
 (k1:∀w₁,RX L O w w₁->(∀x' v,eE pb x' v w₁->bQ P main (jo P main pb) (RX L) (DX L) fn ops rest n1 Q (O.jump O.own (.lk .out 1)) (a.put o.dst (.tuple #[])) (w₁.setCell ⟨pb,1,F⟩ (.int .u32 (v+1:Nat))))):
 bQ P main (jo P main pb) (RX L) (DX L) fn ops (i :: rest) n Q O a w:=by
 subst hm;refine l9 hp λb k cs hb' hk w₁ x' v hR hM h3 h4 h5=>?_;have e1:gE T 0 x' v= [((.out,1),x',v+1)]:=by rcases hT with rfl|rfl<;>simp[gE,iq,gW]
 rw[e1];have hst:=stepG_semrelease (main:=main) (b:=b) (kk:=k) (cs:=cs) (rest:=rest) ho hw hk hop hf hname hb hn he hx hM.sema (hM.thaw 1);have e:IntKind.u32.wrap (((v:Nat):Int)+1)=((v+1:Nat):Int):=by have Xc:IntKind.u32.bits=32:=rfl;simp[IntKind.wrap,Xc];omega
 rw[e]at hst;refine⟨XI,λ_=>⟨_,_,_,((.out,1),x',v+1),n1,hst,XI,hM.tP,bA.set _ _ _ _ I,bk_sem pb 1 I,by rcases hT with rfl|rfl<;>rfl,λ_=>?_,k1 w₁ hR x' v hM⟩⟩;have ef:(b.at a (.inRegion ops (i :: rest):: k)).eval (.func f)=.func (.func f) #[] #[]:=rfl;have fG:fn'.body=F:=by simpa using hb
 simp[mayWake,G,Frame.at,ho,hop]at ef⊢;simp[ef,hf,fG]
def BI(hp:O.pos=.lk T m)(hT:T≠.tok/\T≠.hand){ats:Array az}(ho:ops[i]?=Y o)(hw:ac3 o (ai5 ops a.tmps)=Z6)(hop:o.op=.call {callee:=.value (.func f),args:=Sn,argTypes:=ats})
 (hf:P.funcs[f]?=Y fn') (hname:(fn'.name == "runtime.NumGoroutine")=E) (hb:fn'.body.isNone=Z6) (hn:ai6 fn'=F) (he:al9 fn'=Y Extern.OsHooks.nano) (hq:fn'.norace=Z6)
 {wv:Int->Lk} (qM:∀x' v t,((wv t,0),x',v)∈gE T m x' v) (h1:∀t,x8 (wv t) 0=x8 T m) {n1:Nat}
 (k1:∀w₁,RX L O w w₁->∀t:Int,bQ P main (jo P main pb) (RX L) (DX L) fn ops rest n1 Q (O.jump O.own (.lk (wv t) 0)) (a.put o.dst (.int .i64 t)) w₁.later):
 bQ P main (jo P main pb) (RX L) (DX L) fn ops (i :: rest) n Q O a w:=by refine l9 hp λb k cs hb' hk w₁ x' v hR hM h3 h4 h5=>?_;refine⟨λe=>absurd (qM x' v 0) (by rw[e];simp),λ_=>?_⟩;refine⟨_,_,_,((wv ((w₁.os.mono+w₁.tick:Nat):Int),0),x',v),n1,stepG_nanotime ho hw hk hop hf hname hb hn he hq,qM x' v _,⟨hM.word,hM.sema,hM.thaw⟩,bA.later _ _,XI,?_,λh=>(h.elim hT.1 hT.2).elim,k1 w₁ hR _⟩;rw[h1];rfl
end
end
section
open Go
def or8(n m:Nat)(hm:m<8):n |||m=8*(n / 8)+(n % 8 |||m):=by
 have h1:(n |||m)/ 2 ^ 3=n / 2 ^ 3 |||m / 2 ^ 3:=Nat.or_div_two_pow;have h2:(n |||m)% 2 ^ 3=n % 2 ^ 3 |||m % 2 ^ 3:=Nat.or_mod_two_pow;have h3:m / 2 ^ 3=0:=I
 have h4:m % 2 ^ 3=m:=I
 rw[h3,Nat.or_zero]at h1;rw[h4]at h2;have:=ba5 (n |||m) (2 ^ 3);simp only[show (2:Nat)^ 3=8 from rfl]at *;omega
def aeQ(n m:Nat)(hm:m<8):n &&& m=(n % 8)&&& m:=by
 have h1:(n &&& m)/ 2 ^ 3=n / 2 ^ 3 &&& m / 2 ^ 3:=Nat.and_div_two_pow;have h2:(n &&& m)% 2 ^ 3=n % 2 ^ 3 &&& m % 2 ^ 3:=Nat.and_mod_two_pow;have h3:m / 2 ^ 3=0:=I
 have h4:m % 2 ^ 3=m:=I
 rw[h3,Nat.and_zero]at h1;rw[h4]at h2;have:=ba5 (n &&& m) (2 ^ 3);simp only[show (2:Nat)^ 3=8 from rfl]at *;omega
def wrap32(h:n<2147483648):IntKind.i32.wrap (n:Int)=(n:Int):=by have hb:IntKind.i32.bits=32:=rfl;simp[IntKind.wrap,hb];omega
def ofInt32(n:Nat):ad0 32 (n:Int)=BitVec.ofNat 32 n:=XI
def Ts(hn:n<1073741824)(hm:m<8):bits .or .i32 (n:Int) (m:Int)=((8*(n / 8)+(n % 8 |||m):Nat):Int):=by
 show IntKind.i32.wrap (((ad0 32 (n:Int)|||ad0 32 (m:Int)).toNat:Nat):Int)=_;have e:(ad0 32 (n:Int)|||ad0 32 (m:Int)).toNat=n |||m:=by rw[ofInt32,ofInt32,BitVec.toNat_or,ap7,ap7,zas I,zas I]
 rw[e,or8 n m hm];have:n % 8 |||m<8:=Nat.or_lt_two_pow (n:=3) I I;exact wrap32 I
def OJ(hn:n<1073741824)(hm:m<8):bits .and .i32 (n:Int) (m:Int)=((n % 8 &&& m:Nat):Int):=by
 show IntKind.i32.wrap (((ad0 32 (n:Int)&&& ad0 32 (m:Int)).toNat:Nat):Int)=_;have e:(ad0 32 (n:Int)&&& ad0 32 (m:Int)).toNat=n &&& m:=by rw[ofInt32,ofInt32,BitVec.toNat_and,ap7,ap7,zas I,zas I]
 rw[e,aeQ n m hm];have:n % 8 &&& m<=m:=Nat.and_le_right;exact wrap32 I
def CH(hn:n<1073741824):bits .andNot .i32 (n:Int) 2=((8*(n / 8)+(n % 8 &&& 5):Nat):Int):=by
 show IntKind.i32.wrap (((ad0 32 (n:Int)&&& ~~~ ad0 32 (2:Int)).toNat:Nat):Int)=_;have e2:ad0 32 (2:Int)=BitVec.ofNat 32 2:=ofInt32 2;have e:(ad0 32 (n:Int)&&& ~~~ ad0 32 (2:Int)).toNat=n &&& 4294967293:=by rw[ofInt32,e2,BitVec.toNat_and,BitVec.toNat_not,ap7,ap7,zas I]
 rw[e];have h1:(n &&& 4294967293)/ 2 ^ 3=n / 2 ^ 3 &&& 4294967293 / 2 ^ 3:=Nat.and_div_two_pow;have h2:(n &&& 4294967293)% 2 ^ 3=n % 2 ^ 3 &&& 4294967293 % 2 ^ 3:=Nat.and_mod_two_pow;have h3:4294967293 / 2 ^ 3=2 ^ 29-1:=Yo
 have h4:4294967293 % 2 ^ 3=5:=Yo
 rw[h3,Nat.and_two_pow_sub_one_eq_mod,zas I]at h1;rw[h4]at h2;have h5:=ba5 (n &&& 4294967293) (2 ^ 3);have h6:n % 8 &&& 5<=5:=Nat.and_le_right;simp only[show (2:Nat)^ 3=8 from rfl]at h1 h2 h5;have h7:n &&& 4294967293=8*(n / 8)+(n % 8 &&& 5):=I
 rw[h7];exact wrap32 I
def Wd.CI(x:Wd):x.val / 8=x.c:=by obtain⟨l,w,s,c⟩:=x;cases l<;>cases w<;>cases s<;>simp[Wd.val,b1]<;>omega
def Wd.val_mod(x:Wd):x.val % 8=b1 x.l+2*b1 x.w+4*b1 x.s:=by obtain⟨l,w,s,c⟩:=x;cases l<;>cases w<;>cases s<;>simp[Wd.val,b1]<;>omega
def Wd.sw{x:Wd}(h:x.c<=1002):x.val<8100:=by obtain⟨l,w,s,c⟩:=x;cases l<;>cases w<;>cases s<;>simp[Wd.val,b1]at*<;>omega
def BG{x:Wd}(h:x.c<=1002)(m:Nat)(hm:m<8):bits .and .i32 (x.val:Nat) (m:Nat)=(((b1 x.l+2*b1 x.w+4*b1 x.s)&&& m:Nat):Int):=by rw[OJ (by have:=Wd.sw h;omega) hm,x.val_mod]
def OK{x:Wd}(h:x.c<=1002):bits .and .i32 (x.val:Nat) 1=((b1 x.l:Nat):Int):=by have:=BG h 1 I;obtain⟨l,w,s,c⟩:=x;cases l<;>cases w<;>cases s<;>simpa[b1]using this
def OL{x:Wd}(h:x.c<=1002):bits .and .i32 (x.val:Nat) 2=((2*b1 x.w:Nat):Int):=by have:=BG h 2 I;obtain⟨l,w,s,c⟩:=x;cases l<;>cases w<;>cases s<;>simpa[b1]using this
def WW{x:Wd}(h:x.c<=1002):bits .and .i32 (x.val:Nat) 3=((b1 x.l+2*b1 x.w:Nat):Int):=by have:=BG h 3 I;obtain⟨l,w,s,c⟩:=x;cases l<;>cases w<;>cases s<;>simpa[b1]using this
def Ho{x:Wd}(h:x.c<=1002):bits .and .i32 (x.val:Nat) 4=((4*b1 x.s:Nat):Int):=by have:=BG h 4 I;obtain⟨l,w,s,c⟩:=x;cases l<;>cases w<;>cases s<;>simpa[b1]using this
def Hp{x:Wd}(h:x.c<=1002):bits .and .i32 (x.val:Nat) 5=((b1 x.l+4*b1 x.s:Nat):Int):=by have:=BG h 5 I;obtain⟨l,w,s,c⟩:=x;cases l<;>cases w<;>cases s<;>simpa[b1]using this
def WX{x:Wd}(h:x.c<=1002):bits .and .i32 (x.val:Nat) 7=((b1 x.l+2*b1 x.w+4*b1 x.s:Nat):Int):=by have:=BG h 7 I;obtain⟨l,w,s,c⟩:=x;cases l<;>cases w<;>cases s<;>simpa[b1]using this
def WY{x:Wd}(h:x.c<=1002)(m:Nat)(hm:m<8):bits .or .i32 (x.val:Nat) (m:Nat)=((8*x.c+((b1 x.l+2*b1 x.w+4*b1 x.s)|||m):Nat):Int):=by rw[Ts (by have:=Wd.sw h;omega) hm,x.val_mod,x.CI]
def aah{x:Wd}(h:x.c<=1002):bits .or .i32 (x.val:Nat) 1=((({x with l:=Z6}:Wd).val:Nat):Int):=by have:=WY h 1 I;obtain⟨l,w,s,c⟩:=x;cases l<;>cases w<;>cases s<;>simp[b1,Wd.val]at this⊢<;>rw[this]<;>omega
def VP{x:Wd}(h:x.c<=1002):bits .or .i32 (x.val:Nat) 2=((({x with w:=Z6}:Wd).val:Nat):Int):=by have:=WY h 2 I;obtain⟨l,w,s,c⟩:=x;cases l<;>cases w<;>cases s<;>simp[b1,Wd.val]at this⊢<;>rw[this]<;>omega
def aai{x:Wd}(h:x.c<=1002):bits .or .i32 (x.val:Nat) 4=((({x with s:=Z6}:Wd).val:Nat):Int):=by have:=WY h 4 I;obtain⟨l,w,s,c⟩:=x;cases l<;>cases w<;>cases s<;>simp[b1,Wd.val]at this⊢<;>rw[this]<;>omega
def WZ{x:Wd}(h:x.c<=1002):bits .andNot .i32 (x.val:Nat) 2=((({x with w:=E}:Wd).val:Nat):Int):=by rw[CH (by have:=Wd.sw h;omega),x.val_mod,x.CI];obtain⟨l,w,s,c⟩:=x;cases l<;>cases w<;>cases s<;>simp[b1,Wd.val]<;>omega
def W9{x:Wd}(h:x.c<=1002):IntKind.i32.wrap ((x.val:Nat)+8)=((({x with c:=x.c+1}:Wd).val:Nat):Int):=by
 have h1:=Wd.sw h;have h2:=wrap32 (n:=x.val+8) I;have h3:({x with c:=x.c+1}:Wd).val=x.val+8:=by simp[Wd.val];omega
 rw[h3];push_cast at h2⊢;exact h2
def EK(x:Wd):((x.val:Nat):Int)/ 2 ^(3:Int).toNat=((x.c:Nat):Int):=by have:=x.CI;show ((x.val:Nat):Int)/ 8=_;omega
end
section
open Go Go.Conc Go.ConcM
structure TC(L:eI)(pb:Nat):Prop where
 fx:¬L.Fx pb
 fc:∀a,L.og a->a.block=pb->2<=a.off
 mn:∀a,L.Mn a->a.block≠pb
 sh:L.Sh pb
 lo:pb<L.N
 wg:L.Wg≠pb
section
variable {P:aB}{main:Bool}{L:eI}{pb:Nat}{O O0:aL}{w w0 w₁ w':af}
def RX.TD(hL:TC L pb)(hO:¬O.own pb)(hb:∃c t f,w.heap[pb]?=Y (.cells c t f))(e:bA pb w w'):RX L O w w':=by
 obtain⟨c,t,f,hb⟩:=hb;obtain⟨c',h1,h2,h3⟩:=e.here c t f hb;have Hw:∀a:aA,(a.block=pb->2<=a.off)->w'.cell? a=w.cell? a:=λa ha=>by
  by_cases h:a.block=pb
  ·simp[ad3,h,hb,h1,h3 a.off (ha h)]
  ·simp[ad3,e.other a.block h]
 refine⟨as9 e.size.symm,λi _ hi=>e.other i λh=>?_,λa ha=>Hw a (hL.fc a ha),λa ha=>?_,λi c t f hi hc=>?_,λ⟨st,sm,h⟩=>⟨st,sm,(e.other _ hL.wg).trans h⟩⟩
 ·subst h;exact hi.elim hO hL.fx
 ·have:=hL.mn a ha;exact⟨Hw a λh=>absurd h this,by simp[aj2,e.other a.block this]⟩
 ·by_cases h:i=pb
  ·subst h;obtain⟨c',h1,h2,_⟩:=e.here c t f hc;exact⟨c',h1,h2⟩
  ·exact⟨c,(e.other i h).trans hc,rfl⟩
structure dK(L:eI)(O0:aL)(w0:af)(pb k:Nat)(T:Lk)(m:Nat)(O:aL)(w:af):Prop where
 fr:rA L O0 w0 O w
 ok:TC L pb
 pos:O.pos=.lk T m
 no:¬O.own pb
 fu:O.fu<=k
 sh:∃c t f,w.heap[pb]?=Y (.cells c t f)/\0<c.size
def dK.rely{k:Nat}{T:Lk}{m:Nat}(h:dK L O0 w0 pb k T m O w)(r:RX L O w w₁):dK L O0 w0 pb k T m O w₁:=
 ⟨h.fr.rely r,h.ok,h.pos,h.no,h.fu,by obtain⟨c,t,f,h1,h2⟩:=h.sh;obtain⟨c',h3,h4⟩:=r.sh pb c t f h.ok.sh h1;exact⟨c',t,f,h3,I⟩⟩
def dK.jump{k:Nat}{T T':Lk}{m m':Nat}(h:dK L O0 w0 pb k T m O w)(e:bA pb w w'):dK L O0 w0 pb (k-1) T' m' (O.jump O.own (.lk T' m')) w':=by obtain⟨c,t,f,h1,h2⟩:=h.sh;have r:=RX.TD h.ok h.no ⟨c,t,f,h1⟩ e;obtain⟨c',h3,h4,_⟩:=e.here c t f h1;have q:=h.fr.rely r;refine⟨⟨q.base,q.own,q.rel,q.new⟩,h.ok,rfl,h.no,?_,c',t,f,h3,I⟩;have:=h.fu;simp only[aL.jump];omega
def dK.weak{k:Nat}{T:Lk}(h:dK L O0 w0 pb k T m O w)(hk:k<=k'):dK L O0 w0 pb k' T m O w:=⟨h.fr,h.ok,h.pos,h.no,zap h.fu hk,h.sh⟩
def dK.cell{k:Nat}{T:Lk}{m:Nat}(h:dK L O0 w0 pb k T m O w):∃v,w.cell? ⟨pb,0,F⟩=Y v:=by obtain⟨c,t,f,h1,h2⟩:=h.sh;exact⟨c[0],by simp[ad3,h1,h2]⟩
end
section
variable {P:aB}{main:Bool}{L:eI}{pb:Nat}{fn:ay}{Q:eK}{O:aL}{a:Act}{w:af}{n:Nat}{ops:Array Oper}{i:Nat}{rest:List Nat}{o:Oper}
def LU{old:Wd}{aw:Bool}(hp:O.pos=.lk (.AU old aw sv it ws) 0){ats:Array az}(ho:ops[i]?=Y o)(hw:ac3 o (ai5 ops a.tmps)=Z6)(hop:o.op=.call {callee:=.value (.func f),args:=Sn,argTypes:=ats})
 (hf:P.funcs[f]?=Y fn') (hname:(fn'.name == "runtime.NumGoroutine")=E) (hb:fn'.body.isNone=Z6) (hn:ai6 fn'=F) (he:al9 fn'=Y Extern.Sync.canSpin)
 (hx:Sn.map a.eval=#[.int .i64 (it:Nat)]) {n1:Nat}
 (k1:∀w₁ w',RX L O w w₁->bA pb w₁ w'->∀b:Bool,(b=Z6->it<4)->bQ P main (jo P main pb) (RX L) (DX L) fn ops rest n1 Q (O.jump O.own (.lk (if b then(if aw=E/\old.w=E/\old.c≠0 then .cw old sv it ws else .rd aw sv (it+1) ws)else .sG old aw sv it ws) 0)) (a.put o.dst (.bool b)) w'):
 bQ P main (jo P main pb) (RX L) (DX L) fn ops (i :: rest) n Q O a w:=by
 refine l9 hp λb k cs hb' hk w₁ x' v hR hM h3 h4 h5=>⟨λh=>by simp[gE,iq]at h,λ_=>?_⟩
 have hin:∀b:Bool,(b=Z6->it<4)->(((if b then(if aw=E/\old.w=E/\old.c≠0 then Lk.cw old sv it ws else .rd aw sv (it+1) ws)else .sG old aw sv it ws,0),x',v):(Lk×Nat)×Wd×Nat)∈gE (.AU old aw sv it ws) 0 x' v:=by
  intro b hb;cases b with
  |false=>simp[gE,iq,gW]
  |true=>
   have h4:=hb rfl;by_cases hc:aw=E/\old.w=E/\old.c≠0
   ·simp[gE,iq,gW,h4,hc]
   ·simp[gE,iq,gW,h4,hc]
 have N8:∀b:Bool,x8 (if b then(if aw=E/\old.w=E/\old.c≠0 then Lk.cw old sv it ws else .rd aw sv (it+1) ws)else .sG old aw sv it ws) 0=1:=by intro b;by_cases hc:aw=E/\old.w=E/\old.c≠0<;>cases b<;>simp[hc,x8]
 by_cases hit:it<4
 ·refine⟨_,_,_,_,n1,stepG_canSpin_ask ho hw hk hop hf hname hb hn he hx I,hin w₁.spins λ_=>hit,⟨hM.word,hM.sema,hM.thaw⟩,bA.asked _ _,XI,?_,λh=>by simp at h,k1 w₁ _ hR (bA.asked _ _) _ λ_=>hit⟩;rw[N8];rfl
 ·refine⟨_,_,_,_,n1,stepG_canSpin_no ho hw hk hop hf hname hb hn he hx I,hin E XI,hM,bA.refl _ _,XI,?_,λh=>by simp at h,k1 w₁ _ hR (bA.refl _ _) E XI⟩;rw[N8];rfl
def fJ{J:Jm}{R:vn}{D:vo}{c:Code}(p:Prop)(h:p->cZ P main J R D fn c n₁ Q O a w)(h':¬p->cZ P main J R D fn c n₂ Q O a w):cZ P main J R D fn c (max n₁ n₂) Q O a w:=by
 by_cases hp:p
 ·exact pL (h hp) (Nat.le_max_left _ _)
 ·exact pL (h' hp) (Nat.le_max_right _ _)
def O8{todo:List Nat}{T:Lk}(hp:O.pos=.lk T m)(hb:∀x v,∃r∈gE T m x v,r.1.1=.bad):bQ P main (jo P main pb) (RX L) (DX L) fn ops todo n Q O a w:=by refine qL λb k cs _ _ w₁ _ T' m' x v rz _ _ _ h5=>?_;rw[hp]at rz;cases rz;obtain⟨r,h1,h2⟩:=hb x v;exact absurd h2 (h5 r h1)
end
def pG(T:Array aj)(n:Nat)(h:T.size=n):T=((List.range n).map λi=>T.toList.getD i undef).toArray:=by
 apply Array.ext';apply List.ext_getElem
 ·simp[h]
 ·intro i h1 h2;simp at h1;simp[h1]
def vp{l:(Nat->aj)->Array aj}(hd:a.defers=ds)(h:a.tmps=l λi=>a.tmps.toList.getD i undef):∃f:Nat->aj,a=⟨l f,ds⟩/\∀i v,a.tmps[i]?=Y v->f i=v:=
 ⟨_,by rw[<-h,<-hd],λi v hv=>by simp[hv]⟩
def CP(hd:a.defers=ds)(h:a.tmps.size=139):∃f:Nat->aj,a=⟨#[f 0,f 1,f 2,f 3,f 4,f 5,f 6,f 7,f 8,f 9,f 10,f 11,f 12,f 13,f 14,f 15,f 16,f 17,f 18,f 19,f 20,f 21,f 22,f 23,f 24,f 25,f 26,f 27,f 28,f 29,f 30,f 31,f 32,f 33,f 34,f 35,f 36,f 37,f 38,f 39,f 40,f 41,f 42,f 43,f 44,f 45,f 46,f 47,f 48,f 49,f 50,f 51,f 52,f 53,f 54,f 55,f 56,f 57,f 58,f 59,f 60,f 61,f 62,f 63,f 64,f 65,f 66,f 67,f 68,f 69,f 70,f 71,f 72,f 73,f 74,f 75,f 76,f 77,f 78,f 79,f 80,f 81,f 82,f 83,f 84,f 85,f 86,f 87,f 88,f 89,f 90,f 91,f 92,f 93,f 94,f 95,f 96,f 97,f 98,f 99,f 100,f 101,f 102,f 103,f 104,f 105,f 106,f 107,f 108,f 109,f 110,f 111,f 112,f 113,f 114,f 115,f 116,f 117,f 118,f 119,f 120,f 121,f 122,f 123,f 124,f 125,f 126,f 127,f 128,f 129,f 130,f 131,f 132,f 133,f 134,f 135,f 136,f 137,f 138],ds⟩/\∀i v,a.tmps[i]?=Y v->f i=v:=vp hd (pG a.tmps 139 h)
def wG(hd:a.defers=ds)(h:a.tmps.size=43):∃f:Nat->aj,a=⟨#[f 0,f 1,f 2,f 3,f 4,f 5,f 6,f 7,f 8,f 9,f 10,f 11,f 12,f 13,f 14,f 15,f 16,f 17,f 18,f 19,f 20,f 21,f 22,f 23,f 24,f 25,f 26,f 27,f 28,f 29,f 30,f 31,f 32,f 33,f 34,f 35,f 36,f 37,f 38,f 39,f 40,f 41,f 42],ds⟩/\∀i v,a.tmps[i]?=Y v->f i=v:=vp hd (pG a.tmps 43 h)
def bZ(tw:az)(Wg:Nat)(x:Gw)(w:af):Prop:=w.heap[Wg]?=Y (.cells #[.int .u64 ((x.v*4294967296+b1 x.wt:Nat):Int),.int .u32 ((x.sm:Nat):Int)] tw)
def LG:Ct->Nat
 |.sp _|.go _|.aq|.rt=>0
 |_=>1
def LH(Wg:Nat)(e:aC):Prop:=
 e.loc=.mark .disable\/e.loc=.mark .enable\/e.loc=.mark (.acquire ⟨Wg,0,F⟩)\/e.loc=.mark (.read ⟨Wg,1,F⟩)\/e.loc=.mark (.write ⟨Wg,1,F⟩)\/∃a wr,e=⟨.cell a,wr,Z6⟩/\a.block=Wg
structure aam(tw:az)(Wg:Nat)(c:Ct)(g':au)(w w':af)(es:Array aC)(r:Ct×Gw):Prop where
 rep:bZ tw Wg r.2 w'
 Kw:bA Wg w w'
 bk:∀e∈es,LH Wg e
 deaf:ad2 (LG c) es=LG r.1
 run:g'.status=.running
 acq:c=.aq->es=#[⟨.mark (.acquire ⟨Wg,0,F⟩),E,Z6⟩]
def jc(P:aB)(tw:az)(Wg:Nat)(bT:Nat->au->af->(Nat->Prop)->(Nat->Prop)->Prop):Jm where
 to O g w K:=∀c x,O.pos=.mn c->bZ tw Wg x w->x.v<=1000->x.sm<=1000->(c.open=Z6->x.wt=E)->c≠.rt/\
  (∀r,c=.go r->∃g' child gP,stepG P Z6 g w=.spawn g' child w #[]/\g'.status=.running/\bT r child w O.own gP/\K gP (.mn (.sp (r-1))) g' w)/\
  (c=.w3->x.sm=0->g.offers=F/\stepG P Z6 g w=.go {g with status:=.blocked} w #[])/\
  (∀r,pJ c x=Y r->∃g' w' es,stepG P Z6 g w=.go g' w' es/\aam tw Wg c g' w w' es r/\K O.own (.mn r.1) g' w')
 mono:=by
  intro O g w K K' hK h c x h1 h2 h3 h4 h5;obtain⟨q0,q1,q2,q3⟩:=h c x h1 h2 h3 h4 h5;refine⟨q0,λr hr=>?_,q2,λr hr=>?_⟩
  ·obtain⟨g',child,gP,p1,p2,p3,p4⟩:=q1 r hr;exact⟨g',child,gP,p1,p2,p3,hK _ _ _ _ p4⟩
  ·obtain⟨g',w',es,p1,p2,p3⟩:=q3 r hr;exact⟨g',w',es,p1,p2,hK _ _ _ _ p3⟩
structure Tu(L:eI):Prop where
 fx:¬L.Fx L.Wg
 fc:∀a,L.og a->a.block≠L.Wg
 mn:∀a,L.Mn a->a.block≠L.Wg
 sh:L.Sh L.Wg
 lo:L.Wg<L.N
section
variable {P:aB}{L:eI}{O O0:aL}{w w0 w₁ w':af}
def bZ.live{tw:az}{Wg:Nat}{x:Gw}(h:bZ tw Wg x w):Ep tw Wg w:=⟨_,_,h⟩
def bZ.word{tw:az}{Wg:Nat}{x:Gw}(h:bZ tw Wg x w):w.cell? ⟨Wg,0,F⟩=Y (.int .u64 ((x.v*4294967296+b1 x.wt:Nat):Int)):=by unfold bZ at h;simp[ad3,h]
def bZ.sema{tw:az}{Wg:Nat}{x:Gw}(h:bZ tw Wg x w):w.cell? ⟨Wg,1,F⟩=Y (.int .u32 ((x.sm:Nat):Int)):=by unfold bZ at h;simp[ad3,h]
def bZ.thaw{tw:az}{Wg:Nat}{x:Gw}(h:bZ tw Wg x w)(o:Nat):w.frozen? ⟨Wg,o,F⟩=E:=by unfold bZ at h;simp[aj2,h]
def bZ.nZ{tw:az}{Wg:Nat}{x y:Gw}(h:bZ tw Wg x w)(hs:y.sm=x.sm):bZ tw Wg y (w.setCell ⟨Wg,0,F⟩ (.int .u64 ((y.v*4294967296+b1 y.wt:Nat):Int))):=by unfold bZ at h⊢;simp[World.setCell,ak5,h,hs]
def bZ.tP{tw:az}{Wg:Nat}{x y:Gw}(h:bZ tw Wg x w)(hv:y.v=x.v)(hw:y.wt=x.wt):bZ tw Wg y (w.setCell ⟨Wg,1,F⟩ (.int .u32 ((y.sm:Nat):Int))):=by unfold bZ at h⊢;simp[World.setCell,ak5,h,hv,hw]
def RX.of_wg(hL:Tu L)(hO:¬O.own L.Wg)(hb':Ep L.tw L.Wg w')(e:bA L.Wg w w'):RX L O w w':=by
 refine⟨as9 e.size.symm,λi _ hi=>e.other i λh=>?_,λa ha=>?_,λa ha=>?_,λi c t f hi hc=>?_,λ_=>hb'⟩
 ·subst h;exact hi.elim hO hL.fx
 ·simp[ad3,e.other a.block (hL.fc a ha)]
 ·have:=hL.mn a ha;exact⟨by simp[ad3,e.other a.block this],by simp[aj2,e.other a.block this]⟩
 ·by_cases h:i=L.Wg
  ·subst h;obtain⟨c',h1,h2,_⟩:=e.here c t f hc;exact⟨c',h1,h2⟩
  ·exact⟨c,(e.other i h).trans hc,rfl⟩
structure dZ(L:eI)(O0:aL)(w0:af)(k:Nat)(c:Ct)(O:aL)(w:af):Prop where
 fr:rA L O0 w0 O w
 ok:Tu L
 pos:O.pos=.mn c
 no:¬O.own L.Wg
 fu:O.fu<=k
 live:Ep L.tw L.Wg w
def dZ.rely{k:Nat}{c:Ct}(h:dZ L O0 w0 k c O w)(r:RX L O w w₁):dZ L O0 w0 k c O w₁:=⟨h.fr.rely r,h.ok,h.pos,h.no,h.fu,r.live h.live⟩
def dZ.jump{k:Nat}{c c':Ct}{x:Gw}(h:dZ L O0 w0 k c O w)(e:bA L.Wg w w')(hr:bZ L.tw L.Wg x w'):dZ L O0 w0 (k-1) c' (O.jump O.own (.mn c')) w':=by have r:=RX.of_wg h.ok h.no hr.live e;have q:=h.fr.rely r;refine⟨⟨q.base,q.own,q.rel,q.new⟩,h.ok,rfl,h.no,?_,hr.live⟩;have:=h.fu;simp only[aL.jump];omega
def dZ.weak{k:Nat}{c:Ct}(h:dZ L O0 w0 k c O w)(hk:k<=k'):dZ L O0 w0 k' c O w:=⟨h.fr,h.ok,h.pos,h.no,zap h.fu hk,h.live⟩
def dZ.cell{k:Nat}{c:Ct}(h:dZ L O0 w0 k c O w):(∃v,w.cell? ⟨L.Wg,0,F⟩=Y v)/\∃v,w.cell? ⟨L.Wg,1,F⟩=Y v:=by obtain⟨st,sm,hb⟩:=h.live;exact⟨⟨.int .u64 st,by simp[ad3,hb]⟩,⟨.int .u32 sm,by simp[ad3,hb]⟩⟩
end
section
variable {P:aB}{L:eI}{bT:Nat->au->af->(Nat->Prop)->(Nat->Prop)->Prop}{fn:ay}{Q:eK}{O:aL}{a:Act}{w:af}{n:Nat}{ops:Array Oper}{i:Nat}{rest:List Nat}{o:Oper}{c:Ct}
def tS(hp:O.pos=.mn c)(hgo:∀r,c≠.go r)(hrt:c≠.rt)
 (h:∀(b:ak) (k:List Item) (cs:List ak),b.fn=fn->b.kind≠.early->∀w₁ x,RX L O w w₁->bZ L.tw L.Wg x w₁->x.v<=1000->x.sm<=1000->(c.open=Z6->x.wt=E)->
   (c=.w3->x.sm=0->stepG P Z6 (G (b.at a (.inRegion ops (i :: rest):: k)) cs) w₁=.go {G (b.at a (.inRegion ops (i :: rest):: k)) cs with status:=.blocked} w₁ #[])/\
   (∀r,pJ c x=Y r->∃a' w' es n',stepG P Z6 (G (b.at a (.inRegion ops (i :: rest):: k)) cs) w₁=.go (G (b.at a' (.inRegion ops rest :: k)) cs) w' es/\bZ L.tw L.Wg r.2 w'/\bA L.Wg w₁ w'/\(∀e∈es,LH L.Wg e)/\ad2 (LG c) es=LG r.1/\(c=.aq->es=#[⟨.mark (.acquire ⟨L.Wg,0,F⟩),E,Z6⟩])/\
     bQ P Z6 (jc P L.tw L.Wg bT) (RX L) (DX L) fn ops rest n' Q (O.jump O.own (.mn r.1)) a' w')):
 bQ P Z6 (jc P L.tw L.Wg bT) (RX L) (DX L) fn ops (i :: rest) n Q O a w:=by refine qL λb k cs hb hk w₁ h₁ c' x rz h2 h3 h4 h5=>?_;rw[hp]at rz;cases rz;obtain⟨q1,q2⟩:=h b k cs hb hk w₁ x h₁ h2 h3 h4 h5;refine⟨hrt,λr hr=>absurd hr (hgo r),λe1 e2=>⟨rfl,q1 e1 e2⟩,λr hr=>?_⟩;obtain⟨a',w',es,n',e1,e2,e3,e4,e5,e6,e7⟩:=q2 r hr;exact⟨_,w',es,e1,⟨e2,e3,e4,e5,rfl,e6⟩,rest,a',n',rfl,e7⟩
def kn(hp:O.pos=.mn c){c':Ct}(hgo:∀r,c≠.go r)(nU:c≠.w3)(qM:∀x,pJ c x=Y (c',x))
 (hs:∀(b:ak) (k:List Item) (cs:List ak),b.fn=fn->b.kind≠.early->∀w₁,stepG P Z6 (G (b.at a (.inRegion ops (i :: rest):: k)) cs) w₁=.go (G (b.at a' (.inRegion ops rest :: k)) cs) w₁ es)
 (hes:∀e∈es,LH L.Wg e) (hd:ad2 (LG c) es=LG c') (hacq:c=.aq->es=#[⟨.mark (.acquire ⟨L.Wg,0,F⟩),E,Z6⟩]) {n':Nat}
 (h:∀w₁ x,RX L O w w₁->bZ L.tw L.Wg x w₁->bQ P Z6 (jc P L.tw L.Wg bT) (RX L) (DX L) fn ops rest n' Q (O.jump O.own (.mn c')) a' w₁):
 bQ P Z6 (jc P L.tw L.Wg bT) (RX L) (DX L) fn ops (i :: rest) n Q O a w:=by
 refine tS hp hgo (λe=>by subst e;have:=qM ⟨0,E,0⟩;simp[pJ]at this) λb k cs hb hk w₁ x hR hM h3 h4 _=>⟨λe=>absurd e nU,λr hr=>?_⟩
 rw[qM x]at hr;cases hr;exact⟨a',w₁,es,n',hs b k cs hb hk w₁,hM,bA.refl _ _,hes,hd,hacq,h w₁ x hR hM⟩
def KA(Wg:Nat):∀e∈#[(⟨.mark .disable,E,Z6⟩:aC)],LH Wg e:=by intro e he;simp at he;subst he;exact .inl rfl
def Hu(Wg:Nat):∀e∈#[(⟨.mark .enable,E,Z6⟩:aC)],LH Wg e:=by intro e he;simp at he;subst he;exact .inr (.inl rfl)
def KB(Wg:Nat):∀e∈#[(⟨.mark (.acquire ⟨Wg,0,F⟩),E,Z6⟩:aC)],LH Wg e:=by intro e he;simp at he;subst he;exact .inr (.inr (.inl rfl))
def OT(Wg:Nat):∀e∈#[(⟨.mark (.read ⟨Wg,1,F⟩),E,Z6⟩:aC)],LH Wg e:=by intro e he;simp at he;subst he;exact .inr (.inr (.inr (.inl rfl)))
def LI(Wg:Nat):∀e∈#[(⟨.mark (.write ⟨Wg,1,F⟩),E,Z6⟩:aC)],LH Wg e:=by intro e he;simp at he;subst he;exact .inr (.inr (.inr (.inr (.inl rfl))))
def VR(Wg o:Nat):∀e∈#[(⟨.cell ⟨Wg,o,F⟩,E,Z6⟩:aC)],LH Wg e:=by intro e he;simp at he;subst he;exact .inr (.inr (.inr (.inr (.inr ⟨_,_,rfl,rfl⟩))))
def OU(Wg o:Nat):∀e∈#[(⟨.cell ⟨Wg,o,F⟩,E,Z6⟩:aC),⟨.cell ⟨Wg,o,F⟩,Z6,Z6⟩],LH Wg e:=by intro e he;simp at he;rcases he with rfl|rfl<;>exact .inr (.inr (.inr (.inr (.inr ⟨_,_,rfl,rfl⟩))))
def Tv(Wg o:Nat):∀e∈semEvents ⟨Wg,o,F⟩,LH Wg e:=by
 intro e he;simp[semEvents]at he;rcases he with rfl|rfl|rfl|rfl
 ·exact .inl rfl
 ·exact .inr (.inr (.inr (.inr (.inr ⟨_,_,rfl,rfl⟩))))
 ·exact .inr (.inr (.inr (.inr (.inr ⟨_,_,rfl,rfl⟩))))
 ·exact .inr (.inl rfl)
def wrap_u64(hm:m<18446744073709551616):IntKind.u64.wrap (m:Int)=(m:Int):=by have aeW:IntKind.u64.bits=64:=rfl;simp only[IntKind.wrap,aeW];have:((m:Int)% 18446744073709551616)=(m:Int):=Int.emod_eq_of_lt (Int.natCast_nonneg m) (Int.ofNat_lt.2 hm);simp[IntKind.signed,this]
def Xh{v:Nat}(h:v<=1001)(d:Nat)(hd:d<=1):IntKind.u64.wrap (((v*4294967296+d:Nat):Int)+4294967296)=(((v+1)*4294967296+d:Nat):Int):=by
 have e:(((v*4294967296+d:Nat):Int)+4294967296)=(((v+1)*4294967296+d:Nat):Int):=I
 rw[e];exact wrap_u64 I
def LJ(hp:O.pos=.mn (.a1 r)){ats:Array az}{y:aD}(ho:ops[i]?=Y o)(hw:ac3 o (ai5 ops a.tmps)=Z6)(hop:o.op=.call {callee:=.value (.func f),args:=#[x,y],argTypes:=ats})
 (hf:P.funcs[f]?=Y fn') (hname:(fn'.name == "runtime.NumGoroutine")=E) (hb:fn'.body.isNone=Z6) (hn:ai6 fn'=F) (he:al9 fn'=Y (Extern.Atomic.update (Op.intArith .add) .u64 Z6))
 (hx:a.eval x=.pointer (Y ⟨L.Wg,0,F⟩)) (hy:a.eval y=.int .u64 4294967296) {n1:Nat}
 (k1:∀w₁,RX L O w w₁->∀(v s:Nat),v<=1000->∀w',bZ L.tw L.Wg ⟨v+1,E,s⟩ w'->bA L.Wg w₁ w'->bQ P Z6 (jc P L.tw L.Wg bT) (RX L) (DX L) fn ops rest n1 Q (O.jump O.own (.mn (if v=0 then .ar r else .ae r))) (a.put o.dst (.int .u64 (((v+1)*4294967296+b1 E:Nat):Int))) w'):
 bQ P Z6 (jc P L.tw L.Wg bT) (RX L) (DX L) fn ops (i :: rest) n Q O a w:=by
 refine tS hp XI XI λb k cs hb' hk w₁ z hR hM h3 h4 h5=>⟨XI,λq hq=>?_⟩
 simp only[pJ,ac6]at hq;subst hq;have z1:=h5 rfl;obtain⟨v,wt,s⟩:=z;simp only at z1 h3;subst z1;have hst:=stepG_add_atomic (main:=Z6) (b:=b) (kk:=k) (cs:=cs) (rest:=rest) ho hw hk hop hf hname hb hn .u64 he hx hy hM.word (hM.thaw 0);simp only at hst;rw[Xh I (b1 E) (by simp[b1])]at hst;have hG:bZ L.tw L.Wg ⟨v+1,E,s⟩ (w₁.setCell ⟨L.Wg,0,F⟩ (.int .u64 (((v+1)*4294967296+b1 E:Nat):Int))):=hM.nZ (y:=⟨v+1,E,s⟩) rfl;refine⟨_,_,_,n1,hst,hG,bA.set _ _ _ _ I,OU _ 0,?_,XI,k1 w₁ hR v s h3 _ hG (bA.set _ _ _ _ I)⟩;by_cases hv:v=0<;>simp[hv]<;>rfl
end
end
end Go.Proofs.YteoahlieielcdaaGreat
