import Derived.Conc.CompanyMem
import Derived.Conc.MuSpec
import Derived.Conc.AtomicLaws2
set_option linter.all false
set_option maxHeartbeats 4000000
set_option maxRecDepth 100000
namespace Go.Proofs.YteoahlieielcdaaGreat
abbrev zak:=@Nat.le_refl
abbrev zal:=@Nat.le_trans
abbrev zam:=@Array.getElem?_eq_some_iff
abbrev zan:=@Nat.le_add_right
abbrev zao:=@Nat.mod_eq_of_lt
variable{i j n u it r n' id n₁ n₂ dn m nf pb m' k':Nat}{sv ws t:Bool}{w₁ w0:World}{x:Operand}{ops:Array Oper}{y cd:Code}{o oi:Oper}{f:FuncId}{asq:Array Operand}{b:Frame}{cs:List Frame}{ds:List Deferred}{cap:Array Value}{fn':Func}{a a':Act}{es:Array Event}
def sm(f:Nat->Nat):Nat->Nat
 | 0=>0
 |n+1=>sm f n+f n
def aI{α:Type}(f:Nat->α)(i:Nat)(x:α):Nat->α:=fun j=>if j=i then x else f j
theorem aM{α:Type}(f:Nat->α)(i:Nat)(x:α):aI f i x i=x:=by simp[aI]
theorem bp{α:Type}(f:Nat->α)(x:α)(h:j≠i):aI f i x j=f j:=by simp[aI,h]
theorem yD{f g:Nat->Nat}:∀{n:Nat},(∀i,i<n->f i=g i)->sm f n=sm g n
 | 0,_=>rfl
 |n+1,h=>by rw[sm,sm,yD (fun i hi=>h i (by omega)),h n (by omega)]
theorem mE{α:Type}(φ:α->Nat)(f:Nat->α)(x:α){i:Nat}:∀{n:Nat},i<n->sm (fun j=>φ (aI f i x j)) n+φ (f i)=sm (fun j=>φ (f j)) n+φ x
 |n+1,h=>by
  rcases Nat.lt_or_ge i n with hlt|hge
  ·have:=mE φ f x hlt;simp only[sm,bp f x (show n≠i by omega)];omega
  ·obtain rfl:i=n:=by omega
   simp only[sm,aM];rw[yD (g:=fun j=>φ (f j)) (fun j hj=>by rw[bp f x (by omega)])];omega
theorem dY{f:Nat->Nat}{i:Nat}:∀{n:Nat},i<n->f i<=sm f n
 |n+1,h=>by
  rcases Nat.lt_or_ge i n with hlt|hge
  ·have:=dY (f:=f) hlt;simp only[sm];omega
  ·obtain rfl:i=n:=by omega
   simp only[sm];omega
theorem H6{f:Nat->Nat}:∀{n:Nat},0<sm f n->∃i,i<n/\0<f i
 |n+1,h=>by
  simp only[sm]at h;rcases Nat.eq_zero_or_pos (f n)with e|e
  ·obtain⟨i,hi,hp⟩:=H6 (f:=f) (n:=n) (by omega);exact⟨i,by omega,hp⟩
  ·exact⟨n,by omega,e⟩
theorem BI{f:Nat->Nat}{c:Nat}(h:∀i,f i<=c):∀n,sm f n<=c*n
 | 0=>by simp[sm]
 |n+1=>by have:=BI h n;have:=h n;simp only[sm,Nat.mul_add,Nat.mul_one];omega
theorem tB{f:Nat->Nat}:∀{n:Nat},(∀i,i<n->f i=0)->sm f n=0
 | 0,_=>rfl
 |n+1,h=>by rw[sm,tB (fun i hi=>h i (by omega)),h n (by omega)]
structure Wd where
 l:Bool
 w:Bool
 s:Bool
 c:Nat
 deriving DecidableEq
inductive Lk where
 |out
 |uI
 |rd (aw sv:Bool) (it:Nat) (ws:Bool)
 |Au (old:Wd) (aw sv:Bool) (it:Nat) (ws:Bool)
 |cw (old:Wd) (sv:Bool) (it:Nat) (ws:Bool)
 |rT (old:Wd) (aw sv:Bool) (it:Nat) (ws:Bool)
 |t1 (sv:Bool)
 |iq (sv ws:Bool)
 |t2 (ws:Bool)
 |wk (sv ws:Bool)
 |add (cl:Bool)
 |hold
 |GX (old:Wd)
 |JV
 |tok
 |hand
 |bad
 deriving DecidableEq
def mz(old:Wd)(aw sv:Bool)(it:Nat)(ws:Bool):Lk:=if old.l=true/\old.s=false then .Au old aw sv it ws else .rT old aw sv it ws
def NW(old:Wd)(aw sv:Bool):Wd:={l:=if old.s then old.l else true,w:=if aw then false else old.w,s:=old.s ||(sv && old.l),c:=if old.l || old.s then old.c+1 else old.c}
def vT(x:Wd):Lk:=if x.s then .hand else if x.c=0\/x.w=true then .out else .GX x
def gK(T:Lk)(x:Wd)(v:Nat):List (Lk×Wd×Nat):=
 match T with
 |.uI=>if x=⟨false,false,false,0⟩then [(.hold,{x with l:=true},v)]else [(.rd false false 0 false,x,v)]
 |.rd aw sv it ws=> [(mz x aw sv it ws,x,v)]
 |.Au old aw sv it ws=>(.rT old aw sv it ws,x,v)::(if it<4 then [(if aw=false/\old.w=false/\old.c≠0 then .cw old sv it ws else .rd aw sv (it+1) ws,x,v)]else [])
 |.cw old sv it ws=>if x=old then [(.rd true sv (it+1) ws,{x with w:=true},v)]else [(.rd false sv (it+1) ws,x,v)]
 |.rT old aw sv it ws=>if aw=true/\old.w=false then [(.bad,x,v)]else if x=old then(if old.l=true\/old.s=true then [(if ws then .iq sv true else .t1 sv,NW old aw sv,v)]else [(.hold,NW old aw sv,v)])else [(.rd aw sv it ws,x,v)]
 |.t1 sv=> [(.iq sv true,x,v),(.iq sv false,x,v)]
 |.iq sv ws=>if v=0 then []else [(if sv then .wk true ws else .t2 ws,x,v-1)]
 |.t2 ws=> [(.wk false ws,x,v),(.wk true ws,x,v)]
 |.wk sv ws=>if x.s then(if x.l=true\/x.w=true\/x.c=0 then [(.bad,x,v)]else [(.add (!sv || x.c == 1),x,v)])else [(mz x true sv 0 ws,x,v)]
 |.add cl=>if x.l=true\/x.s=false\/x.c=0 then [(.bad,x,v)]else [(.hold,{x with l:=true,c:=x.c-1,s:=if cl then false else x.s},v)]
 |.hold=>if x.l then [(vT {x with l:=false},{x with l:=false},v)]else [(.bad,x,v)]
 |.GX old=>if x=old then [(.tok,{x with c:=x.c-1,w:=true},v)]else [(.JV,x,v)]
 |.JV=> [(if x.c=0\/x.l=true\/x.w=true\/x.s=true then .out else .GX x,x,v)]
 |.tok=> [(.out,x,v+1)]
 |.hand=> [(.out,x,v+1)]
 |.out=> []
 |.bad=> []
def b1(b:Bool):Nat:=if b then 1 else 0
def nH:Lk->Nat|.hold=>1|_=>0
def lV:Lk->Nat|.rd aw _ _ _=>b1 aw|.Au _ aw _ _ _=>b1 aw|.rT _ aw _ _ _=>b1 aw|_=>0
def mF:Lk->Nat|.tok=>1|_=>0
def mK:Lk->Nat|.hand=>1|_=>0
def kB:Lk->Nat|.t2 _=>1|.wk _ _=>1|_=>0
def jq:Lk->Nat|.add _=>1|_=>0
def nQ:Lk->Nat|.t1 _=>1|.iq _ _=>1|_=>0
def mO:Lk->Nat|.GX _=>1|.JV=>1|_=>0
def VK(n:Nat)(x:Wd):Lk->Prop
 |.rd aw sv it _=>(sv=true->aw=true)/\it<=4
 |.Au old aw sv it _=>old.l=true/\old.s=false/\(aw=true->old.w=true)/\(sv=true->aw=true)/\it<=4/\old.c<=n
 |.cw old sv it _=>old.l=true/\old.s=false/\old.w=false/\old.c≠0/\sv=false/\it<4/\old.c<=n
 |.rT old aw sv it _=>(aw=true->old.w=true/\old.s=false)/\(sv=true->aw=true)/\it<=4/\old.c<=n
 |.add cl=>cl=false->2<=x.c
 |.GX old=>old.l=false/\old.w=false/\old.s=false/\old.c≠0/\old.c<=n
 |.bad=>False
 |_=>True
structure j6(n:Nat)(th:Nat->Lk)(x:Wd)(v:Nat):Prop where
 lk:sm (fun i=>nH (th i)) n=b1 x.l
 norm:x.s=false->sm (fun i=>mK (th i)) n=0/\sm (fun i=>jq (th i)) n=0/\sm (fun i=>lV (th i)) n+sm (fun i=>mF (th i)) n+v+sm (fun i=>kB (th i)) n=b1 x.w/\x.c+sm (fun i=>mF (th i)) n+v=sm (fun i=>nQ (th i)) n
 BJ:x.s=true->x.w=false/\sm (fun i=>lV (th i)) n=0/\sm (fun i=>mF (th i)) n=0/\sm (fun i=>nH (th i)) n+sm (fun i=>mK (th i)) n+v+sm (fun i=>kB (th i)) n+sm (fun i=>jq (th i)) n=1/\x.c=sm (fun i=>nQ (th i)) n+sm (fun i=>kB (th i)) n+sm (fun i=>jq (th i)) n/\1<=x.c
 aeb:x.s=false->x.l=false->x.w=false->x.c≠0->0<sm (fun i=>mO (th i)) n
 ok:∀i,i<n->VK n x (th i)
def nI:Lk->Nat
 |.out=>0|.uI=>9
 |.rd aw _ _ _=>if aw then 7 else 8
 |.Au _ aw _ _ _=>if aw then 7 else 8
 |.cw ..=>8
 |.rT _ aw _ _ _=>if aw then 7 else 8
 |.t1 _=>6|.iq _ _=>6
 |.t2 _=>8|.wk _ _=>8|.add _=>7|.hold=>6|.GX _=>5|.JV=>5|.tok=>4|.hand=>4|.bad=>0
def Ek(x:Wd):Lk->Nat
 |.rd _ _ it _=>10*(5-it)+4
 |.Au old _ _ it _=>(if x=old then 0 else 100)+10*(5-it)+3
 |.cw old _ it _=>(if x=old then 0 else 100)+10*(5-it)+2
 |.rT old _ _ it _=>(if x=old then 0 else 100)+10*(5-it)+1
 |.t1 _=>1|.t2 _=>2|.wk _ _=>1
 |.GX old=>if x=old then 1 else 3
 |.JV=>2
 |_=>0
def msA(n:Nat)(th:Nat->Lk)(v:Nat):Nat:=sm (fun i=>nI (th i)) n+3*v
def Ok(n:Nat)(th:Nat->Lk)(x:Wd):Nat:=sm (fun i=>Ek x (th i)) n
theorem ZJ(T:Lk):nQ T+kB T+jq T<=1:=by cases T<;>simp[nQ,kB,jq]
theorem yE(f g:Nat->Nat):∀n,sm (fun i=>f i+g i) n=sm f n+sm g n
 | 0=>rfl
 |n+1=>by simp only[sm,yE f g n];omega
theorem j6.cbd{th:Nat->Lk}{x:Wd}{v:Nat}(h:j6 n th x v):x.c<=n:=by
 have h1:=BI (f:=fun i=>nQ (th i)+kB (th i)+jq (th i)) (c:=1) (fun i=>ZJ (th i)) n;rw[yE (fun i=>nQ (th i)+kB (th i)) (fun i=>jq (th i)),yE (fun i=>nQ (th i)) (fun i=>kB (th i))]at h1;cases hs:x.s with
 |false=>have:=h.norm hs;omega
 |true=>have:=h.BJ hs;omega
theorem Ol{x y:Wd}{T:Lk}(h:VK n x T)(hc:∀cl,T=.add cl->x.c<=y.c):VK n y T:=by
 cases T<;>first|exact h|skip
 case add cl=>intro e;have:=h e;have:=hc cl rfl;omega
def nU(H Aw Tk Hd Wk Ad Q Un:Nat)(x:Wd)(v:Nat):Prop:=
 H=b1 x.l/\(x.s=false->Hd=0/\Ad=0/\Aw+Tk+v+Wk=b1 x.w/\x.c+Tk+v=Q)/\
 (x.s=true->x.w=false/\Aw=0/\Tk=0/\H+Hd+v+Wk+Ad=1/\x.c=Q+Wk+Ad/\1<=x.c)/\(x.s=false->x.l=false->x.w=false->x.c≠0->0<Un)
def BK(n:Nat)(th:Nat->Lk)(x:Wd)(v:Nat):Prop:=
 nU (sm (fun i=>nH (th i)) n) (sm (fun i=>lV (th i)) n) (sm (fun i=>mF (th i)) n) (sm (fun i=>mK (th i)) n) (sm (fun i=>kB (th i)) n) (sm (fun i=>jq (th i)) n) (sm (fun i=>nQ (th i)) n) (sm (fun i=>mO (th i)) n) x v
theorem j6.num{th:Nat->Lk}{x:Wd}{v:Nat}(h:j6 n th x v):BK n th x v:=⟨h.lk,h.norm,h.BJ,h.aeb⟩
theorem J2{th:Nat->Lk}{x:Wd}{v:Nat}(h:BK n th x v)(ok:∀i,i<n->VK n x (th i)):j6 n th x v:=⟨h.1,h.2.1,h.2.2.1,h.2.2.2,ok⟩
theorem EV{th:Nat->Lk}{x y:Wd}{v:Nat}(h:j6 n th x v)(hi:i<n)(T':Lk)
 (aec:∀H Aw Tk Hd Wk Ad Q Un,nU H Aw Tk Hd Wk Ad Q Un x v->nH (th i)<=H->lV (th i)<=Aw->mF (th i)<=Tk->mK (th i)<=Hd->kB (th i)<=Wk->jq (th i)<=Ad->nQ (th i)<=Q->mO (th i)<=Un->
   nU (H-nH (th i)+nH T') (Aw-lV (th i)+lV T') (Tk-mF (th i)+mF T') (Hd-mK (th i)+mK T') (Wk-kB (th i)+kB T') (Ad-jq (th i)+jq T') (Q-nQ (th i)+nQ T') (Un-mO (th i)+mO T') y u)
 (hok:VK n y T') (x7:x.c<=y.c\/∀j,j<n->j≠i->jq (th j)=0):j6 n (aI th i T') y u:=by
 refine J2 ?_ (fun j hj=>?_)
 ·have e:∀φ:Lk->Nat,sm (fun j=>φ (aI th i T' j)) n=sm (fun j=>φ (th j)) n-φ (th i)+φ T':=fun φ=>by have h1:=mE φ th T' hi;have h2:=dY (f:=fun j=>φ (th j)) hi;omega
  unfold BK;rw[e nH,e lV,e mF,e mK,e kB,e jq,e nQ,e mO];exact aec _ _ _ _ _ _ _ _ h.num (dY (f:=fun j=>nH (th j)) hi) (dY (f:=fun j=>lV (th j)) hi) (dY (f:=fun j=>mF (th j)) hi) (dY (f:=fun j=>mK (th j)) hi) (dY (f:=fun j=>kB (th j)) hi) (dY (f:=fun j=>jq (th j)) hi) (dY (f:=fun j=>nQ (th j)) hi) (dY (f:=fun j=>mO (th j)) hi)
 ·by_cases e:j=i
  ·subst e;rw[aM];exact hok
  ·rw[bp _ _ e];refine Ol (h.ok j hj) (fun cl uH=>?_);rcases x7 with h1|h1
   ·exact h1
   ·have:=h1 j hj e;rw[uH]at this;simp[jq]at this
theorem J3{th:Nat->Lk}(hi:i<n)(T':Lk)(u:Nat):msA n (aI th i T') u+nI (th i)=sm (fun j=>nI (th j)) n+nI T'+3*u:=by have:=mE nI th T' hi;unfold msA;omega
theorem R1{th:Nat->Lk}(hi:i<n)(T':Lk)(x:Wd):Ok n (aI th i T') x+Ek x (th i)=Ok n th x+Ek x T':=mE (Ek x) th T' hi
def Om(n:Nat)(th:Nat->Lk)(x:Wd)(v i:Nat)(r:Lk×Wd×Nat):Prop:=
 r.1≠.bad/\j6 n (aI th i r.1) r.2.1 r.2.2/\(msA n (aI th i r.1) r.2.2<msA n th v\/(r.2.1=x/\r.2.2=v/\msA n (aI th i r.1) r.2.2=msA n th v/\Ok n (aI th i r.1) x<Ok n th x))
theorem On(old:Wd)(aw sv:Bool)(it:Nat)(ws:Bool):nH (mz old aw sv it ws)=0/\lV (mz old aw sv it ws)=b1 aw/\mF (mz old aw sv it ws)=0/\mK (mz old aw sv it ws)=0/\kB (mz old aw sv it ws)=0/\jq (mz old aw sv it ws)=0/\nQ (mz old aw sv it ws)=0/\mO (mz old aw sv it ws)=0:=by unfold mz;split<;>simp[nH,lV,mF,mK,kB,jq,nQ,mO]
theorem T8{x:Wd}{aw:Bool}(h1:sv=true->aw=true)(h2:it<=4)(h3:x.c<=n)(h4:aw=true->x.w=true/\x.s=false):VK n x (mz x aw sv it ws):=by
 unfold mz;split
 ·rename_i h;exact⟨h.1,h.2,fun e=>(h4 e).1,h1,h2,h3⟩
 ·exact⟨h4,h1,h2,h3⟩
theorem Oo(old:Wd)(aw sv:Bool)(it:Nat)(ws:Bool):mz old aw sv it ws≠.bad:=by unfold mz;split<;>simp
theorem ZK(old:Wd)(aw sv:Bool)(it:Nat)(ws:Bool):nI (mz old aw sv it ws)=if aw then 7 else 8:=by unfold mz;split<;>simp[nI]
theorem aed(x:Wd)(aw sv:Bool)(it:Nat)(ws:Bool):Ek x (mz x aw sv it ws)<=10*(5-it)+3:=by unfold mz;split<;>simp[Ek]
theorem j6.aw{th:Nat->Lk}{x:Wd}{v:Nat}(h:j6 n th x v)(hi:i<n)(ha:0<lV (th i)):x.w=true/\x.s=false:=by
 have h1:=dY (f:=fun j=>lV (th j)) hi;cases hs:x.s with
 |true=>have:=h.BJ hs;omega
 |false=>
  have:=h.norm hs;cases hw:x.w with
  |true=>exact⟨rfl,rfl⟩
  |false=>rw[hw]at this;simp[b1]at this;omega
theorem Oq{th:Nat->Lk}{x:Wd}{v:Nat}(h:j6 n th x v)(hi:i<n){r:Lk×Wd×Nat}(hr:r∈gK (th i) x v):Om n th x v i r:=by
 have hc:=h.cbd;have hok:=h.ok i hi;have TV:=h.aw hi;have hA:=fun T' u=>J3 (th:=th) hi T' u;have hB:=fun T'=>R1 (th:=th) hi T' x;have hA0:msA n th v=sm (fun j=>nI (th j)) n+3*v:=rfl;have hle:=dY (f:=fun j=>nI (th j)) hi;have S0:=fun(T':Lk) (y:Wd) (u:Nat)=>EV (y:=y) (u:=u) h hi T';generalize hT:th i=T at *;cases T with
 |out=>simp[gK]at hr
 |bad=>exact hok.elim
 |uI=>
  simp only[gK]at hr;split at hr
  ·simp only[List.mem_singleton]at hr;subst hr;rename_i hx;subst hx;refine⟨by simp,S0 _ _ _ (fun H Aw Tk Hd Wk Ad Q Un hn a1 a2 a3 a4 a5 a6 a7 a8=>?_) trivial (.inl (zak _)),.inl ?_⟩
   ·simp[nU,b1,nH,lV,mF,mK,kB,jq,nQ,mO]at *;omega
   ·have:=hA .hold v;simp[nI]at *;omega
  ·simp only[List.mem_singleton]at hr;subst hr;refine⟨by simp,S0 _ _ _ (fun H Aw Tk Hd Wk Ad Q Un hn a1 a2 a3 a4 a5 a6 a7 a8=>?_) ⟨by simp,by omega⟩ (.inl (zak _)),.inl ?_⟩
   ·simpa[nH,lV,mF,mK,kB,jq,nQ,mO,b1]using hn
   ·have:=hA (.rd false false 0 false) v;simp[nI]at *;omega
 |rd aw sv it ws=>
  simp only[gK,List.mem_singleton]at hr;subst hr;obtain⟨k1,k2,k3,k4,k5,k6,k7,k8⟩:=On x aw sv it ws;refine⟨Oo _ _ _ _ _,S0 _ _ _ (fun H Aw Tk Hd Wk Ad Q Un hn a1 a2 a3 a4 a5 a6 a7 a8=>?_) (T8 hok.1 hok.2 hc (fun e=>TV (by simp[lV,b1,e]))) (.inl (zak _)),.inr ⟨rfl,rfl,?_,?_⟩⟩
  ·rw[k1,k2,k3,k4,k5,k6,k7,k8];simp only[nH,lV,mF,mK,kB,jq,nQ,mO]at *;have:Aw-b1 aw+b1 aw=Aw:=by omega
   simpa[this]using hn
  ·have:=hA (mz x aw sv it ws) v;rw[ZK]at this;simp[nI]at *;omega
  ·have:=hB (mz x aw sv it ws);have:=aed x aw sv it ws;simp[Ek]at *;omega
 |Au old aw sv it ws=>
  obtain⟨o1,o2,o3,o4,o5,o6⟩:=hok;simp only[gK,List.mem_cons]at hr;rcases hr with hr|hr
  ·subst hr;refine⟨by simp,S0 _ _ _ (fun H Aw Tk Hd Wk Ad Q Un hn a1 a2 a3 a4 a5 a6 a7 a8=>?_) ⟨fun e=>⟨o3 e,o2⟩,o4,o5,o6⟩ (.inl (zak _)),.inr ⟨rfl,rfl,?_,?_⟩⟩
   ·simp only[nH,lV,mF,mK,kB,jq,nQ,mO]at *;have:Aw-b1 aw+b1 aw=Aw:=by omega
    simpa[this]using hn
   ·have:=hA (.rT old aw sv it ws) v;simp[nI]at *;omega
   ·have:=hB (.rT old aw sv it ws);simp[Ek]at *;omega
  ·split at hr
   ·simp only[List.mem_singleton]at hr;subst hr;rename_i hit;split
    ·rename_i hw;obtain⟨rfl,w2,w3⟩:=hw;refine⟨by simp,S0 _ _ _ (fun H Aw Tk Hd Wk Ad Q Un hn a1 a2 a3 a4 a5 a6 a7 a8=>?_) ⟨o1,o2,w2,w3,by cases sv<;>simp_all,hit,o6⟩ (.inl (zak _)),.inr ⟨rfl,rfl,?_,?_⟩⟩
     ·simpa[nH,lV,mF,mK,kB,jq,nQ,mO,b1]using hn
     ·have:=hA (.cw old sv it ws) v;simp[nI]at *;omega
     ·have:=hB (.cw old sv it ws);simp[Ek]at *;omega
    ·refine⟨by simp,S0 _ _ _ (fun H Aw Tk Hd Wk Ad Q Un hn a1 a2 a3 a4 a5 a6 a7 a8=>?_) ⟨o4,by omega⟩ (.inl (zak _)),.inr ⟨rfl,rfl,?_,?_⟩⟩
     ·simp only[nH,lV,mF,mK,kB,jq,nQ,mO]at *;have:Aw-b1 aw+b1 aw=Aw:=by omega
      simpa[this]using hn
     ·have:=hA (.rd aw sv (it+1) ws) v;simp[nI]at *;omega
     ·have:=hB (.rd aw sv (it+1) ws);simp[Ek]at *;omega
   ·simp at hr
 |cw old sv it ws=>
  obtain⟨o1,o2,o3,o4,o5,o6,o7⟩:=hok;simp only[gK]at hr;split at hr
  ·simp only[List.mem_singleton]at hr;subst hr;rename_i hx;subst hx;refine⟨by simp,S0 _ _ _ (fun H Aw Tk Hd Wk Ad Q Un hn a1 a2 a3 a4 a5 a6 a7 a8=>?_) ⟨by simp,by omega⟩ (.inl (zak _)),.inl ?_⟩
   ·simp[nU,b1,nH,lV,mF,mK,kB,jq,nQ,mO,o1,o2,o3]at *;omega
   ·have:=hA (.rd true sv (it+1) ws) v;simp[nI]at *;omega
  ·simp only[List.mem_singleton]at hr;subst hr;refine⟨by simp,S0 _ _ _ (fun H Aw Tk Hd Wk Ad Q Un hn a1 a2 a3 a4 a5 a6 a7 a8=>?_) ⟨by simp[o5],by omega⟩ (.inl (zak _)),.inr ⟨rfl,rfl,?_,?_⟩⟩
   ·simpa[nH,lV,mF,mK,kB,jq,nQ,mO,b1]using hn
   ·have:=hA (.rd false sv (it+1) ws) v;simp[nI]at *;omega
   ·have:=hB (.rd false sv (it+1) ws);simp[Ek]at *;omega
 |rT old aw sv it ws=>
  obtain⟨o1,o2,o3,o4⟩:=hok;simp only[gK]at hr;split at hr
  ·rename_i hb;have:=(o1 hb.1).1;rw[hb.2]at this;cases this
  ·split at hr
   ·rename_i hx;subst hx;split at hr
    ·rename_i hls;simp only[List.mem_singleton]at hr;subst hr;have hq:∀φ:Lk->Nat,(φ=nH\/φ=lV\/φ=mF\/φ=mK\/φ=kB\/φ=jq\/φ=mO->φ (if ws=true then .iq sv true else .t1 sv)=0):=by rintro φ (rfl|rfl|rfl|rfl|rfl|rfl|rfl) <;>cases ws<;>rfl
     have hq1:nQ (if ws=true then .iq sv true else .t1 sv)=1:=by cases ws<;>rfl
     have hqA:nI (if ws=true then .iq sv true else .t1 sv)=6:=by cases ws<;>rfl
     refine⟨by cases ws<;>simp,S0 _ _ _ (fun H Aw Tk Hd Wk Ad Q Un hn a1 a2 a3 a4 a5 a6 a7 a8=>?_) (by cases ws<;>trivial) (.inl (by simp[NW];split<;>omega)),.inl ?_⟩
     ·rw[hq nH (by simp),hq lV (by simp),hq mF (by simp),hq mK (by simp),hq kB (by simp),hq jq (by simp),hq mO (by simp),hq1];obtain⟨l,w,s,c⟩:=x;cases l<;>cases w<;>cases s<;>cases aw<;>cases sv<;>simp[nU,b1,nH,lV,mF,mK,kB,jq,nQ,mO,NW]at*<;>omega
     ·have:=hA (if ws=true then .iq sv true else .t1 sv) v;rw[hqA]at this;cases aw<;>simp[nI]at*<;>omega
    ·rename_i hls;simp only[List.mem_singleton]at hr;subst hr;refine⟨by simp,S0 _ _ _ (fun H Aw Tk Hd Wk Ad Q Un hn a1 a2 a3 a4 a5 a6 a7 a8=>?_) trivial (.inl (by simp[NW];split<;>omega)),.inl ?_⟩
     ·obtain⟨l,w,s,c⟩:=x;cases l<;>cases w<;>cases s<;>cases aw<;>simp[nU,b1,nH,lV,mF,mK,kB,jq,nQ,mO,NW]at*<;>omega
     ·have:=hA .hold v;cases aw<;>simp[nI]at*<;>omega
   ·rename_i hx;simp only[List.mem_singleton]at hr;subst hr;refine⟨by simp,S0 _ _ _ (fun H Aw Tk Hd Wk Ad Q Un hn a1 a2 a3 a4 a5 a6 a7 a8=>?_) ⟨o2,o3⟩ (.inl (zak _)),.inr ⟨rfl,rfl,?_,?_⟩⟩
    ·simp only[nH,lV,mF,mK,kB,jq,nQ,mO]at *;have:Aw-b1 aw+b1 aw=Aw:=by omega
     simpa[this]using hn
    ·have:=hA (.rd aw sv it ws) v;simp[nI]at *;omega
    ·have:=hB (.rd aw sv it ws);simp[Ek,hx]at *;omega
 |t1 sv=>
  simp only[gK,List.mem_cons,List.not_mem_nil,or_false]at hr;have key:∀ws,Om n th x v i (.iq sv ws,x,v):=fun ws=>by
   refine⟨by simp,S0 _ _ _ (fun H Aw Tk Hd Wk Ad Q Un hn a1 a2 a3 a4 a5 a6 a7 a8=>?_) trivial (.inl (zak _)),.inr ⟨rfl,rfl,?_,?_⟩⟩
   ·simp only[nH,lV,mF,mK,kB,jq,nQ,mO]at *;have:Q-1+1=Q:=by omega
    simpa[this]using hn
   ·have:=hA (.iq sv ws) v;simp[nI]at *;omega
   ·have:=hB (.iq sv ws);simp[Ek]at *;omega
  rcases hr with rfl|rfl
  ·exact key true
  ·exact key false
 |iq sv ws=>
  simp only[gK]at hr;split at hr
  ·simp at hr
  ·rename_i hv;simp only[List.mem_singleton]at hr;subst hr;have hq:∀φ:Lk->Nat,(φ=nH\/φ=lV\/φ=mF\/φ=mK\/φ=nQ\/φ=jq\/φ=mO->φ (if sv=true then .wk true ws else .t2 ws)=0):=by rintro φ (rfl|rfl|rfl|rfl|rfl|rfl|rfl) <;>cases sv<;>rfl
   have hq1:kB (if sv=true then .wk true ws else .t2 ws)=1:=by cases sv<;>rfl
   have hqA:nI (if sv=true then .wk true ws else .t2 ws)=8:=by cases sv<;>rfl
   refine⟨by cases sv<;>simp,S0 _ _ _ (fun H Aw Tk Hd Wk Ad Q Un hn a1 a2 a3 a4 a5 a6 a7 a8=>?_) (by cases sv<;>trivial) (.inl (zak _)),.inl ?_⟩
   ·rw[hq nH (by simp),hq lV (by simp),hq mF (by simp),hq mK (by simp),hq nQ (by simp),hq jq (by simp),hq mO (by simp),hq1];obtain⟨l,w,s,c⟩:=x;cases l<;>cases w<;>cases s<;>simp[nU,b1,nH,lV,mF,mK,kB,jq,nQ,mO]at*<;>omega
   ·have:=hA (if sv=true then .wk true ws else .t2 ws) (v-1);rw[hqA]at this;simp[nI]at *;omega
 |t2 ws=>
  simp only[gK,List.mem_cons,List.not_mem_nil,or_false]at hr;have key:∀sv,Om n th x v i (.wk sv ws,x,v):=fun sv=>by
   refine⟨by simp,S0 _ _ _ (fun H Aw Tk Hd Wk Ad Q Un hn a1 a2 a3 a4 a5 a6 a7 a8=>?_) trivial (.inl (zak _)),.inr ⟨rfl,rfl,?_,?_⟩⟩
   ·simp only[nH,lV,mF,mK,kB,jq,nQ,mO]at *;have:Wk-1+1=Wk:=by omega
    simpa[this]using hn
   ·have:=hA (.wk sv ws) v;simp[nI]at *;omega
   ·have:=hB (.wk sv ws);simp[Ek]at *;omega
  rcases hr with rfl|rfl
  ·exact key false
  ·exact key true
 |wk sv ws=>
  have hwk:1<=sm (fun j=>kB (th j)) n:=zal (by rw[hT];exact zak 1:1<=kB (th i)) (dY (f:=fun j=>kB (th j)) hi);simp only[gK]at hr;split at hr
  ·rename_i hs;obtain⟨g1,g2,g3,g4,g5,g6⟩:=h.BJ hs;have hlk:=h.lk;have hl:x.l=false:=by
    cases hl:x.l with
    |false=>rfl
    |true=>rw[hl]at hlk;simp[b1]at hlk;omega
   rw[if_neg (by rw[hl,g1];simp;omega)]at hr;simp only[List.mem_singleton]at hr;subst hr;refine⟨by simp,S0 _ _ _ (fun H Aw Tk Hd Wk Ad Q Un hn a1 a2 a3 a4 a5 a6 a7 a8=>?_) ?_ (.inl (zak _)),.inl ?_⟩
   ·obtain⟨l,w,s,c⟩:=x;cases l<;>cases w<;>cases s<;>simp[nU,b1,nH,lV,mF,mK,kB,jq,nQ,mO]at*<;>omega
   ·intro e;simp at e;have:=e.2;show 2<=x.c;omega
   ·have:=hA (.add (!sv || x.c == 1)) v;simp[nI]at *;omega
  ·rename_i hs;simp only[List.mem_singleton]at hr;subst hr;have hs':x.s=false:=by simpa using hs
   obtain⟨g1,g2,g3,g4⟩:=h.norm hs';have hw:x.w=true:=by
    cases hw:x.w with
    |true=>rfl
    |false=>rw[hw]at g3;simp[b1]at g3;omega
   obtain⟨k1,k2,k3,k4,k5,k6,k7,k8⟩:=On x true sv 0 ws;refine⟨Oo _ _ _ _ _,S0 _ _ _ (fun H Aw Tk Hd Wk Ad Q Un hn a1 a2 a3 a4 a5 a6 a7 a8=>?_) (T8 (fun _=>rfl) (by omega) hc (fun _=>⟨hw,hs'⟩)) (.inl (zak _)),.inl ?_⟩
   ·rw[k1,k2,k3,k4,k5,k6,k7,k8];obtain⟨l,w,s,c⟩:=x;cases l<;>cases w<;>cases s<;>simp[nU,b1,nH,lV,mF,mK,kB,jq,nQ,mO]at*<;>omega
   ·have:=hA (mz x true sv 0 ws) v;rw[ZK]at this;simp[nI]at *;omega
 |add cl=>
  have had:1<=sm (fun j=>jq (th j)) n:=zal (by rw[hT];exact zak 1:1<=jq (th i)) (dY (f:=fun j=>jq (th j)) hi);have hs:x.s=true:=by
   cases hs:x.s with
   |true=>rfl
   |false=>have:=(h.norm hs).2.1;omega
  obtain⟨g1,g2,g3,g4,g5,g6⟩:=h.BJ hs;have hlk:=h.lk;have hl:x.l=false:=by
   cases hl:x.l with
   |false=>rfl
   |true=>rw[hl]at hlk;simp[b1]at hlk;omega
  simp only[gK]at hr;rw[if_neg (by rw[hl,hs];simp;omega)]at hr;simp only[List.mem_singleton]at hr;subst hr;have eK:∀j,j<n->j≠i->jq (th j)=0:=fun j hj hji=>by have e1:=mE jq th .out hi;have e2:=dY (f:=fun q=>jq (aI th i .out q)) hj;rw[bp th .out hji]at e2;rw[hT]at e1;have e3:jq (.add cl)=1:=rfl;have e4:jq .out=0:=rfl;omega
  refine⟨by simp,S0 _ _ _ (fun H Aw Tk Hd Wk Ad Q Un hn a1 a2 a3 a4 a5 a6 a7 a8=>?_) trivial (.inr eK),.inl ?_⟩
  ·obtain⟨l,w,s,c⟩:=x;cases l<;>cases w<;>cases s<;>cases cl<;>simp[nU,b1,nH,lV,mF,mK,kB,jq,nQ,mO,VK]at*<;>omega
  ·have:=hA .hold v;simp[nI]at *;omega
 |hold=>
  have hh:1<=sm (fun j=>nH (th j)) n:=zal (by rw[hT];exact zak 1:1<=nH (th i)) (dY (f:=fun j=>nH (th j)) hi);have hlk:=h.lk;have hl:x.l=true:=by
   cases hl:x.l with
   |true=>rfl
   |false=>rw[hl]at hlk;simp[b1]at hlk;omega
  simp only[gK,hl,if_true,List.mem_singleton]at hr;subst hr;refine⟨by simp only[vT];split<;>(try split) <;>simp,S0 _ _ _ (fun H Aw Tk Hd Wk Ad Q Un hn a1 a2 a3 a4 a5 a6 a7 a8=>?_) ?_ (.inl (zak _)),.inl ?_⟩
  ·obtain⟨l,w,s,c⟩:=x;by_cases hc0:c=0<;>cases l<;>cases w<;>cases s<;>simp[nU,b1,nH,lV,mF,mK,kB,jq,nQ,mO,vT,hc0]at*<;>omega
  ·simp only[vT];split
   ·trivial
   ·split
    ·trivial
    ·rename_i h1 h2;simp at h1 h2;exact⟨rfl,h2.2,h1,h2.1,hc⟩
  ·have e:nI (vT {x with l:=false})<=5:=by unfold vT;split<;>(try split) <;>simp[nI]
   have:=hA (vT {x with l:=false}) v;simp[nI]at *;omega
 |GX old=>
  obtain⟨o1,o2,o3,o4,o5⟩:=hok;simp only[gK]at hr;split at hr
  ·rename_i hx;subst hx;simp only[List.mem_singleton]at hr;subst hr;refine⟨by simp,S0 _ _ _ (fun H Aw Tk Hd Wk Ad Q Un hn a1 a2 a3 a4 a5 a6 a7 a8=>?_) trivial (.inr (fun j hj _=>?_)),.inl ?_⟩
   ·obtain⟨l,w,s,c⟩:=x;cases l<;>cases w<;>cases s<;>simp[nU,b1,nH,lV,mF,mK,kB,jq,nQ,mO]at*<;>omega
   ·have:=(h.norm o3).2.1;have:=dY (f:=fun q=>jq (th q)) hj;omega
   ·have:=hA .tok v;simp[nI]at *;omega
  ·rename_i hx;simp only[List.mem_singleton]at hr;subst hr;refine⟨by simp,S0 _ _ _ (fun H Aw Tk Hd Wk Ad Q Un hn a1 a2 a3 a4 a5 a6 a7 a8=>?_) trivial (.inl (zak _)),.inr ⟨rfl,rfl,?_,?_⟩⟩
   ·simp only[nH,lV,mF,mK,kB,jq,nQ,mO]at *;have:Un-1+1=Un:=by omega
    simpa[this]using hn
   ·have:=hA .JV v;simp[nI]at *;omega
   ·have:=hB .JV;simp[Ek,hx]at *;omega
 |JV=>
  simp only[gK,List.mem_singleton]at hr;subst hr;split
  ·rename_i hx;refine⟨by simp,S0 _ _ _ (fun H Aw Tk Hd Wk Ad Q Un hn a1 a2 a3 a4 a5 a6 a7 a8=>?_) trivial (.inl (zak _)),.inl ?_⟩
   ·obtain⟨l,w,s,c⟩:=x;cases l<;>cases w<;>cases s<;>simp[nU,b1,nH,lV,mF,mK,kB,jq,nQ,mO]at*<;>omega
   ·have:=hA .out v;simp[nI]at *;omega
  ·rename_i hx;simp only[not_or,Bool.not_eq_true]at hx;refine⟨by simp,S0 _ _ _ (fun H Aw Tk Hd Wk Ad Q Un hn a1 a2 a3 a4 a5 a6 a7 a8=>?_) ⟨hx.2.1,hx.2.2.1,hx.2.2.2,hx.1,hc⟩ (.inl (zak _)),.inr ⟨rfl,rfl,?_,?_⟩⟩
   ·simp only[nH,lV,mF,mK,kB,jq,nQ,mO]at *;have:Un-1+1=Un:=by omega
    simpa[this]using hn
   ·have:=hA (.GX x) v;simp[nI]at *;omega
   ·have:=hB (.GX x);simp[Ek]at *;omega
 |tok=>
  simp only[gK,List.mem_singleton]at hr;subst hr;refine⟨by simp,S0 _ _ _ (fun H Aw Tk Hd Wk Ad Q Un hn a1 a2 a3 a4 a5 a6 a7 a8=>?_) trivial (.inl (zak _)),.inl ?_⟩
  ·obtain⟨l,w,s,c⟩:=x;cases l<;>cases w<;>cases s<;>simp[nU,b1,nH,lV,mF,mK,kB,jq,nQ,mO]at*<;>omega
  ·have:=hA .out (v+1);simp[nI]at *;omega
 |hand=>
  simp only[gK,List.mem_singleton]at hr;subst hr;refine⟨by simp,S0 _ _ _ (fun H Aw Tk Hd Wk Ad Q Un hn a1 a2 a3 a4 a5 a6 a7 a8=>?_) trivial (.inl (zak _)),.inl ?_⟩
  ·obtain⟨l,w,s,c⟩:=x;cases l<;>cases w<;>cases s<;>simp[nU,b1,nH,lV,mF,mK,kB,jq,nQ,mO]at*<;>omega
  ·have:=hA .out (v+1);simp[nI]at *;omega
theorem H7{th:Nat->Lk}(h:∀i,i<n->th i=.out\/th i=.uI):j6 n th ⟨false,false,false,0⟩ 0:=by have z:∀φ:Lk->Nat,φ .out=0->φ .uI=0->sm (fun i=>φ (th i)) n=0:=fun φ h1 h2=>tB (fun i hi=>by rcases h i hi with e|e<;>rw[e]<;>assumption);refine J2 ?_ (fun i hi=>by rcases h i hi with e|e<;>rw[e]<;>trivial);unfold BK;rw[z nH rfl rfl,z lV rfl rfl,z mF rfl rfl,z mK rfl rfl,z kB rfl rfl,z jq rfl rfl,z nQ rfl rfl,z mO rfl rfl];simp[nU,b1]
theorem j6.begin{th:Nat->Lk}{x:Wd}{v:Nat}(h:j6 n th x v)(hi:i<n)(ho:th i=.out):j6 n (aI th i .uI) x v:=
 EV h hi .uI (fun H Aw Tk Hd Wk Ad Q Un hn _ _ _ _ _ _ _ _=>by simpa[ho,nH,lV,mF,mK,kB,jq,nQ,mO]using hn) trivial (.inl (zak _))
theorem R4{T:Lk}{x:Wd}{v:Nat}(h:gK T x v= []):T=.out\/T=.bad\/(v=0/\∃sv ws,T=.iq sv ws):=by
 cases T with
 |out=>exact .inl rfl
 |bad=>exact .inr (.inl rfl)
 |iq sv ws=>
  simp only[gK]at h;split at h
  ·exact .inr (.inr ⟨by assumption,sv,ws,rfl⟩)
  ·cases h
 |uI=>simp only[gK]at h;split at h<;>cases h
 |rd aw sv it ws=>simp[gK]at h
 |Au old aw sv it ws=>simp[gK]at h
 |cw old sv it ws=>simp only[gK]at h;split at h<;>cases h
 |rT old aw sv it ws=>simp only[gK]at h;split at h<;>(try split at h) <;>(try split at h) <;>cases h
 |t1 sv=>simp[gK]at h
 |t2 ws=>simp[gK]at h
 |wk sv ws=>simp only[gK]at h;split at h<;>(try split at h) <;>cases h
 |add cl=>simp only[gK]at h;split at h<;>cases h
 |hold=>simp only[gK]at h;split at h<;>cases h
 |GX old=>simp only[gK]at h;split at h<;>cases h
 |JV=>simp[gK]at h
 |tok=>simp[gK]at h
 |hand=>simp[gK]at h
theorem j6.live{th:Nat->Lk}{x:Wd}{v:Nat}(h:j6 n th x v)(hi:i<n)(hne:th i≠.out):∃j,j<n/\gK (th j) x v≠ []:=by
 refine Classical.byContradiction fun hno=>?_;have hall:∀j,j<n->th j=.out\/(v=0/\∃sv ws,th j=.iq sv ws):=fun j hj=>by
  have hm:gK (th j) x v= []:=Classical.byContradiction fun e=>hno ⟨j,hj,e⟩;rcases R4 hm with e|e|e
  ·exact .inl e
  ·have:=h.ok j hj;rw[e]at this;exact this.elim
  ·exact .inr e
 have hv:v=0:=by
  rcases hall i hi with e|e
  ·exact absurd e hne
  ·exact e.1
 have z:∀φ:Lk->Nat,φ .out=0->(∀sv ws,φ (.iq sv ws)=0)->sm (fun j=>φ (th j)) n=0:=fun φ h1 h2=>tB (fun j hj=>by
  rcases hall j hj with e|⟨_,sv,ws,e⟩
  ·rw[e];exact h1
  ·rw[e];exact h2 sv ws)
 have hQ:1<=sm (fun j=>nQ (th j)) n:=by
  refine zal ?_ (dY (f:=fun j=>nQ (th j)) hi);rcases hall i hi with e|⟨_,sv,ws,e⟩
  ·exact absurd e hne
  ·rw[e];exact zak 1
 have h1:=h.num;unfold BK at h1;rw[z nH rfl (fun _ _=>rfl),z lV rfl (fun _ _=>rfl),z mF rfl (fun _ _=>rfl),z mK rfl (fun _ _=>rfl),z kB rfl (fun _ _=>rfl),z jq rfl (fun _ _=>rfl),z mO rfl (fun _ _=>rfl)]at h1;obtain⟨l,w,s,c⟩:=x;cases l<;>cases w<;>cases s<;>simp[nU,b1]at h1<;>omega
theorem j6.fin{th:Nat->Lk}{x:Wd}{v:Nat}(h:j6 n th x v)(hall:∀j,j<n->th j=.out):x=⟨false,false,false,0⟩/\v=0:=by have z:∀φ:Lk->Nat,φ .out=0->sm (fun j=>φ (th j)) n=0:=fun φ h1=>tB (fun j hj=>by rw[hall j hj];exact h1);have h1:=h.num;unfold BK at h1;rw[z nH rfl,z lV rfl,z mF rfl,z mK rfl,z kB rfl,z jq rfl,z nQ rfl,z mO rfl]at h1;obtain⟨l,w,s,c⟩:=x;cases l<;>cases w<;>cases s<;>simp[nU,b1]at h1<;>first|omega|(refine⟨?_,by omega⟩;congr;omega)
def Wd.val(x:Wd):Nat:=b1 x.l+2*b1 x.w+4*b1 x.s+8*x.c
theorem Wd.val_inj{x y:Wd}(h:x.val=y.val):x=y:=by obtain⟨l,w,s,c⟩:=x;obtain⟨l',w',s',c'⟩:=y;cases l<;>cases w<;>cases s<;>cases l'<;>cases w'<;>cases s'<;>simp[Wd.val,b1]at h⊢<;>omega
inductive Ws where
 |nb|wk|d2|d3|d4|qt
 deriving DecidableEq
inductive Ct where
 |sp (r:Nat)|a1 (r:Nat)|ar (r:Nat)|ae (r:Nat)|go (r:Nat)
 |w1|w2 (vs:Nat)|Q1|w3|w4|ke|aq|rt
 deriving DecidableEq
structure Gw where
 v:Nat
 wt:Bool
 sm:Nat
 deriving DecidableEq
def kN:Ws->Nat|.nb=>1|_=>0
def kW:Ws->Nat|.wk=>1|_=>0
def kD:Ws->Nat|.d2=>1|.d3=>1|.d4=>1|_=>0
def k4:Ws->Nat|.d4=>1|_=>0
def Ct.left:Ct->Nat
 |.sp r|.a1 r|.ar r|.ae r|.go r=>r
 |_=>0
def Ct.pend:Ct->Nat
 |.ar _|.ae _|.go _=>1
 |_=>0
def Ct.open:Ct->Bool
 |.sp _|.a1 _|.ar _|.ae _|.go _|.w1|.w2 _=>true
 |_=>false
def Ct.waits:Ct->Bool
 |.Q1|.w3=>true
 |_=>false
def Qh(T:Ws)(g:Gw):Option (Ws×Gw):=
 match T with
 |.wk=>if g.v=0 then none else some (if g.v=1/\g.wt=true then .d2 else .qt,{g with v:=g.v-1})
 |.d2=>if g.v=0/\g.wt=true then some (.d3,g)else none
 |.d3=>some (.d4,{g with v:=0,wt:=false})
 |.d4=>some (.qt,{g with sm:=g.sm+1})
 |_=>none
def oU(c:Ct)(g:Gw):Option (Ct×Gw):=
 match c with
 |.sp r=>some (if r=0 then .w1 else .a1 r,g)
 |.a1 r=>some (if g.v=0 then .ar r else .ae r,{g with v:=g.v+1})
 |.ar r=>some (.ae r,g)
 |.ae r=>some (.go r,g)
 |.go _=>none
 |.w1=>some (if g.v=0 then .ke else .w2 g.v,g)
 |.w2 vs=>some (if g.v=vs then(.Q1,{g with wt:=true})else(.w1,g))
 |.Q1=>some (.w3,g)
 |.w3=>if g.sm=0 then none else some (.w4,{g with sm:=g.sm-1})
 |.w4=>if g.v=0/\g.wt=false then some (.ke,g)else none
 |.ke=>some (.aq,g)
 |.aq=>some (.rt,g)
 |.rt=>none
structure zP(N W D F:Nat)(c:Ct)(g:Gw):Prop where
 left:N=c.left
 a1:∀r,c=.a1 r\/c=.ar r\/c=.ae r\/c=.go r->1<=r
 opn:c.open=true->g.v=W+c.pend/\g.wt=false/\g.sm=0/\D=0
 w2:∀vs,c=.w2 vs->g.v<=vs/\1<=vs
 wait:c.waits=true->(g.v=W/\1<=g.v/\g.wt=true/\g.sm=0/\D=0)\/(g.v=0/\W=0/\g.sm=0/\D=1/\g.wt=decide (F=0))\/(g.v=0/\W=0/\g.wt=false/\g.sm=1/\D=0)
 fin:c.open=false->c.waits=false->g.v=0/\g.wt=false/\g.sm=0/\W=0/\D=0
def fV(n:Nat)(ws:Nat->Ws)(c:Ct)(g:Gw):Prop:=
 zP (sm (fun i=>kN (ws i)) n) (sm (fun i=>kW (ws i)) n) (sm (fun i=>kD (ws i)) n) (sm (fun i=>k4 (ws i)) n) c g
def Je:Ws->Nat|.nb=>7|.wk=>6|.d2=>4|.d3=>3|.d4=>2|.qt=>1
def Ce(n v:Nat):Ct->Nat
 |.sp r=>8*n+20+8*r+5
 |.a1 r=>8*n+20+8*r+4
 |.ar r=>8*n+20+8*r+3
 |.ae r=>8*n+20+8*r+2
 |.go r=>8*n+20+8*r+1
 |.w1=>8*v+7
 |.w2 vs=>8*vs+6
 |.Q1=>6
 |.w3=>5
 |.w4=>4
 |.ke=>3
 |.aq=>2
 |.rt=>1
def Nl(n:Nat)(ws:Nat->Ws)(c:Ct):Nat:=Ce n (sm (fun i=>kW (ws i)) n) c+sm (fun i=>Je (ws i)) n
theorem Qi(n:Nat)(ws:Nat->Ws):sm (fun i=>kW (ws i)) n<=n:=by have:=BI (f:=fun i=>kW (ws i)) (c:=1) (fun i=>by cases ws i<;>simp[kW]) n;omega
theorem Qj(n:Nat){v v':Nat}(h:v'<=v)(c:Ct):Ce n v' c<=Ce n v c:=by cases c<;>simp only[Ce]<;>omega
theorem stepW{ws:Nat->Ws}{c:Ct}{g:Gw}(h:fV n ws c g)(hi:i<n){T':Ws}{g':Gw}(hm:Qh (ws i) g=some (T',g')):fV n (aI ws i T') c g'/\Nl n (aI ws i T') c<Nl n ws c:=by
 have e:∀φ:Ws->Nat,sm (fun j=>φ (aI ws i T' j)) n=sm (fun j=>φ (ws j)) n-φ (ws i)+φ T':=fun φ=>by have h1:=mE φ ws T' hi;have h2:=dY (f:=fun j=>φ (ws j)) hi;omega
 have l:∀φ:Ws->Nat,φ (ws i)<=sm (fun j=>φ (ws j)) n:=fun φ=>dY (f:=fun j=>φ (ws j)) hi;have lN:=l kN;have lW:=l kW;have lD:=l kD;have l4:=l k4;have lr:=l Je;have h4D:sm (fun j=>k4 (ws j)) n<=sm (fun j=>kD (ws j)) n:=by
  have:=yE (fun j=>k4 (ws j)) (fun j=>kD (ws j)-k4 (ws j)) n;have e2:(fun j=>k4 (ws j)+(kD (ws j)-k4 (ws j)))=fun j=>kD (ws j):=by funext j;cases ws j<;>rfl
  rw[e2]at this;omega
 have key:kW T'<=kW (ws i)->Je T'<Je (ws i)->Nl n (aI ws i T') c<Nl n ws c:=fun a b=>by unfold Nl;have:=Qj n (v:=sm (fun j=>kW (ws j)) n) (v':=sm (fun j=>kW (aI ws i T' j)) n) (by rw[e kW];omega) c;rw[e Je];omega
 unfold fV at h⊢;rw[e kN,e kW,e kD,e k4];clear e l;generalize sm (fun j=>kN (ws j)) n=N at *;generalize sm (fun j=>kW (ws j)) n=W at *;generalize sm (fun j=>kD (ws j)) n=D at *;generalize sm (fun j=>k4 (ws j)) n=F at *;generalize sm (fun j=>Je (ws j)) n=R at *;obtain⟨h1,ha,h2,h3,h4,h5⟩:=h;obtain⟨v,wt,s⟩:=g;simp only at h2 h3 h4 h5;generalize hT:ws i=T at *;cases T with
 |nb=>simp[Qh]at hm
 |qt=>simp[Qh]at hm
 |wk=>
  simp only[Qh]at hm;split at hm
  ·cases hm
  rename_i hv;simp only[Option.some.injEq,Prod.mk.injEq]at hm;obtain⟨XQ,rfl⟩:=hm;refine⟨?_,key (by rw[<-XQ];split<;>simp[kW]) (by rw[<-XQ];split<;>simp[Je])⟩;clear key;by_cases hb:v=1/\wt=true
  ·rw[if_pos hb]at XQ;obtain⟨rfl,rfl⟩:=hb;subst XQ;simp only[kN,kW,kD,k4]at *;refine⟨by omega,ha,fun ho=>?_,fun vs hvs=>?_,fun hw=>?_,fun ho hw=>?_⟩
   ·have:=h2 ho;simp at this
   ·have:=h3 vs hvs;simp;omega
   ·rcases h4 hw with q|q|q
    ·right;left;simp;omega
    ·omega
    ·simp at q
   ·have:=h5 ho hw;omega
  ·rw[if_neg hb]at XQ;subst XQ;simp only[kN,kW,kD,k4]at *;refine⟨by omega,ha,fun ho=>?_,fun vs hvs=>?_,fun hw=>?_,fun ho hw=>?_⟩
   ·have:=h2 ho;exact⟨by simp;omega,this.2.1,this.2.2.1,by omega⟩
   ·have:=h3 vs hvs;simp;omega
   ·rcases h4 hw with q|q|q
    ·obtain⟨q1,q2,q3,q4,q5⟩:=q;subst q3;left;exact⟨by simp;omega,by simp at hb⊢;omega,rfl,q4,by omega⟩
    ·omega
    ·omega
   ·have:=h5 ho hw;omega
 |d2=>
  simp only[Qh]at hm;split at hm
  ·simp only[Option.some.injEq,Prod.mk.injEq]at hm;obtain⟨rfl,rfl⟩:=hm;refine⟨?_,key (by simp[kW]) (by simp[Je])⟩;simp only[kN,kW,kD,k4]at *;have e1:N-0+0=N:=by omega
   have e2:W-0+0=W:=by omega
   have e3:D-1+1=D:=by omega
   have e4:F-0+0=F:=by omega
   rw[e1,e2,e3,e4];exact⟨h1,ha,h2,h3,h4,h5⟩
  ·cases hm
 |d3=>
  simp only[Qh,Option.some.injEq,Prod.mk.injEq]at hm;obtain⟨rfl,rfl⟩:=hm;refine⟨?_,key (by simp[kW]) (by simp[Je])⟩;clear key;simp only[kN,kW,kD,k4]at *;refine⟨by omega,ha,fun ho=>?_,fun vs hvs=>?_,fun hw=>?_,fun ho hw=>?_⟩
  ·have:=h2 ho;omega
  ·have:=h3 vs hvs;simp;omega
  ·rcases h4 hw with q|q|q
   ·omega
   ·right;left;simp;omega
   ·omega
  ·have:=h5 ho hw;omega
 |d4=>
  simp only[Qh,Option.some.injEq,Prod.mk.injEq]at hm;obtain⟨rfl,rfl⟩:=hm;refine⟨?_,key (by simp[kW]) (by simp[Je])⟩;clear key;simp only[kN,kW,kD,k4]at *;refine⟨by omega,ha,fun ho=>?_,fun vs hvs=>?_,fun hw=>?_,fun ho hw=>?_⟩
  ·have:=h2 ho;omega
  ·have:=h3 vs hvs;exact this
  ·rcases h4 hw with q|q|q
   ·omega
   ·obtain⟨q1,q2,q3,q4,q5⟩:=q;have:¬F=0:=by omega
    simp[this]at q5;right;right;simp[q5];omega
   ·omega
  ·have:=h5 ho hw;omega
theorem aaZ{ws:Nat->Ws}{c c':Ct}{g g':Gw}(h:fV n ws c g)(hm:oU c g=some (c',g')):fV n ws c' g'/\Nl n ws c'<Nl n ws c:=by
 have hW:=Qi n ws;unfold fV at h⊢;unfold Nl;generalize sm (fun j=>kN (ws j)) n=N at *;generalize sm (fun j=>kW (ws j)) n=W at *;generalize sm (fun j=>kD (ws j)) n=D at *;generalize sm (fun j=>k4 (ws j)) n=F at *;generalize sm (fun j=>Je (ws j)) n=R at *;obtain⟨h1,ha,h2,h3,h4,h5⟩:=h;obtain⟨v,wt,s⟩:=g;simp only at h2 h3 h4 h5;cases c with
 |sp r=>
  obtain⟨q1,q2,q3,q4⟩:=h2 rfl;simp only[oU,Option.some.injEq,Prod.mk.injEq]at hm;obtain⟨rfl,rfl⟩:=hm;by_cases hr:r=0
  ·subst hr;simp only[if_true];exact⟨⟨h1,by simp,fun _=>⟨q1,q2,q3,q4⟩,by simp,by simp[Ct.waits],by simp[Ct.open]⟩,by simp only[Ce];omega⟩
  ·simp only[hr,if_false];exact⟨⟨h1,fun r' h=>by simp at h;omega,fun _=>⟨q1,q2,q3,q4⟩,by simp,by simp[Ct.waits],by simp[Ct.open]⟩,by simp only[Ce];omega⟩
 |a1 r=>
  obtain⟨q1,q2,q3,q4⟩:=h2 rfl;have hr:=ha r (.inl rfl);simp only[oU,Option.some.injEq,Prod.mk.injEq]at hm;obtain⟨rfl,rfl⟩:=hm;simp only[Ct.pend,Nat.add_zero]at q1;by_cases hv:v=0
  ·simp only[hv,if_true];exact⟨⟨h1,fun r' h=>by simp at h;omega,fun _=>⟨by simp[Ct.pend];omega,q2,q3,q4⟩,by simp,by simp[Ct.waits],by simp[Ct.open]⟩,by simp only[Ce];omega⟩
  ·simp only[hv,if_false];exact⟨⟨h1,fun r' h=>by simp at h;omega,fun _=>⟨by simp[Ct.pend];omega,q2,q3,q4⟩,by simp,by simp[Ct.waits],by simp[Ct.open]⟩,by simp only[Ce];omega⟩
 |ar r=>
  have hr:=ha r (.inr (.inl rfl));simp only[oU,Option.some.injEq,Prod.mk.injEq]at hm;obtain⟨rfl,rfl⟩:=hm;exact⟨⟨h1,fun r' h=>by simp at h;omega,fun _=>h2 rfl,by simp,by simp[Ct.waits],by simp[Ct.open]⟩,by simp only[Ce];omega⟩
 |ae r=>
  have hr:=ha r (.inr (.inr (.inl rfl)));simp only[oU,Option.some.injEq,Prod.mk.injEq]at hm;obtain⟨rfl,rfl⟩:=hm;exact⟨⟨h1,fun r' h=>by simp at h;omega,fun _=>h2 rfl,by simp,by simp[Ct.waits],by simp[Ct.open]⟩,by simp only[Ce];omega⟩
 |go r=>simp[oU]at hm
 |w1=>
  obtain⟨q1,q2,q3,q4⟩:=h2 rfl;simp only[oU,Option.some.injEq,Prod.mk.injEq]at hm;obtain⟨rfl,rfl⟩:=hm;simp only[Ct.pend,Nat.add_zero]at q1;by_cases hv:v=0
  ·simp only[hv,if_true];exact⟨⟨h1,by simp,by simp[Ct.open],by simp,by simp[Ct.waits],fun _ _=>⟨rfl,q2,q3,by omega,q4⟩⟩,by simp only[Ce];omega⟩
  ·simp only[hv,if_false];exact⟨⟨h1,by simp,fun _=>⟨q1,q2,q3,q4⟩,fun vs h=>by simp at h;subst h;simp;omega,by simp[Ct.waits],by simp[Ct.open]⟩,by simp only[Ce];omega⟩
 |w2 vs=>
  obtain⟨q1,q2,q3,q4⟩:=h2 rfl;obtain⟨q5,q6⟩:=h3 vs rfl;simp only[oU,Option.some.injEq]at hm;simp only[Ct.pend,Nat.add_zero]at q1;by_cases hv:v=vs
  ·simp only[hv,if_true,Prod.mk.injEq]at hm;obtain⟨rfl,rfl⟩:=hm;exact⟨⟨h1,by simp,by simp[Ct.open],by simp,fun _=>.inl ⟨by simp;omega,by simp;omega,rfl,q3,q4⟩,by simp[Ct.open,Ct.waits]⟩,by simp only[Ce];omega⟩
  ·simp only[hv,if_false,Prod.mk.injEq]at hm;obtain⟨rfl,rfl⟩:=hm;exact⟨⟨h1,by simp,fun _=>⟨q1,q2,q3,q4⟩,by simp,by simp[Ct.waits],by simp[Ct.open]⟩,by simp only[Ce];omega⟩
 |Q1=>
  simp only[oU,Option.some.injEq,Prod.mk.injEq]at hm;obtain⟨rfl,rfl⟩:=hm;exact⟨⟨h1,by simp,by simp[Ct.open],by simp,fun _=>h4 rfl,by simp[Ct.open,Ct.waits]⟩,by simp only[Ce];omega⟩
 |w3=>
  simp only[oU]at hm;split at hm
  ·cases hm
  rename_i hs;simp only[Option.some.injEq,Prod.mk.injEq]at hm;obtain⟨rfl,rfl⟩:=hm;rcases h4 rfl with q|q|q
  ·omega
  ·omega
  ·obtain⟨p1,p2,p3,p4,p5⟩:=q;exact⟨⟨h1,by simp,by simp[Ct.open],by simp,by simp[Ct.waits],fun _ _=>⟨p1,p3,by simp;omega,p2,p5⟩⟩,by simp only[Ce];omega⟩
 |w4=>
  simp only[oU]at hm;split at hm
  ·simp only[Option.some.injEq,Prod.mk.injEq]at hm;obtain⟨rfl,rfl⟩:=hm;exact⟨⟨h1,by simp,by simp[Ct.open],by simp,by simp[Ct.waits],fun _ _=>h5 rfl rfl⟩,by simp only[Ce];omega⟩
  ·cases hm
 |ke=>
  simp only[oU,Option.some.injEq,Prod.mk.injEq]at hm;obtain⟨rfl,rfl⟩:=hm;exact⟨⟨h1,by simp,by simp[Ct.open],by simp,by simp[Ct.waits],fun _ _=>h5 rfl rfl⟩,by simp only[Ce];omega⟩
 |aq=>
  simp only[oU,Option.some.injEq,Prod.mk.injEq]at hm;obtain⟨rfl,rfl⟩:=hm;exact⟨⟨h1,by simp,by simp[Ct.open],by simp,by simp[Ct.waits],fun _ _=>h5 rfl rfl⟩,by simp only[Ce];omega⟩
 |rt=>simp[oU]at hm
theorem WS{ws:Nat->Ws}{g:Gw}(h:fV n ws (.go (r+1)) g)(hi:i<n)(hb:ws i=.nb):fV n (aI ws i .wk) (.sp r) g/\Nl n (aI ws i .wk) (.sp r)<Nl n ws (.go (r+1)):=by
 have e:∀φ:Ws->Nat,sm (fun j=>φ (aI ws i .wk j)) n=sm (fun j=>φ (ws j)) n-φ .nb+φ .wk:=fun φ=>by have h1:=mE φ ws .wk hi;have h2:=dY (f:=fun j=>φ (ws j)) hi;rw[hb]at h1 h2;omega
 have l:∀φ:Ws->Nat,φ .nb<=sm (fun j=>φ (ws j)) n:=fun φ=>by have:=dY (f:=fun j=>φ (ws j)) hi;rw[hb]at this;exact this
 have lN:=l kN;have lr:=l Je;unfold fV at h⊢;unfold Nl;rw[e kN,e kW,e kD,e k4,e Je];clear e l;generalize sm (fun j=>kN (ws j)) n=N at *;generalize sm (fun j=>kW (ws j)) n=W at *;generalize sm (fun j=>kD (ws j)) n=D at *;generalize sm (fun j=>k4 (ws j)) n=F at *;generalize sm (fun j=>Je (ws j)) n=R at *;obtain⟨h1,ha,h2,h3,h4,h5⟩:=h;obtain⟨q1,q2,q3,q4⟩:=h2 rfl;simp only[Ct.left,Ct.pend]at h1 q1;simp only[kN,kW,kD,k4,Je]at *;exact⟨⟨by simp only[Ct.left];omega,by simp,fun _=>⟨by simp only[Ct.pend];omega,q2,q3,by omega⟩,by simp,by simp[Ct.waits],by simp[Ct.open]⟩,by simp only[Ce];omega⟩
theorem Jf(n:Nat){ws:Nat->Ws}(h:∀i,i<n->ws i=.nb):fV n ws (.sp n) ⟨0,false,0⟩:=by
 have z:∀φ:Ws->Nat,φ .nb=0->sm (fun i=>φ (ws i)) n=0:=fun φ h1=>tB fun i hi=>by rw[h i hi];exact h1
 have zN:∀m,m<=n->sm (fun i=>kN (ws i)) m=m:=by
  intro m;induction m with
  |zero=>intro _;rfl
  |succ m ih=>intro hm;simp only[sm];rw[ih (by omega),h m (by omega)];rfl
 unfold fV;rw[zN n (zak _),z kW rfl,z kD rfl,z k4 rfl];exact⟨rfl,by simp,fun _=>⟨rfl,rfl,rfl,rfl⟩,by simp,by simp[Ct.waits],by simp[Ct.open]⟩
theorem fV.live{ws:Nat->Ws}{g:Gw}(h:fV n ws .w3 g)(hs:g.sm=0):∃i,i<n/\(ws i=.wk\/ws i=.d2\/ws i=.d3\/ws i=.d4):=by
 have:0<sm (fun i=>kW (ws i)) n\/0<sm (fun i=>kD (ws i)) n:=by
  rcases zP.wait h rfl with q|q|q
  ·exact .inl (by omega)
  ·exact .inr (by omega)
  ·omega
 rcases this with h|h
 ·obtain⟨i,hi,hp⟩:=H6 h;refine⟨i,hi,.inl ?_⟩;revert hp;cases ws i<;>simp[kW]
 ·obtain⟨i,hi,hp⟩:=H6 h;refine⟨i,hi,.inr ?_⟩;revert hp;cases ws i<;>simp[kD]
section
open Go Go.Conc
inductive Tp where
 |lk (T:Lk) (m:Nat)
 |mn (c:Ct)
structure au where
 own:Nat->Prop
 pos:Tp
 fu:Nat
abbrev ew:=(O:au)->Exit->Act->World->Prop
abbrev uK:=(O:au)->World->World->Prop
abbrev uL:=(O:au)->World->World->Array Event->Prop
abbrev xV:=(O:au)->Goroutine->World->Prop
def au.grow(O:au)(w w':World):au:=⟨fun i=>O.own i\/(w.heap.size<=i/\i<w'.heap.size),O.pos,O.fu⟩
def au.jump(O:au)(own:Nat->Prop)(p:Tp):au:=⟨own,p,O.fu-1⟩
theorem au.dh(O:au){w w':World}(h:w'.heap.size=w.heap.size):O.grow w w'=O:=by obtain⟨own,p,k⟩:=O;simp only[au.grow,h,au.mk.injEq,and_true];funext i;simp only[eq_iff_iff];exact⟨fun x=>x.elim id (fun y=>by omega),.inl⟩
structure Jm where
 to:au->Goroutine->World->((Nat->Prop)->Tp->Goroutine->World->Prop)->Prop
 mono:∀{O:au} {g:Goroutine} {w:World} {K K':(Nat->Prop)->Tp->Goroutine->World->Prop},(∀own p g w,K own p g w->K' own p g w)->to O g w K->to O g w K'
def Qk(P:Program)(main:Bool)(R:uK)(D:uL)(B:xV):Nat->xV
 | 0,O,g,w=>B O g w
 |n+1,O,g,w=>B O g w\/(g.status=.running/\∀w₁,R O w w₁->(stepG P main g w₁).goes fun g' w' es=>D O w₁ w' es/\Qk P main R D B n (O.grow w₁ w') g' w')
def XR(P:Program)(main:Bool)(J:Jm)(R:uK)(D:uL)(Stop:xV):Nat->Nat->xV
 | 0,_,_,_,_=>True
 |k+1,n,O,g,w=>Qk P main R D (fun O g w=>(∀w₁,R O w w₁->Stop O g w₁)\/(g.status=.running/\∀w₁,R O w w₁->J.to O g w₁ fun own p g' w'=>∃n',XR P main J R D Stop k n' ⟨own,p,k⟩ g' w')) n O g w
def cy(P:Program)(main:Bool)(J:Jm)(R:uK)(D:uL)(Stop:xV)(n:Nat)(O:au)(g:Goroutine)(w:World):Prop:=XR P main J R D Stop O.fu n O g w
def WT(P:Program)(main:Bool)(J:Jm)(R:uK)(D:uL)(Stop:xV)(O:au)(g:Goroutine)(w:World):Prop:=
 (∀w₁,R O w w₁->Stop O g w₁)\/(g.status=.running/\∀w₁,R O w w₁->J.to O g w₁ fun own p g' w'=>∃n',cy P main J R D Stop n' (O.jump own p) g' w')
structure bY(R:uK)(D:uL):Prop where
 refl:∀O w,R O w w
 trans:∀O a b c,R O a b->R O b c->R O a c
 idle:∀O w,D O w w #[]
theorem GStep.goes_mono{s:GStep}{K K':Goroutine->World->Array Event->Prop}(h:s.goes K)(hk:∀g w es,K g w es->K' g w es):s.goes K':=by
 cases s<;>first|exact hk _ _ _ h|exact h
section
variable {P:Program}{main:Bool}{J:Jm}{R:uK}{D:uL}{Stop:xV}{n m:Nat}{O:au}{g:Goroutine}{w:World}
theorem Qk.imp{B B':xV}(hb:∀(O':au) g w,O'.fu=O.fu->B O' g w->B' O' g w)(h:Qk P main R D B n O g w):Qk P main R D B' n O g w:=by
 induction n generalizing O g w with
 |zero=>exact hb O g w rfl h
 |succ n ih=>
  rcases h with h|⟨hs,h⟩
  ·exact .inl (hb O g w rfl h)
  ·exact .inr ⟨hs,fun w₁ h₁=>GStep.goes_mono (h w₁ h₁) fun _ _ _ x=>⟨x.1,ih (fun O' g w e b=>hb O' g w e b) x.2⟩⟩
theorem jm:cy P main J R D Stop n O g w↔(O.fu=0\/Qk P main R D (WT P main J R D Stop) n O g w):=by
 unfold cy;cases hk:O.fu with
 |zero=>simp[XR]
 |succ k=>
  simp only[XR,Nat.succ_ne_zero,false_or];constructor
  ·refine Qk.imp fun O' g w e h=>?_;have e':O'.fu=k+1:=e.trans hk;rcases h with h|⟨hs,h⟩
   ·exact .inl h
   ·refine .inr ⟨hs,fun w₁ h₁=>J.mono (fun own p g w x=>?_) (h w₁ h₁)⟩;obtain⟨n',x⟩:=x;refine⟨n',?_⟩;simpa[cy,au.jump,e']using x
  ·refine Qk.imp fun O' g w e h=>?_;have e':O'.fu=k+1:=e.trans hk;rcases h with h|⟨hs,h⟩
   ·exact .inl h
   ·refine .inr ⟨hs,fun w₁ h₁=>J.mono (fun own p g w x=>?_) (h w₁ h₁)⟩;obtain⟨n',x⟩:=x;refine⟨n',?_⟩;simpa[cy,au.jump,e']using x
theorem cy.stop(h:∀w₁,R O w w₁->Stop O g w₁):cy P main J R D Stop n O g w:=by
 refine jm.2 (.inr ?_);cases n with
 |zero=>exact .inl h
 |succ n=>exact .inl (.inl h)
theorem cy.jump(hs:g.status=.running)(h:∀w₁,R O w w₁->J.to O g w₁ fun own p g' w'=>∃n',cy P main J R D Stop n' (O.jump own p) g' w'):cy P main J R D Stop n O g w:=by
 refine jm.2 (.inr ?_);cases n with
 |zero=>exact .inr ⟨hs,h⟩
 |succ n=>exact .inl (.inr ⟨hs,h⟩)
theorem cy.step(hs:g.status=.running)(h:∀w₁,R O w w₁->(stepG P main g w₁).goes fun g' w' es=>D O w₁ w' es/\cy P main J R D Stop n (O.grow w₁ w') g' w'):cy P main J R D Stop (n+1) O g w:=by
 refine jm.2 ?_;cases hk:O.fu with
 |zero=>exact .inl rfl
 |succ k=>exact .inr (.inr ⟨hs,fun w₁ h₁=>GStep.goes_mono (h w₁ h₁) fun g' w' es x=>⟨x.1,(jm.1 x.2).resolve_left (by simp[au.grow,hk])⟩⟩)
theorem cy.spent(h:O.fu=0):cy P main J R D Stop n O g w:=jm.2 (.inl h)
theorem cy.ways(h:cy P main J R D Stop n O g w)(hk:O.fu≠0):WT P main J R D Stop O g w\/(∃m,n=m+1/\g.status=.running/\∀w₁,R O w w₁->(stepG P main g w₁).goes fun g' w' es=>D O w₁ w' es/\cy P main J R D Stop m (O.grow w₁ w') g' w'):=by
 have h:=(jm.1 h).resolve_left hk;cases n with
 |zero=>exact .inl h
 |succ n=>
  rcases h with h|⟨hs,h⟩
  ·exact .inl h
  ·exact .inr ⟨n,rfl,hs,fun w₁ h₁=>GStep.goes_mono (h w₁ h₁) fun _ _ _ x=>⟨x.1,jm.2 (.inr x.2)⟩⟩
theorem WT.rely(T:bY R D)(h:WT P main J R D Stop O g w)(hr:R O w w₁):WT P main J R D Stop O g w₁:=
 h.imp (fun h w₂ h₂=>h w₂ (T.trans _ _ _ _ hr h₂)) (fun h=>⟨h.1,fun w₂ h₂=>h.2 w₂ (T.trans _ _ _ _ hr h₂)⟩)
theorem cy.rely(T:bY R D){w₁:World}(h:cy P main J R D Stop n O g w)(hr:R O w w₁):cy P main J R D Stop n O g w₁:=by
 by_cases hk:O.fu=0
 ·exact cy.spent hk
 refine jm.2 (.inr ?_);have h:=(jm.1 h).resolve_left hk;cases n with
 |zero=>exact WT.rely T h hr
 |succ n=>
  rcases h with h|⟨hs,h⟩
  ·exact .inl (WT.rely T h hr)
  ·exact .inr ⟨hs,fun w₂ h₂=>h w₂ (T.trans _ _ _ _ hr h₂)⟩
theorem cy.more(h:cy P main J R D Stop n O g w):cy P main J R D Stop (n+1) O g w:=by
 have key:∀{n:Nat} {O:au} {g:Goroutine} {w:World} {B:xV},Qk P main R D B n O g w->Qk P main R D B (n+1) O g w:=by
  intro n;induction n with
  |zero=>exact fun h=>.inl h
  |succ n ih=>
   intro O g w B h;rcases h with h|⟨hs,h⟩
   ·exact .inl h
   ·exact .inr ⟨hs,fun w₁ h₁=>GStep.goes_mono (h w₁ h₁) fun _ _ _ x=>⟨x.1,ih x.2⟩⟩
 exact jm.2 ((jm.1 h).imp id key)
theorem cy.mono(h:cy P main J R D Stop n O g w)(hn:n<=n'):cy P main J R D Stop n' O g w:=by
 induction hn with
 |refl=>exact h
 |step _ ih=>exact ih.more
theorem cy.quiet(T:bY R D){g':Goroutine}(hs:g.status=.running)(h:∀w₁,stepG P main g w₁=.go g' w₁)(hg:cy P main J R D Stop n O g' w):cy P main J R D Stop (n+1) O g w:=
 cy.step hs fun w₁ h₁=>by rw[h];exact⟨T.idle _ _,by rw[O.dh rfl];exact hg.rely T h₁⟩
end
def qg(P:Program)(main:Bool)(J:Jm)(R:uK)(D:uL)(Stop:xV)(m:Nat)(b:Frame)(k:List Item)(cs:List Frame):ew
 |O,.normal,a,w=>cy P main J R D Stop m O (G (b.at a k) cs) w
 |O,.exit id,a,w=>∃k',exitTo id k=some k'/\cy P main J R D Stop m O (G (b.at a k') cs) w
 |O,.ret,a,w=>∀todo,cy P main J R D Stop m O (G {b.at a todo with mode:=.returning} cs) w
 |_,_,_,_=>False
section
variable {P:Program}{main:Bool}{J:Jm}{R:uK}{D:uL}{Stop:xV}{n m m':Nat}{O:au}{w:World}{b:Frame}{k:List Item}{cs:List Frame}{e:Exit}{a:Act}
theorem qg.mono(h:qg P main J R D Stop m b k cs O e a w)(hm:m<=m'):qg P main J R D Stop m' b k cs O e a w:=by
 cases e with
 |normal=>exact cy.mono h hm
 |exit id=>obtain⟨k',hk,hg⟩:=h;exact⟨k',hk,hg.mono hm⟩
 |ret=>exact fun todo=>(h todo).mono hm
 |goto l=>exact h
 |panic ch=>exact h
 |outgrown=>exact h
theorem qg.push{x:Item}(hx:x.plain=true)(he:e≠.normal)(h:qg P main J R D Stop m b k cs O e a w):qg P main J R D Stop m b (x :: k) cs O e a w:=by
 cases e with
 |normal=>exact absurd rfl he
 |exit id=>obtain⟨k',hk,hg⟩:=h;exact⟨k',by cases x<;>simp_all [exitTo,Item.plain],hg⟩
 |ret=>exact h
 |goto l=>exact h
 |panic ch=>exact h
 |outgrown=>exact h
end
def cO(P:Program)(main:Bool)(J:Jm)(R:uK)(D:uL)(fn:FuncId)(c:Code)(n:Nat)(Q:ew)(O:au)(a:Act)(w:World):Prop:=
 ∀(b:Frame) (k:List Item) (cs:List Frame) (Stop:xV) (m:Nat->Nat),b.fn=fn->b.kind≠.early->
  (∀O' e a' w',Q O' e a' w'->qg P main J R D Stop (m O'.fu) b k cs O' e a' w')->cy P main J R D Stop (m O.fu+n) O (G (b.at a (.code c :: k)) cs) w
def bG(P:Program)(main:Bool)(J:Jm)(R:uK)(D:uL)(fn:FuncId)(ops:Array Oper)(todo:List Nat)(n:Nat)(Q:ew)(O:au)(a:Act)(w:World):Prop:=
 ∀(b:Frame) (k:List Item) (cs:List Frame) (Stop:xV) (m:Nat->Nat),b.fn=fn->b.kind≠.early->
  (∀O' e a' w',Q O' e a' w'->qg P main J R D Stop (m O'.fu) b k cs O' e a' w')->cy P main J R D Stop (m O.fu+n) O (G (b.at a (.inRegion ops todo :: k)) cs) w
abbrev aX(next:au->Act->World->Prop)(Q:ew):ew:=fun O=>Exit.then (next O) (Q O)
abbrev jc(id:Nat)(Q:ew):ew:=fun O=>Exit.inBlock id (Q O)
section rules
variable {P:Program}{main:Bool}{J:Jm}{R:uK}{D:uL}{fn:FuncId}{Q Q':ew}{O:au}{a:Act}{w:World}{n n':Nat}
theorem oX{c:Code}(h:cO P main J R D fn c n Q O a w)(hn:n<=n'):cO P main J R D fn c n' Q O a w:=
 fun b k cs Stop m hb hk hc=>(h b k cs Stop m hb hk hc).mono (by omega)
theorem nh{todo:List Nat}(h:bG P main J R D fn ops todo n Q O a w)(hn:n<=n'):bG P main J R D fn ops todo n' Q O a w:=
 fun b k cs Stop m hb hk hc=>(h b k cs Stop m hb hk hc).mono (by omega)
theorem o8{c:Code}(h:cO P main J R D fn c n Q O a w)(hq:∀O e a w,Q O e a w->Q' O e a w):cO P main J R D fn c n Q' O a w:=
 fun b k cs Stop m hb hk hc=>h b k cs Stop m hb hk fun O' e a' w' q=>hc O' e a' w' (hq O' e a' w' q)
theorem lq(T:bY R D){c:Code}(h:cO P main J R D fn c n Q O a w)(hr:R O w w₁):cO P main J R D fn c n Q O a w₁:=
 fun b k cs Stop m hb hk hc=>(h b k cs Stop m hb hk hc).rely T hr
theorem iZ(T:bY R D)(h:Q O .normal a w):cO P main J R D fn .skip 1 Q O a w:=fun _ _ _ _ _ _ _ hc=>cy.quiet T rfl (fun _=>stepG_skip) (hc _ _ _ _ h)
theorem S6(T:bY R D)(h:Q O .ret a w):cO P main J R D fn .ret 1 Q O a w:=fun _ _ _ _ _ _ _ hc=>cy.quiet T rfl (fun _=>stepG_ret') (hc _ _ _ _ h _)
theorem sZ(T:bY R D)(h:Q O (.exit id) a w):cO P main J R D fn (.exit id) 1 Q O a w:=fun b k cs Stop m _ _ hc=>by obtain⟨k',hk',hg⟩:=hc _ _ _ _ h;exact cy.quiet T rfl (fun _=>stepG_exit hk') hg
theorem ay(T:bY R D){x:Code}(M:au->Act->World->Prop)(hx:cO P main J R D fn x n₁ (aX M Q) O a w)(hy:∀O' a' w',M O' a' w'->cO P main J R D fn y n₂ Q O' a' w'):cO P main J R D fn (.seq x y) (n₁+n₂+1) Q O a w:=by
 intro b k cs Stop m hb hk hc;have e:m O.fu+(n₁+n₂+1)=(m O.fu+n₂+n₁)+1:=by omega
 rw[e];refine cy.quiet T rfl (fun _=>stepG_seq) (hx b (.code y :: k) cs Stop (fun j=>m j+n₂) hb hk fun O' e a' w' q=>?_);cases e with
 |normal=>exact hy O' a' w' q b k cs Stop m hb hk hc
 |exit id=>exact((hc _ _ _ _ q).mono (zan _ _)).push rfl (by simp)
 |ret=>exact((hc _ _ _ _ q).mono (zan _ _)).push (x:=.code y) rfl (by simp)
 |goto l=>exact hc _ _ _ _ q
 |panic ch=>exact hc _ _ _ _ q
 |outgrown=>exact hc _ _ _ _ q
theorem sW(T:bY R D){c:Operand}{x:Code}(hc:a.eval c=.bool t)(h:cO P main J R D fn (if t then x else y) n Q O a w):cO P main J R D fn (.cond c x y) (n+1) Q O a w:=
 fun b k cs Stop m hb hk hq=>cy.quiet T rfl (fun _=>stepG_cond hc) (h b k cs Stop m hb hk hq)
theorem fJ(T:bY R D){c:Code}(h:cO P main J R D fn c n (jc id Q) O a w):cO P main J R D fn (.block id c) (n+2) Q O a w:=by
 intro b k cs Stop m hb hk hc;have e:m O.fu+(n+2)=(m O.fu+1+n)+1:=by omega
 rw[e];refine cy.quiet T rfl (fun _=>stepG_block) (h b (.inBlock id :: k) cs Stop (fun j=>m j+1) hb hk fun O' e a' w' q=>?_);cases e with
 |normal=>exact cy.quiet T rfl (fun _=>stepG_inBlock) (hc _ _ _ _ q)
 |exit id'=>
  by_cases hid:id'=id
  ·simp only[jc,Exit.inBlock,hid,if_true]at q;exact⟨k,by simp[exitTo,hid],cy.more (hc _ _ _ _ q)⟩
  ·simp only[jc,Exit.inBlock,hid,if_false]at q;obtain⟨k',hk',hg⟩:=hc _ _ _ _ q;have:(id == id')=false:=by simp;exact fun h=>hid h.symm
   exact⟨k',by simp[exitTo,this,hk'],hg.more⟩
 |ret=>exact fun todo=>(hc _ _ _ _ q todo).more
 |goto l=>exact hc _ _ _ _ q
 |panic ch=>exact hc _ _ _ _ q
 |outgrown=>exact hc _ _ _ _ q
theorem mL(T:bY R D){c:Code}(I:Nat->au->Act->World->Prop)(r:Nat){N:Nat}(h₀:I N O a w)
 (round:∀j O a w,I j O a w->cO P main J R D fn c r (aX (fun O' a' w'=>∃j',j'<j/\I j' O' a' w') Q) O a w):cO P main J R D fn (.loop c) ((N+1)*(r+1)+1) Q O a w:=by
 intro b k cs Stop m hb hk hc;have key:∀N j O a w,j<=N->I j O a w->cy P main J R D Stop (m O.fu+(N+1)*(r+1)) O (G (b.at a (.code c :: .inLoop c :: k)) cs) w:=by
  intro N;induction N with
  |zero=>
   intro j O a w hj hI;refine(round j O a w hI b (.inLoop c :: k) cs Stop (fun j=>m j+1) hb hk fun O' e a' w' q=>?_).mono (by omega);cases e with
   |normal=>obtain⟨j',hj',_⟩:=q;omega
   |exit id=>exact((hc _ _ _ _ q).mono (zan _ _)).push rfl (by simp)
   |ret=>exact((hc _ _ _ _ q).mono (zan _ _)).push (x:=.inLoop c) rfl (by simp)
   |goto l=>exact hc _ _ _ _ q
   |panic ch=>exact hc _ _ _ _ q
   |outgrown=>exact hc _ _ _ _ q
  |succ N ih=>
   intro j O a w hj hI;refine(round j O a w hI b (.inLoop c :: k) cs Stop (fun j=>m j+(N+1)*(r+1)+1) hb hk fun O' e a' w' q=>?_).mono (by
    have:(N+1+1)*(r+1)=(N+1)*(r+1)+(r+1):=by rw[Nat.succ_mul]
    omega)
   cases e with
   |normal=>obtain⟨j',hj',Vv⟩:=q;exact cy.quiet T rfl (fun _=>stepG_inLoop) (ih j' O' a' w' (by omega) Vv)
   |exit id=>exact((hc _ _ _ _ q).mono (by omega)).push rfl (by simp)
   |ret=>exact((hc _ _ _ _ q).mono (by omega)).push (x:=.inLoop c) rfl (by simp)
   |goto l=>exact hc _ _ _ _ q
   |panic ch=>exact hc _ _ _ _ q
   |outgrown=>exact hc _ _ _ _ q
 have e:m O.fu+((N+1)*(r+1)+1)=(m O.fu+(N+1)*(r+1))+1:=by omega
 rw[e];exact cy.quiet T rfl (fun _=>stepG_loop) (key N N O a w (zak _) h₀)
theorem uN(T:bY R D){c:Code}(I:au->Act->World->Prop)(r:Nat)(h₀:I O a w)
 (round:∀O a w,I O a w->0<O.fu->cO P main J R D fn c r (aX (fun O' a' w'=>O'.fu<O.fu/\I O' a' w') Q) O a w):cO P main J R D fn (.loop c) (r+1) Q O a w:=by
 intro b k cs Stop m hb hk hc;have key:∀(K:Nat) (O:au) a w,O.fu=K->I O a w->cy P main J R D Stop (m O.fu+r) O (G (b.at a (.code c :: .inLoop c :: k)) cs) w:=by
  intro K;induction K using Nat.strongRecOn with
  |ind K ih=>
   intro O a w hK hI;by_cases h0:O.fu=0
   ·exact cy.spent h0
   refine(round O a w hI (by omega) b (.inLoop c :: k) cs Stop (fun j=>if j<O.fu then m j+r+1 else m j) hb hk fun O' e a' w' q=>?_).mono (by simp);have hle:m O'.fu<=(if O'.fu<O.fu then m O'.fu+r+1 else m O'.fu):=by split<;>omega
   cases e with
   |normal=>
    obtain⟨hlt,Vv⟩:=q;have:=cy.quiet (P:=P) (main:=main) (J:=J) (D:=D) (Stop:=Stop) T rfl (fun _=>stepG_inLoop) (ih O'.fu (by omega) O' a' w' rfl Vv);simp only[hlt,if_true];exact this
   |exit id=>exact((hc _ _ _ _ q).mono hle).push rfl (by simp)
   |ret=>exact((hc _ _ _ _ q).mono hle).push (x:=.inLoop c) rfl (by simp)
   |goto l=>exact hc _ _ _ _ q
   |panic ch=>exact hc _ _ _ _ q
   |outgrown=>exact hc _ _ _ _ q
 exact cy.quiet T rfl (fun _=>stepG_loop) (key O.fu O a w rfl h₀)
theorem Jg(T:bY R D)(h:bG P main J R D fn ops (List.range ops.size) n Q O a w):cO P main J R D fn (.region id ops false) (n+1) Q O a w:=
 fun b k cs Stop m hb hk hc=>cy.quiet T rfl (fun _=>stepG_region) (h b k cs Stop m hb hk hc)
theorem zQ(T:bY R D)(h:Q O .normal a w):bG P main J R D fn ops [] 1 Q O a w:=fun _ _ _ _ _ _ _ hc=>cy.quiet T rfl (fun _=>stepG_region_end) (hc _ _ _ _ h)
theorem jC{rest:List Nat}(ho:ops[i]?=some o)(hw:Region.wanted o (yielded ops a.tmps)=true)
 (h:∀w₁,R O w w₁->uponK o a (fun a' w'=>D O w₁ w' (listed P fn a o w₁)/\bG P main J R D fn ops rest n Q (O.grow w₁ w') a' w') ((execOp a.eval o).run P w₁)):bG P main J R D fn ops (i :: rest) (n+1) Q O a w:=by
 intro b k cs Stop m hb hk hc;refine cy.step rfl fun w₁ h₁=>goes_oper ho hw hk ?_;have:=h w₁ h₁;revert this;cases (execOp a.eval o).run P w₁ with
 |ok x w'=>cases x<;>first|exact fun⟨d,g⟩=>⟨hb▸d,g b k cs Stop m hb hk hc⟩|exact id
 |halt _ _=>exact id
theorem rJ(T:bY R D){rest:List Nat}(ho:ops[i]?=some o)(hw:Region.wanted o (yielded ops a.tmps)=false)
 (h:bG P main J R D fn ops rest n Q O (a.put o.dst undef) w):bG P main J R D fn ops (i :: rest) (n+1) Q O a w:=
 fun b k cs Stop m hb hk hc=>cy.quiet T rfl (fun _=>stepG_unwanted ho hw) (h b k cs Stop m hb hk hc)
theorem xh(hd:∀O w,D O w {w with drawn:=w.drawn+1} #[])
 (h:∀w₁,R O w w₁->∀t,bG P main J R D fn ops (Region.schedule (P.follows .mixedOrders) ops t) n Q O a {w₁ with drawn:=w₁.drawn+1}):cO P main J R D fn (.region id ops true) (n+1) Q O a w:=
 fun b k cs Stop m hb hk hc=>cy.step rfl fun w₁ h₁=>by rw[stepG_region_draw];exact⟨hd _ _,by rw[O.dh (w:=w₁) (w':={w₁ with drawn:=w₁.drawn+1}) rfl];exact h w₁ h₁ _ b k cs Stop m hb hk hc⟩
theorem xY(T:bY R D){rest:List Nat}{ats:Array TypeId}(ho:ops[i]?=some o)(hw:Region.wanted o (yielded ops a.tmps)=true)
 (hop:o.op=.defer {callee:=.value (.func f),args:=asq,argTypes:=ats}) (h:bG P main J R D fn ops rest n Q O (Act.put ⟨a.tmps,dcall f (asq.map a.eval):: a.defers⟩ o.dst undef) w):bG P main J R D fn ops (i :: rest) (n+1) Q O a w:=
 fun b k cs Stop m hb hk hc=>cy.quiet T rfl (fun _=>stepG_defer ho hw hk hop) (h b k cs Stop m hb hk hc)
def nj(P:Program)(R:uK)(D:uL)(f:FuncId)(fn:Func)(O:au)(w:World)(tmps:Array Value)(v:Value):Prop:=
 ∀w₁,R O w w₁->(results fn tmps).run P w₁=.ok v w₁/\D O w₁ w₁ (seen P f ((results fn tmps).events P w₁ #[]))
theorem bP(T:bY R D){fn:Func}{tmps:Array Value}{v:Value}(h:ResultsC P fn tmps v):nj P R D f fn O w tmps v:=
 fun w₁ _=>⟨(h w₁).1,by rw[(h w₁).2,seen_none];exact T.idle _ _⟩
theorem zR{fn:Func}{todo:List Item}{c:Frame}{v:Value}(hn:b.kind=.normal)(hd:a.defers= [])(hf:P.funcs[b.fn]?=some fn)
 (hr:(results fn a.tmps).run P w=.ok v w):
 stepG P main (G {b.at a todo with mode:=.returning} (c :: cs)) w=.go (G (c.finish v) cs) w (seen P b.fn ((results fn a.tmps).events P w #[])):=by simp[G,stepG,unwind,doReturn,Frame.at,hn,hd,hf,hr,GStep.after]
theorem oD{todo:List Item}{d:Deferred}{fn:Func}{c:Code}(hd:a.defers=d :: ds)(ht:d.target=.fn (.func f) cap)(hf:P.funcs[f]?=some fn)(hname:(fn.name == "runtime.NumGoroutine")=false)(hb:fn.body=some c):
 stepG P main (G {b.at a todo with mode:=.returning} cs) w=
  .go (G ((baseD f).at {tmps:=(d.args++cap)++Array.replicate (fn.ntmps-(d.args++cap).size) undef,defers:= []} [.code c]) ({b.at ⟨a.tmps,ds⟩ todo with mode:=.returning}:: cs)) w #[]:=by
 have h1:¬fn.name= "runtime.NumGoroutine" :=by simpa using hname
 rw[<-enter_atD (d.args++cap) hf hb]
 obtain⟨dt,da⟩:=d
 simp only at ht
 subst ht
 simp[G,stepG,unwind,callDeferred,Frame.at,hd,invoke,callFunc,hf,h1,hb,GStep.after,seen_none]
def aa0(P:Program)(fn:Func)(Post:au->World->Prop):ew
 |O,.normal,a,w|O,.ret,a,w=>a.defers= []/\(∃v,ResultsC P fn a.tmps v)/\Post O w
 |_,_,_,_=>False
def CallsD(P:Program)(main:Bool)(J:Jm)(R:uK)(D:uL)(f:FuncId)(args:Array Value)(n:Nat)(O:au)(w:World)(Post:au->World->Prop):Prop:=
 ∃fn c,P.funcs[f]?=some fn/\(fn.name == "runtime.NumGoroutine")=false/\fn.body=some c/\
  cO P main J R D f c n (aa0 P fn Post) O {tmps:=args++Array.replicate (fn.ntmps-args.size) undef,defers:= []} w
def oF(P:Program)(main:Bool)(J:Jm)(R:uK)(D:uL)(dn:Nat)(f:FuncId)(fn:Func)(Post:au->Value->World->Prop):ew
 |O,.normal,a,w|O,.ret,a,w=>(a.defers= []/\∃v,nj P R D f fn O w a.tmps v/\Post O v w)\/
   (∃d f' cap,a.defers= [d]/\d.target=.fn (.func f') cap/\CallsD P main J R D f' (d.args++cap) dn O w fun O' w'=>∃v,nj P R D f fn O' w' a.tmps v/\Post O' v w')\/
   (∃d,a.defers= [d]/\∀(b:Frame) (todo:List Item) (cs:List Frame),b.fn=f->∀w₁,R O w w₁->J.to O (G {b.at a todo with mode:=.returning} cs) w₁ fun own p g' w'=>g'=G {b.at ⟨a.tmps, []⟩ todo with mode:=.returning} cs/\∃v,nj P R D f fn (O.jump own p) w' a.tmps v/\Post (O.jump own p) v w')
 |_,_,_,_=>False
def bu(P:Program)(main:Bool)(J:Jm)(R:uK)(D:uL)(f:FuncId)(args:Array Value)(n:Nat)(O:au)(w:World)(Post:au->Value->World->Prop):Prop:=
 ∃fn c n₀ dn,n₀+dn<=n/\P.funcs[f]?=some fn/\(fn.name == "runtime.NumGoroutine")=false/\fn.body=some c/\
  cO P main J R D f c n₀ (oF P main J R D dn f fn Post) O {tmps:=args++Array.replicate (fn.ntmps-args.size) undef,defers:= []} w
theorem CallsD.mono{args:Array Value}{Post Post':au->World->Prop}(h:CallsD P main J R D f args n O w Post)(hp:∀O w,Post O w->Post' O w)(hn:n<=n'):CallsD P main J R D f args n' O w Post':=by obtain⟨fn,c,hf,hnm,hb,hw⟩:=h;refine⟨fn,c,hf,hnm,hb,oX (o8 hw fun O e a w q=>?_) hn⟩;cases e<;>first|exact⟨q.1,q.2.1,hp _ _ q.2.2⟩|exact q
theorem bu.mono{f:FuncId}{args:Array Value}{Post Post':au->Value->World->Prop}(h:bu P main J R D f args n O w Post)(hp:∀O v w,Post O v w->Post' O v w):bu P main J R D f args n O w Post':=by
 obtain⟨fn,c,n₀,dn,hle,hf,hn,hb,hw⟩:=h;refine⟨fn,c,n₀,dn,hle,hf,hn,hb,o8 hw fun O e a w q=>?_⟩;have key:oF P main J R D dn f fn Post O .ret a w->oF P main J R D dn f fn Post' O .ret a w:=fun q=>by
  rcases q with⟨h1,v,h2,h3⟩|⟨d,f',cap,h1,h2,h3⟩|⟨d,h1,h2⟩
  ·exact .inl ⟨h1,v,h2,hp _ _ _ h3⟩
  ·exact .inr (.inl ⟨d,f',cap,h1,h2,h3.mono (fun O w ⟨v,x,y⟩=>⟨v,x,hp _ _ _ y⟩) (zak _)⟩)
  ·exact .inr (.inr ⟨d,h1,fun b todo cs hb w₁ h₁=>J.mono (fun own p g' w' ⟨x,v,y,z⟩=>⟨x,v,y,hp _ _ _ z⟩) (h2 b todo cs hb w₁ h₁)⟩)
 cases e<;>first|exact key q|exact q
theorem bu.rely(T:bY R D){args:Array Value}{Post:au->Value->World->Prop}(h:bu P main J R D f args n O w Post)(hr:R O w w₁):bu P main J R D f args n O w₁ Post:=by obtain⟨fn,c,n₀,dn,hle,hf,hn,hb,hw⟩:=h;exact⟨fn,c,n₀,dn,hle,hf,hn,hb,lq T hw hr⟩
theorem Jh{fn:Func}{c:Code}{args:Array Value}{Post:au->Value->World->Prop}(hf:P.funcs[f]?=some fn)(hname:(fn.name == "runtime.NumGoroutine")=false)(hb:fn.body=some c)
 (h:cO P main J R D f c n (oF P main J R D dn f fn Post) O {tmps:=args++Array.replicate (fn.ntmps-args.size) undef,defers:= []} w):bu P main J R D f args (n+dn) O w Post:=⟨fn,c,n,dn,zak _,hf,hname,hb,h⟩
theorem cy.leave(T:bY R D){todo:List Item}{c:Frame}{m:Nat->Nat}{Post:au->Value->World->Prop}{Stop:xV}(hf:P.funcs[f]?=some fn')(h:oF P main J R D dn f fn' Post O .ret a w)
 (hnext:∀O v w,Post O v w->cy P main J R D Stop (m O.fu) O (G (c.finish v) cs) w):cy P main J R D Stop (m O.fu+dn+4) O (G {(base f).at a todo with mode:=.returning} (c :: cs)) w:=by
 have last:∀(O':au) (a'':Act) (w':World),a''.tmps=a.tmps->a''.defers= []->(∃v,nj P R D f fn' O' w' a.tmps v/\Post O' v w')->cy P main J R D Stop (m O'.fu+1) O' (G {(base f).at a'' todo with mode:=.returning} (c :: cs)) w':=by rintro O' a'' w' ht hd' ⟨v,hr,hp⟩;refine cy.step rfl (fun w₁ h₁=>?_);rw[zR (b:=base f) rfl hd' hf (by rw[ht];exact(hr w₁ h₁).1),ht];exact⟨(hr w₁ h₁).2,by rw[O'.dh rfl];exact(hnext O' v w' hp).rely T h₁⟩
 rcases h with⟨hd,hv⟩|⟨d,f',cap,hd,ht,fnd,cd,yM,hnd,hbd,hwd⟩|⟨d,hd,hj⟩
 ·exact(last O a w rfl hd hv).mono (by omega)
 ·have hl:∀(O':au) (a':Act) (w':World) (todo':List Item),(a'.defers= []/\(∃v,ResultsC P fnd a'.tmps v)/\∃v,nj P R D f fn' O' w' a.tmps v/\Post O' v w')->
   cy P main J R D Stop (m O'.fu+2) O' (G {(baseD f').at a' todo' with mode:=.returning} ({(base f).at ⟨a.tmps, []⟩ todo with mode:=.returning}:: c :: cs)) w':=by rintro O' a' w' todo' ⟨h1,⟨v,hv⟩,h3⟩;exact cy.quiet T rfl (fun w₁=>stepG_leave_deferred (b:=baseD f') rfl h1 yM (hv w₁).1 (hv w₁).2 rfl) (last O' ⟨a.tmps, []⟩ w' rfl rfl h3)
  refine cy.quiet T rfl (fun w₁=>oD hd ht yM hnd hbd) ?_;refine(hwd (baseD f') [] _ Stop (fun j=>m j+3) rfl (by simp[baseD]) fun O' e a' w' q=>?_).mono (n:=m O.fu+3+dn) (by omega);cases e with
  |normal=>exact cy.quiet T rfl (fun _=>stepG_end) (hl O' a' w' [] q)
  |ret=>exact fun todo'=>(hl O' a' w' todo' q).more
  |exit id=>exact q.elim
  |goto l=>exact q.elim
  |panic ch=>exact q.elim
  |outgrown=>exact q.elim
 ·refine cy.jump rfl fun w₁ h₁=>J.mono ?_ (hj (base f) todo (c :: cs) rfl w₁ h₁);rintro own p g' w' ⟨rfl,h3⟩;exact⟨_,last (O.jump own p) ⟨a.tmps, []⟩ w' rfl rfl h3⟩
theorem cy.body(T:bY R D){c:Frame}{m:Nat->Nat}{Post:au->Value->World->Prop}{Stop:xV}(hf:P.funcs[f]?=some fn')(h:cO P main J R D f cd n (oF P main J R D dn f fn' Post) O a w)
 (hnext:∀O v w,Post O v w->cy P main J R D Stop (m O.fu) O (G (c.finish v) cs) w):cy P main J R D Stop (m O.fu+n+dn+5) O (G ((base f).at a [.code cd]) (c :: cs)) w:=by
 refine(h (base f) [] (c :: cs) Stop (fun j=>m j+dn+5) rfl (by simp[base]) fun O' e a' w' q=>?_).mono (n:=m O.fu+dn+5+n) (by omega);cases e with
 |normal=>exact cy.quiet T rfl (fun _=>stepG_end) (cy.leave T hf q hnext)
 |ret=>exact fun todo=>(cy.leave T hf q hnext).more
 |exit id=>exact q.elim
 |goto l=>exact q.elim
 |panic ch=>exact q.elim
 |outgrown=>exact q.elim
theorem cy.enter(T:bY R D){k:List Item}{rest:List Nat}{fn:Func}{c:Code}{args:Array Operand}{ats:Array TypeId}{Stop:xV}
 (ho:ops[i]?=some o) (hw:Region.wanted o (yielded ops a.tmps)=true) (hk:b.kind≠.early) (hop:o.op=.call {callee:=.value (.func f),args,argTypes:=ats})
 (hf:P.funcs[f]?=some fn) (hname:(fn.name == "runtime.NumGoroutine")=false) (hb:fn.body=some c)
 (h:cy P main J R D Stop n O (G ((base f).at {tmps:=args.map a.eval++Array.replicate (fn.ntmps-(args.map a.eval).size) undef,defers:= []} [.code c]) (b.at a (.inRegion ops (i :: rest):: k):: cs)) w):
 cy P main J R D Stop (n+1) O (G (b.at a (.inRegion ops (i :: rest):: k)) cs) w:=
 cy.step rfl fun w₁ h₁=>goes_call ho hw hk hop hf hname hb ⟨T.idle _ _,by rw[O.dh rfl];exact h.rely T h₁⟩
def Eb:Nat:=6
theorem bQ(T:bY R D){rest:List Nat}{args:Array Operand}{ats:Array TypeId}{Post:au->Value->World->Prop}
 (ho:ops[i]?=some o) (hw:Region.wanted o (yielded ops a.tmps)=true) (hop:o.op=.call {callee:=.value (.func f),args,argTypes:=ats})
 (hcall:bu P main J R D f (args.map a.eval) nf O w Post) (hnext:∀O' v w',Post O' v w'->bG P main J R D fn ops rest n Q O' (a.put o.dst v) w'):bG P main J R D fn ops (i :: rest) (n+nf+Eb) Q O a w:=by
 intro b k cs Stop m hb hk hc;obtain⟨fn',c,n₀,dn,hle,hf,hname,hbody,hwp⟩:=hcall;have jr:∀v,(b.at a (.inRegion ops (i :: rest):: k)).finish v=b.at (a.put o.dst v) (.inRegion ops rest :: k):=fun v=>by rw[Frame.finish_at,ho];rfl
 have e:(m O.fu+n+n₀+dn+5)+1<=m O.fu+(n+nf+Eb):=by unfold Eb;omega
 refine cy.mono ?_ e;refine cy.enter T ho hw hk hop hf hname hbody (cy.body (m:=fun j=>m j+n) T hf hwp fun O' v w' hp=>?_);rw[jr];exact hnext O' v w' hp b k cs Stop m hb hk hc
theorem qo{todo:List Nat}
 (h:∀(b:Frame) (k:List Item) (cs:List Frame),b.fn=fn->b.kind≠.early->∀w₁,R O w w₁->J.to O (G (b.at a (.inRegion ops todo :: k)) cs) w₁ fun own p g' w'=>
   ∃todo' a' n',g'=G (b.at a' (.inRegion ops todo' :: k)) cs/\bG P main J R D fn ops todo' n' Q (O.jump own p) a' w'):bG P main J R D fn ops todo n Q O a w:=by
 intro b k cs Stop m hb hk hc
 refine cy.jump rfl fun w₁ h₁=>J.mono ?_ (h b k cs hb hk w₁ h₁)
 rintro own p g' w' ⟨todo',a',n',rfl,h'⟩
 exact⟨_,h' b k cs Stop m hb hk hc⟩
end rules
end
section
open Go Go.Conc
section
variable (P:Program)(main:Bool)(J:Jm)(R:uK)(D:uL)(fn:FuncId)(ops:Array Oper)
def Bn(c i:Nat)(K:au->Act->World->Prop)(O:au)(a:Act)(w:World):Prop:=
 match ops[i]? with
 |none=>False
 |some o=>
  if Region.wanted o (yielded ops a.tmps)then
   (∀w₁,R O w w₁->uponK o a (fun a' w'=>D O w₁ w' (listed P fn a o w₁)/\K (O.grow w₁ w') a' w') ((execOp a.eval o).run P w₁))\/
   (∃f args ats nf,∃Post:au->Value->World->Prop,nf+Eb<=c/\o.op=.call {callee:=.value (.func f),args,argTypes:=ats}/\bu P main J R D f (args.map a.eval) nf O w Post/\∀O' v w',Post O' v w'->K O' (a.put o.dst v) w')
  else K O (a.put o.dst undef) w
def iP(O0:au)(S:World->Prop)(o:Oper)(v:Value)(a:Act):Prop:=
 (Region.wanted o (yielded ops a.tmps)=true/\∀O w,(∀i,O0.own i->O.own i)->S w->(execOp a.eval o).run P w=.ok (.value v) w/\D O w w (listed P fn a o w))\/
 (Region.wanted o (yielded ops a.tmps)=false/\v=undef)
def kq(md:Region.Mode)(c:Nat)(Q:ew)(O0:au)(S:World->Prop):Nat->Array Bool->au->Act->World->Prop
 | 0,listed,O,a,w=>Region.ready md ops listed= []/\Q O .normal a w
 |fuel+1,listed,O,a,w=>
  (Region.ready md ops listed= []->Q O .normal a w)/\
  ∀i∈Region.ready md ops listed,Bn P main J R D fn ops c i (fun O' a' w'=>((∀i,O0.own i->O'.own i)/\S w')/\kq md c Q O0 S fuel (listed.setIfInBounds i true) O' a' w') O a w
end
section
variable {P:Program}{main:Bool}{J:Jm}{R:uK}{D:uL}{fn:FuncId}{ops:Array Oper}{Q:ew}{md:Region.Mode}{c:Nat}{O0:au}{S:World->Prop}
theorem F9{K K':Act->World->Prop}(h:∀a w,K a w->K' a w){r:Result Next}(hh:uponK o a K r):uponK o a K' r:=by
 cases r with
 |ok n w'=>cases n<;>first|exact h _ _ hh|exact hh
 |halt x w'=>exact hh
theorem Bn.mono{O:au}{w:World}{K K':au->Act->World->Prop}(h:∀O a w,K O a w->K' O a w)(hh:Bn P main J R D fn ops c i K O a w):Bn P main J R D fn ops c i K' O a w:=by
 unfold Bn at *;split
 ·simp_all
 ·rename_i o ho;simp only[ho]at hh;split
  ·rename_i hw;simp only[hw,if_true]at hh;rcases hh with hh|⟨f,args,ats,nf,Post,h1,h2,h3,h4⟩
   ·exact .inl fun w₁ h₁=>F9 (fun a' w' x=>⟨x.1,h _ _ _ x.2⟩) (hh w₁ h₁)
   ·exact .inr ⟨f,args,ats,nf,Post,h1,h2,h3,fun O' v w' x=>h _ _ _ (h4 O' v w' x)⟩
  ·rename_i hw;simp only[hw]at hh;exact h _ _ _ hh
theorem Bn.rely(T:bY R D){i:Nat}{O:au}{a:Act}{w w₁:World}{K:au->Act->World->Prop}(hK:∀a,K O a w->K O a w₁)(hh:Bn P main J R D fn ops c i K O a w)(r:R O w w₁):Bn P main J R D fn ops c i K O a w₁:=by
 unfold Bn at *;split
 ·simp_all
 ·rename_i o ho;simp only[ho]at hh;split
  ·rename_i hw;simp only[hw,if_true]at hh;rcases hh with hh|⟨f,args,ats,nf,Post,h1,h2,h3,h4⟩
   ·exact .inl fun w₂ h₂=>hh w₂ (T.trans _ _ _ _ r h₂)
   ·exact .inr ⟨f,args,ats,nf,Post,h1,h2,h3.rely T r,h4⟩
  ·rename_i hw;simp only[hw]at hh;exact hK _ hh
theorem Ga(T:bY R D)(hc:1<=c){rest:List Nat}{O:au}{w:World}(h:Bn P main J R D fn ops c i (fun O' a' w'=>bG P main J R D fn ops rest n Q O' a' w') O a w):bG P main J R D fn ops (i :: rest) (n+c) Q O a w:=by
 unfold Bn at h;split at h
 ·exact h.elim
 ·rename_i o ho;split at h
  ·rename_i hw;rcases h with h|⟨f,args,ats,nf,Post,h1,h2,h3,h4⟩
   ·exact nh (jC ho hw h) (by omega)
   ·exact nh (bQ T ho hw h2 h3 h4) (by omega)
  ·rename_i hw;exact nh (rJ T ho (by simpa using hw) h) (by omega)
theorem kq.rely(T:bY R D)(hSR:∀O x y,(∀i,O0.own i->O.own i)->S x->R O x y->S y)(hQR:∀O a x y,Q O .normal a x->R O x y->Q O .normal a y):
 ∀(fuel:Nat) (listed:Array Bool) (O:au) (a:Act) (w w₁:World),kq P main J R D fn ops md c Q O0 S fuel listed O a w->R O w w₁->kq P main J R D fn ops md c Q O0 S fuel listed O a w₁
 | 0,_,_,_,_,_,h,r=>⟨h.1,hQR _ _ _ _ h.2 r⟩
 |fuel+1,_,_,_,_,_,h,r=>⟨fun e=>hQR _ _ _ _ (h.1 e) r,fun i hi=>(h.2 i hi).rely T (fun _ x=>⟨⟨x.1.1,hSR _ _ _ x.1.1 x.1.2 r⟩,kq.rely T hSR hQR fuel _ _ _ _ _ x.2 r⟩) r⟩
theorem Jk(T:bY R D)(hc:1<=c):∀(fuel t:Nat) (listed:Array Bool) (O:au) (a:Act) (w:World),kq P main J R D fn ops md c Q O0 S fuel listed O a w->
 bG P main J R D fn ops (Region.linearise.go md ops fuel t listed []) (fuel*c+1) Q O a w:=by
 intro fuel;induction fuel with
 |zero=>intro t listed O a w h;simpa[Region.linearise.go]using zQ T h.2
 |succ fuel ih=>
  intro t listed O a w h;obtain⟨h₀,h₁⟩:=h;simp only[Region.linearise.go];change bG P main J R D fn ops (match (Region.ready md ops listed)[t %(Region.ready md ops listed).length]? with
   |some i=>Region.linearise.go md ops fuel (t /(Region.ready md ops listed).length) (listed.setIfInBounds i true) [i]
   |none=> [].reverse) ((fuel+1)*c+1) Q O a w
  cases hi:(Region.ready md ops listed)[t %(Region.ready md ops listed).length]? with
  |none=>
   have hnil:Region.ready md ops listed= []:=by
    rcases Nat.eq_zero_or_pos (Region.ready md ops listed).length with h0|h0
    ·exact List.length_eq_zero_iff.1 h0
    ·have:=List.getElem?_eq_none_iff.1 hi;have:=Nat.mod_lt t h0;omega
   exact nh (by simpa using zQ T (h₀ hnil)) (by omega)
  |some i=>
   simp only[];rw[linearise_go_acc,List.reverse_singleton,List.singleton_append];have:=Ga T hc (Bn.mono (fun O' a' w' x=>ih (t /(Region.ready md ops listed).length) (listed.setIfInBounds i true) O' a' w' x.2) (h₁ i (List.mem_of_getElem? hi)));exact nh this (by rw[Nat.succ_mul];omega)
theorem iP.same{v:Value}(hy:iP P D fn ops O0 S o v a)(he:execOp a'.eval o=execOp a.eval o)
 (hw:Region.wanted o (yielded ops a'.tmps)=Region.wanted o (yielded ops a.tmps)):iP P D fn ops O0 S o v a':=by unfold iP listed at *;rw[he,hw];exact hy
theorem iP.opX(hSR:∀O x y,(∀i,O0.own i->O.own i)->S x->R O x y->S y){v:Value}(hi:ops[i]?=some o)(hy:iP P D fn ops O0 S o v a)
 {K:au->Act->World->Prop} {O:au} (hK:∀a x y,K O a x->R O x y->K O a y) {w:World} (hO:∀i,O0.own i->O.own i) (hS:S w) (h:K O (a.put o.dst v) w):Bn P main J R D fn ops c i K O a w:=by
 unfold Bn;simp only[hi];rcases hy with⟨hw,hv⟩|⟨hw,rfl⟩
 ·simp only[hw,if_true];refine .inl fun w₁ h₁=>?_;have:=hv O w₁ hO (hSR _ _ _ hO hS h₁);rw[this.1];refine⟨this.2,?_⟩;rw[O.dh rfl];exact hK _ _ _ h h₁
 ·simp only[hw,Bool.false_eq_true,if_false];exact h
theorem Ql{args:Array Operand}{ats:Array TypeId}(hop:o.op=.call {callee:=.value (.func f),args,argTypes:=ats})(a:Act)(dst:Option Tmp)(v:Value)(h:∀d,dst=some d->d ∉ o.looksAt ops):
 args.map (a.put dst v).eval=args.map a.eval:=by refine Array.map_congr_left fun x hx=>Act.eval_put fun d hd hxd=>h d hd ?_;subst hxd;exact List.mem_append_left _ (List.mem_filterMap.2 ⟨.tmp d,by rw[hop];simp[Op.operands,Call.operands];exact hx,rfl⟩)
theorem Bn.aa2{oj:Oper}{v:Value}(hj:ops[j]?=some oj)(hap:oi.apart ops oj=true)
 (hsi:∀cs b,oi.op≠.select cs b) (hsj:∀cs b,oj.op≠.select cs b) {K:au->Act->World->Prop} {O:au} {a:Act} {w:World}
 (hy:iP P D fn ops O0 S oi v a) (h:Bn P main J R D fn ops c j K O (a.put oi.dst v) w):
 Bn P main J R D fn ops c j (fun O' a' w'=>iP P D fn ops O0 S oi v a'/\K O' (a'.put oi.dst v) w') O a w:=by
 obtain⟨h1,h2,h3⟩:=Oper.apart_spec hap;have keep:∀(a:Act),iP P D fn ops O0 S oi v a->∀u,iP P D fn ops O0 S oi v (a.put oj.dst u):=fun a hy u=>
  hy.same (execOp_put oi hsi a oj.dst u h3) (wanted_put oi a oj.dst u h3)
 unfold Bn at *;simp only[hj]at *;rw[wanted_put oj a oi.dst v h1]at h;split
 ·rename_i hw;simp only[hw,if_true]at h;rcases h with h|⟨f,args,ats,nf,Post,q1,q2,q3,q4⟩
  ·refine .inl fun w₁ h₁=>?_;have h:=h w₁ h₁;unfold listed at *;rw[execOp_put oj hsj a oi.dst v h1]at h;generalize (execOp a.eval oj).run P w₁=r at *;cases r with
   |ok n w'=>
    cases n<;>simp only[uponK]at h⊢;case value u=>exact⟨h.1,keep a hy u,by rw[<-Act.put_comm a v u h2];exact h.2⟩
    case skip=>exact⟨h.1,keep a hy _,by rw[<-Act.put_comm a v undef h2];exact h.2⟩
   |halt x w'=>simp only[uponK]at h
  ·rw[Ql q2 a oi.dst v h1]at q3;exact .inr ⟨f,args,ats,nf,Post,q1,q2,q3,fun O' u w' x=>⟨keep a hy u,by rw[<-Act.put_comm a v u h2];exact q4 O' u w' x⟩⟩
 ·rename_i hw;simp only[hw]at h;exact⟨keep a hy _,by rw[<-Act.put_comm a v undef h2];exact h⟩
theorem Jl(T:bY R D)(hSR:∀O x y,(∀i,O0.own i->O.own i)->S x->R O x y->S y)(hQR:∀O a x y,Q O .normal a x->R O x y->Q O .normal a y){v:Value}(hi:ops[i]?=some oi)
 (hsel:∀(j:Nat) (o:Oper) cs b,ops[j]?=some o->o.op≠.select cs b):
 ∀(fuel:Nat) (listed:Array Bool) (O:au) (a:Act) (w:World),
  (∀j oj,ops[j]?=some oj->j≠i->listed.getD j true=false->(∀e∈oj.after,Region.binds md e=true->e.on≠i)->oi.apart ops oj=true)->
  i∈Region.ready md ops listed->iP P D fn ops O0 S oi v a->(∀i,O0.own i->O.own i)->S w->
  kq P main J R D fn ops md c Q O0 S fuel (listed.setIfInBounds i true) O (a.put oi.dst v) w->kq P main J R D fn ops md c Q O0 S (fuel+1) listed O a w:=by
 have hK:∀fuel listed O,∀a x y,(((∀i,O0.own i->O.own i)/\S x)/\kq P main J R D fn ops md c Q O0 S fuel listed O a x)->R O x y->(((∀i,O0.own i->O.own i)/\S y)/\kq P main J R D fn ops md c Q O0 S fuel listed O a y):=
  fun fuel listed O a x y h r=>⟨⟨h.1.1,hSR _ _ _ h.1.1 h.1.2 r⟩,kq.rely T hSR hQR fuel listed O a x y h.2 r⟩
 intro fuel
 induction fuel with
 |zero=>
  intro listed O a w _ hr hy hO hS H
  refine⟨fun h=>(by rw[h]at hr;cases hr),fun j hj=>?_⟩
  by_cases hji:j=i
  ·subst hji;exact hy.opX hSR hi (hK _ _ _) hO hS ⟨⟨hO,hS⟩,H⟩
  ·have:=ready_mono hj hji
   rw[H.1]at this
   cases this
 |succ fuel ih=>
  intro listed O a w hfree hr hy hO hS H
  refine⟨fun h=>(by rw[h]at hr;cases hr),fun j hj=>?_⟩
  by_cases hji:j=i
  ·subst hji;exact hy.opX hSR hi (hK _ _ _) hO hS ⟨⟨hO,hS⟩,H⟩
  ·have h1:=H.2 j (ready_mono hj hji)
   obtain⟨aa3,oj,hoj,hall⟩:=mem_ready.1 hj
   have afW:∀e∈oj.after,Region.binds md e=true->e.on≠i:=fun e he hb heq=>by
    have h1:=hall e he hb;have h0:=(mem_ready.1 hr).1;rw[heq]at h1;rcases Nat.lt_or_ge i listed.size with h'|h'
    ·simp[h']at h0 h1;rw[h0]at h1;cases h1
    ·simp[Array.getElem?_eq_none h']at h1
   have h2:=Bn.aa2 hoj (hfree j oj hoj hji aa3 afW) (fun cs b=>hsel i oi cs b hi) (fun cs b=>hsel j oj cs b hoj) hy h1
   have WU:∀k ok,ops[k]?=some ok->k≠i->(listed.setIfInBounds j true).getD k true=false->
    (∀e∈ok.after,Region.binds md e=true->e.on≠i)->oi.apart ops ok=true:=fun k ok hk hki hun hno=>by
    refine hfree k ok hk hki ?_ hno;by_cases hjk:j=k
    ·subst hjk;exact aa3
    ·rw[getD_set_ne true hjk]at hun;exact hun
   refine Bn.mono (fun O' a' w' h3=>⟨h3.2.1,ih (listed.setIfInBounds j true) O' a' w' WU (ready_mono hr (Ne.symm hji)) h3.1 h3.2.1.1 h3.2.1.2 ?_⟩) h2
   rw[Array.setIfInBounds_comm _ _ hji]
   exact h3.2.2
theorem uP(T:bY R D)(hSR:∀O x y,(∀i,O0.own i->O.own i)->S x->R O x y->S y)(hQR:∀O a x y,Q O .normal a x->R O x y->Q O .normal a y){v:Value}{fuel:Nat}{listed:Array Bool}{O:au}{w:World}(hi:ops[i]?=some oi)
 (hs:Region.noSelect ops=true) (hf:Region.free md ops listed i=true) (hr:(Region.ready md ops listed).contains i=true)
 (hy:iP P D fn ops O0 S oi v a) (hO:∀i,O0.own i->O.own i) (hS:S w) (h:kq P main J R D fn ops md c Q O0 S fuel (listed.setIfInBounds i true) O (a.put oi.dst v) w):kq P main J R D fn ops md c Q O0 S (fuel+1) listed O a w:=
 Jl T hSR hQR hi (Region.noSelect_spec hs) fuel listed O a w (Region.free_spec hi hf) (by simpa using hr) hy hO hS h
theorem jR{rs:List Nat}{fuel:Nat}{listed:Array Bool}{O:au}{w:World}(hr:Region.ready md ops listed=rs)(hne:rs≠ [])
 (h:∀i∈rs,Bn P main J R D fn ops c i (fun O' a' w'=>((∀i,O0.own i->O'.own i)/\S w')/\kq P main J R D fn ops md c Q O0 S fuel (listed.setIfInBounds i true) O' a' w') O a w):kq P main J R D fn ops md c Q O0 S (fuel+1) listed O a w:=
 ⟨fun h0=>absurd (hr▸h0) hne,hr▸h⟩
theorem kR{listed:Array Bool}{O:au}{w:World}(hr:Region.ready md ops listed= [])(h:Q O .normal a w):∀fuel,kq P main J R D fn ops md c Q O0 S fuel listed O a w
 | 0=>⟨hr,h⟩
 |_+1=>⟨fun _=>h,fun i hi=>by rw[hr]at hi;cases hi⟩
theorem gp(T:bY R D)(hd:∀O w,D O w {w with drawn:=w.drawn+1} #[])(hc:1<=c){O:au}{w:World}(hm:P.follows .mixedOrders=true)
 (h:∀w₁,R O w w₁->kq P main J R D fn ops .any c Q O0 S ops.size (Array.replicate ops.size false) O a {w₁ with drawn:=w₁.drawn+1}):cO P main J R D fn (.region id ops true) (ops.size*c+1+1) Q O a w:=
 xh hd fun w₁ h₁ t=>by simp only[Region.schedule,hm,Bool.true_or,if_true];exact Jk T hc ops.size t _ O a _ (h w₁ h₁)
end
end
section
open Go Go.Conc
structure eg where
 Fx:Nat->Prop
 nR:Addr->Prop
 Mn:Addr->Prop
 Sh:Nat->Prop
 Wg:Nat
 tw:TypeId
 N:Nat
 low:∀a,nR a->a.block<N
 Jn:∀a,Mn a->a.block<N
def Ea(tw:TypeId)(Wg:Nat)(w:World):Prop:=∃st sm,w.heap[Wg]?=some (.cells #[.int .u64 st,.int .u32 sm] tw)
structure RX(L:eg)(O:au)(w w₁:World):Prop where
 le:w.heap.size<=w₁.heap.size
 blk:∀i,i<w.heap.size->O.own i\/L.Fx i->w₁.heap[i]?=w.heap[i]?
 K3:∀a,L.nR a->w₁.cell? a=w.cell? a
 mn:∀a,L.Mn a->w₁.cell? a=w.cell? a/\w₁.frozen? a=w.frozen? a
 sh:∀i c e f,L.Sh i->w.heap[i]?=some (.cells c e f)->∃c',w₁.heap[i]?=some (.cells c' e f)/\c'.size=c.size
 live:Ea L.tw L.Wg w->Ea L.tw L.Wg w₁
def Ec(L:eg)(O:au)(e:Event):Prop:=
 e.sync=false/\((∃a,e.loc=.cell a/\(O.own a.block\/L.Mn a\/((L.Fx a.block\/L.nR a)/\e.write=false)))\/(∃r,e.loc=.obj r/\(O.own r\/(L.Fx r/\e.write=false))))
structure DX(L:eg)(O:au)(w w':World)(es:Array Event):Prop where
 tape:w'.tape=w.tape
 os:w'.os=w.os
 out:w'.output=w.output
 le:w.heap.size<=w'.heap.size
 blk:∀i,i<w.heap.size->¬O.own i->w'.heap[i]?=w.heap[i]? \/
  ∃c c' e f,w.heap[i]?=some (.cells c e f)/\w'.heap[i]?=some (.cells c' e f)/\c'.size=c.size/\∀j,¬L.Mn ⟨i,j,none⟩->c'[j]?=c[j]?
 ev:∀e∈es,Ec L O e
variable {L:eg}{O O':au}{w w₁ w₂:World}
theorem RX.refl(O:au)(w:World):RX L O w w:=⟨zak _,fun _ _ _=>rfl,fun _ _=>rfl,fun _ _=>⟨rfl,rfl⟩,fun _ c _ _ _ h=>⟨c,h,rfl⟩,id⟩
theorem RX.trans(h:RX L O w w₁)(h':RX L O w₁ w₂):RX L O w w₂:=
 ⟨zal h.le h'.le,fun i hi ho=>(h'.blk i (Nat.lt_of_lt_of_le hi h.le) ho).trans (h.blk i hi ho),fun a ha=>(h'.K3 a ha).trans (h.K3 a ha),fun a ha=>⟨(h'.mn a ha).1.trans (h.mn a ha).1,(h'.mn a ha).2.trans (h.mn a ha).2⟩,fun i c e f hi hc=>by obtain⟨c1,h1,e1⟩:=h.sh i c e f hi hc;obtain⟨c2,h2,e2⟩:=h'.sh i c1 e f hi h1;exact⟨c2,h2,e2.trans e1⟩,h'.live ∘ h.live⟩
theorem RX.anti(h:RX L O' w w₁)(hO:∀i,O.own i->O'.own i):RX L O w w₁:=⟨h.le,fun i hi ho=>h.blk i hi (ho.imp (hO i) id),h.K3,h.mn,h.sh,h.live⟩
theorem DX.idle(O:au)(w:World):DX L O w w #[]:=⟨rfl,rfl,rfl,zak _,fun _ _ _=>.inl rfl,fun _ h=>by simp at h⟩
theorem DX.still(O:au)(w:World)(h:∀e∈es,Ec L O e):DX L O w w es:=⟨rfl,rfl,rfl,zak _,fun _ _ _=>.inl rfl,h⟩
theorem DX.draw(O:au)(w:World):DX L O w {w with drawn:=w.drawn+1} #[]:=⟨rfl,rfl,rfl,zak _,fun _ _ _=>.inl rfl,fun _ h=>by simp at h⟩
theorem RX.draw(O:au)(w:World):RX L O w {w with drawn:=w.drawn+1}:=⟨zak _,fun _ _ _=>rfl,fun _ _=>rfl,fun _ _=>⟨rfl,rfl⟩,fun _ c _ _ _ h=>⟨c,h,rfl⟩,id⟩
theorem ah(L:eg):bY (RX L) (DX L):=⟨RX.refl,fun _ _ _ _=>RX.trans,DX.idle⟩
structure bA(L:eg)(O0:au)(w0:World)(O:au)(w:World):Prop where
 base:L.N<=w0.heap.size
 own:∀i,O0.own i->O.own i
 rel:RX L O0 w0 w
 gh:O.pos=O0.pos/\O.fu=O0.fu
 new:∀i,O.own i->O0.own i\/w0.heap.size<=i
theorem bA.refl(h:L.N<=w.heap.size):bA L O w O w:=⟨h,fun _ h=>h,RX.refl _ _,⟨rfl,rfl⟩,fun _ h=>.inl h⟩
theorem bA.rely{O0:au}(h:bA L O0 w0 O w)(r:RX L O w w₁):bA L O0 w0 O w₁:=⟨h.base,h.own,h.rel.trans (r.anti h.own),h.gh,h.new⟩
theorem bA.trans{O0 O1 O2:au}{w0:World}(h:bA L O0 w0 O1 w₁)(r:bA L O1 w₁ O2 w₂):bA L O0 w0 O2 w₂:=⟨h.base,fun i hi=>r.own i (h.own i hi),h.rel.trans (r.rel.anti h.own),⟨r.gh.1.trans h.gh.1,r.gh.2.trans h.gh.2⟩,fun i hi=>(r.new i hi).elim (h.new i) fun x=>.inr (zal h.rel.le x)⟩
theorem bA.top{O0:au}(h:bA L O0 w0 O w):L.N<=w.heap.size:=zal h.base h.rel.le
structure qM(L:eg)(O0:au)(w0:World)(O:au)(w:World):Prop where
 base:L.N<=w0.heap.size
 own:∀i,O0.own i->O.own i
 rel:RX L O0 w0 w
 new:∀i,O.own i->O0.own i\/w0.heap.size<=i
theorem bA.Q2{O0:au}(h:bA L O0 w0 O w):qM L O0 w0 O w:=⟨h.base,h.own,h.rel,h.new⟩
theorem qM.refl(h:L.N<=w.heap.size):qM L O w O w:=⟨h,fun _ h=>h,RX.refl _ _,fun _ h=>.inl h⟩
theorem qM.rely{O0:au}(h:qM L O0 w0 O w)(r:RX L O w w₁):qM L O0 w0 O w₁:=⟨h.base,h.own,h.rel.trans (r.anti h.own),h.new⟩
theorem qM.trans{O0 O1 O2:au}{w0:World}(h:qM L O0 w0 O1 w₁)(r:qM L O1 w₁ O2 w₂):qM L O0 w0 O2 w₂:=⟨h.base,fun i hi=>r.own i (h.own i hi),h.rel.trans (r.rel.anti h.own),fun i hi=>(r.new i hi).elim (h.new i) fun x=>.inr (zal h.rel.le x)⟩
theorem qM.top{O0:au}(h:qM L O0 w0 O w):L.N<=w.heap.size:=zal h.base h.rel.le
theorem qM.nP{O0:au}(h:qM L O0 w0 O w)(hi:¬O0.own i)(hl:i<w0.heap.size):¬O.own i:=fun x=>(h.new i x).elim hi (by omega)
theorem bA.nP{O0:au}{w0:World}(h:bA L O0 w0 O w){i:Nat}(hi:¬O0.own i)(hl:i<w0.heap.size):¬O.own i:=h.Q2.nP hi hl
structure OB(r:Nat)(o:Obj)(O:au)(w:World):Prop where
 own:O.own r
 heap:w.heap[r]?=some o
theorem OB.lt{o:Obj}(h:OB r o O w):r<w.heap.size:=by
 rcases Nat.lt_or_ge r w.heap.size with hl|hl
 ·exact hl
 ·have:=h.heap;rw[Array.getElem?_eq_none hl]at this;cases this
theorem OB.rely{o:Obj}(h:OB r o O w)(x:RX L O w w₁):OB r o O w₁:=⟨h.own,(x.blk r h.lt (.inl h.own)).trans h.heap⟩
theorem OB.xC{o:Obj}(h:OB r o O w)(x:bA L O w O' w₁):OB r o O' w₁:=⟨x.own _ h.own,(x.rel.blk r h.lt (.inl h.own)).trans h.heap⟩
theorem xE(w:World)(o:Obj):(w.alloc o).heap.size=w.heap.size+1:=Array.size_push ..
theorem zS(w:World)(o:Obj)(h:i<w.heap.size):(w.alloc o).heap[i]?=w.heap[i]? :=by show (w.heap.push o)[i]?=_;rw[Array.getElem?_push,if_neg (by omega)]
theorem NF(w:World)(o:Obj):(w.alloc o).heap[w.heap.size]?=some o:=by show (w.heap.push o)[w.heap.size]?=_;rw[Array.getElem?_push,if_pos rfl]
theorem DX.alloc(O:au)(w:World)(o:Obj):DX L O w (w.alloc o) #[]:=
 ⟨rfl,rfl,rfl,by rw[xE];omega,fun i hi _=>.inl (zS w o hi),fun _ h=>by simp at h⟩
theorem RX.alloc(O:au)(h:L.N<=w.heap.size)(o:Obj):RX L O w (w.alloc o):=
 ⟨by rw[xE];omega,fun i hi _=>zS w o hi,fun a ha=>by have:=L.low a ha;unfold World.cell?;rw[zS w o (show a.block<w.heap.size by omega)],fun a ha=>by have:=L.Jn a ha;unfold World.cell? World.frozen?;rw[zS w o (show a.block<w.heap.size by omega)];exact⟨rfl,rfl⟩,fun i c e f _ h=>⟨c,by rw[zS w o (zam.1 h).1];exact h,rfl⟩,fun⟨st,sm,h⟩=>⟨st,sm,by rw[zS w o (zam.1 h).1];exact h⟩⟩
theorem OB.new(O:au)(w:World)(o:Obj):OB w.heap.size o (O.grow w (w.alloc o)) (w.alloc o):=⟨.inr ⟨zak _,by rw[xE];omega⟩,NF w o⟩
theorem bA.alloc{O0:au}{w0:World}(h:bA L O0 w0 O w)(o:Obj):bA L O0 w0 (O.grow w (w.alloc o)) (w.alloc o):=⟨h.base,fun i hi=>.inl (h.own i hi),h.rel.trans ((RX.alloc _ h.top o)),h.gh,fun i hi=>hi.elim (h.new i) fun x=>.inr (zal h.rel.le x.1)⟩
theorem OB.alloc{r:Nat}{o:Obj}(h:OB r o O w)(o':Obj):OB r o (O.grow w (w.alloc o')) (w.alloc o'):=⟨.inl h.own,(zS w o' h.lt).trans h.heap⟩
structure dO(r:Nat)(w w':World):Prop where
 tape:w'.tape=w.tape
 os:w'.os=w.os
 out:w'.output=w.output
 size:w'.heap.size=w.heap.size
 other:∀i,i≠r->w'.heap[i]?=w.heap[i]?
theorem DX.own{r:Nat}{es:Array Event}(h:O.own r)(t:dO r w w₁)(he:∀e∈es,Ec L O e):DX L O w w₁ es:=
 ⟨t.tape,t.os,t.out,Nat.le_of_eq t.size.symm,fun i _ hi=>.inl (t.other i fun e=>hi (e▸h)),he⟩
theorem dO.xC{O0:au}(t:dO r w w₁)(h:bA L O0 w0 O w)(hr:w0.heap.size<=r):bA L O0 w0 O w₁:=
 ⟨h.base,h.own,⟨by have:=h.rel.le;rw[t.size];exact this,fun i hi ho=>(t.other i (by omega)).trans (h.rel.blk i hi ho),fun a ha=>by
   rw[<-h.rel.K3 a ha];have:=L.low a ha;have:=h.base;simp only[World.cell?,t.other a.block (by omega)],fun a ha=>by
   rw[<-(h.rel.mn a ha).1,<-(h.rel.mn a ha).2];have:=L.Jn a ha;have:=h.base;simp only[World.cell?,World.frozen?,t.other a.block (by omega)];exact⟨trivial,trivial⟩,fun i c e f hi hc=>by
   obtain⟨c1,h1,e1⟩:=h.rel.sh i c e f hi hc;have:=(zam.1 hc).1;exact⟨c1,(t.other i (by omega)).trans h1,e1⟩,fun hl=>by have hlt:=(zam.1 hl.choose_spec.choose_spec).1;obtain⟨st,sm,h1⟩:=h.rel.live hl;exact⟨st,sm,(t.other L.Wg (by omega)).trans h1⟩⟩,h.gh,h.new⟩
theorem dO.ob{r':Nat}{o:Obj}(t:dO r w w₁)(h:OB r' o O w)(hr:r'≠r):OB r' o O w₁:=⟨h.own,(t.other r' hr).trans h.heap⟩
section
variable {P:Program}{main:Bool}{J:Jm}{R:uK}{D:uL}{fn:FuncId}{Q:ew}{a:Act}
theorem oZ(T:bY R D){x:Code}(h:cO P main J R D fn x n₁ (aX (fun O' a' w'=>cO P main J R D fn y n₂ Q O' a' w') Q) O a w):cO P main J R D fn (.seq x y) (n₁+n₂+1) Q O a w:=
 ay T _ h fun _ _ _ h=>h
theorem aC{rest:List Nat}(ho:ops[i]?=some o)(hw:Region.wanted o (yielded ops a.tmps)=true)
 (h:∀w₁,R O w w₁->∀K:Act->World->Prop,(∀a',D O w₁ w₁ (listed P fn a o w₁)/\bG P main J R D fn ops rest n Q O a' w₁->K a' w₁)->uponK o a K ((execOp a.eval o).run P w₁)):bG P main J R D fn ops (i :: rest) (n+1) Q O a w:=
 jC ho hw fun w₁ h₁=>h w₁ h₁ _ fun _ x=>⟨x.1,by rw[O.dh rfl];exact x.2⟩
theorem bB{rest:List Nat}(ho:ops[i]?=some o)(hw:Region.wanted o (yielded ops a.tmps)=true)
 (h:∀w₁,R O w w₁->∀K:Act->World->Prop,(∀a' w',D O w₁ w' (listed P fn a o w₁)/\bG P main J R D fn ops rest n Q (O.grow w₁ w') a' w'->K a' w')->uponK o a K ((execOp a.eval o).run P w₁)):bG P main J R D fn ops (i :: rest) (n+1) Q O a w:=
 jC ho hw fun w₁ h₁=>h w₁ h₁ _ fun _ _ x=>x
theorem aN(T:bY R D){c:Operand}{x:Code}(hc:a.eval c=.bool t)(ht:t=true->cO P main J R D fn x n₁ Q O a w)(hf:t=false->cO P main J R D fn y n₂ Q O a w):
 cO P main J R D fn (.cond c x y) (max n₁ n₂+1) Q O a w:=by
 refine sW T hc ?_;cases t with
 |true=>exact oX (ht rfl) (Nat.le_max_left _ _)
 |false=>exact oX (hf rfl) (Nat.le_max_right _ _)
theorem bh{x:Code}(h:cO P main J (RX L) (DX L) fn x n₁ (aX (fun O' a' w'=>cO P main J (RX L) (DX L) fn y n₂ Q O' a' w') Q) O a w):cO P main J (RX L) (DX L) fn (.seq x y) (n₁+n₂+1) Q O a w:=oZ (ah L) h
theorem ju{c:Code}(h:cO P main J (RX L) (DX L) fn c n (jc id Q) O a w):cO P main J (RX L) (DX L) fn (.block id c) (n+2) Q O a w:=fJ (ah L) h
theorem cx(h:Q O .normal a w):cO P main J (RX L) (DX L) fn .skip 1 Q O a w:=iZ (ah L) h
theorem cZ(h:Q O .ret a w):cO P main J (RX L) (DX L) fn .ret 1 Q O a w:=S6 (ah L) h
theorem jF(h:Q O (.exit id) a w):cO P main J (RX L) (DX L) fn (.exit id) 1 Q O a w:=sZ (ah L) h
theorem aO(h:Q O .normal a w):bG P main J (RX L) (DX L) fn ops [] 1 Q O a w:=zQ (ah L) h
theorem aQ(h:bG P main J (RX L) (DX L) fn ops (List.range' 0 ops.size) n Q O a w):cO P main J (RX L) (DX L) fn (.region id ops false) (n+1) Q O a w:=
 Jg (ah L) (by rw[List.range_eq_range'];exact h)
theorem qN{rest:List Nat}(ho:ops[i]?=some o:=by rfl)(hw:Region.wanted o (yielded ops a.tmps)=false:=by rfl)
 (h:bG P main J (RX L) (DX L) fn ops rest n Q O (a.put o.dst undef) w):bG P main J (RX L) (DX L) fn ops (i :: rest) (n+1) Q O a w:=rJ (ah L) ho hw h
theorem fG{c:Operand}{x:Code}(hc:a.eval c=.bool true:=by rfl)(h:cO P main J (RX L) (DX L) fn x n Q O a w):cO P main J (RX L) (DX L) fn (.cond c x y) (n+1) Q O a w:=sW (ah L) hc h
theorem fH{c:Operand}{x:Code}(hc:a.eval c=.bool false:=by rfl)(h:cO P main J (RX L) (DX L) fn y n Q O a w):cO P main J (RX L) (DX L) fn (.cond c x y) (n+1) Q O a w:=sW (ah L) hc h
theorem aP{rest:List Nat}(ho:ops[i]?=some o:=by rfl)(hw:Region.wanted o (yielded ops a.tmps)=true:=by rfl)
 (h:∀w₁,RX L O w w₁->(execOp a.eval o).events P w₁ #[]=#[]/\∀K:Act->World->Prop,(∀a',bG P main J (RX L) (DX L) fn ops rest n Q O a' w₁->K a' w₁)->uponK o a K ((execOp a.eval o).run P w₁)):bG P main J (RX L) (DX L) fn ops (i :: rest) (n+1) Q O a w:=
 aC ho hw fun w₁ r K hK=>(h w₁ r).2 K fun a' x=>hK a' ⟨by rw[listed_nil (h w₁ r).1];exact DX.idle _ _,x⟩
structure Tks(L:eg)(O0:au)(S:World->Prop)(Q:ew)(O:au)(w:World):Prop where
 sr:∀O x y,(∀i,O0.own i->O.own i)->S x->RX L O x y->S y
 qr:∀O a x y,Q O .normal a x->RX L O x y->Q O .normal a y
 ow:∀i,O0.own i->O.own i
 st:S w
variable {ops:Array Oper}{md:Region.Mode}{c fuel i:Nat}{O0:au}{S:World->Prop}{listed:Array Bool}{oi:Oper}{v:Value}
theorem Q6(h1:∀O x y,(∀i,O0.own i->O.own i)->S x->RX L O x y->S y)(h2:∀O a x y,Q O .normal a x->RX L O x y->Q O .normal a y)(h3:∀i,O0.own i->O.own i)(h4:S w)
 (h:Tks L O0 S Q O w->kq P main J (RX L) (DX L) fn ops md c Q O0 S fuel listed O a w):kq P main J (RX L) (DX L) fn ops md c Q O0 S fuel listed O a w:=h ⟨h1,h2,h3,h4⟩
theorem BB(hb:Tks L O0 S Q O w)(hi:ops[i]?=some oi)(hk:(Region.noSelect ops && Region.free md ops listed i &&(Region.ready md ops listed).contains i)=true)(hw:Region.wanted oi (yielded ops a.tmps)=true)
 (hy:∀O w,(∀i,O0.own i->O.own i)->S w->(∀K:Result Next->Prop,K (.ok (.value v) w)->K ((execOp a.eval oi).run P w))/\DX L O w w (Go.Conc.listed P fn a oi w))
 (h:kq P main J (RX L) (DX L) fn ops md c Q O0 S fuel (listed.setIfInBounds i true) O (a.put oi.dst v) w):kq P main J (RX L) (DX L) fn ops md c Q O0 S (fuel+1) listed O a w:=by simp only[Bool.and_eq_true]at hk;exact uP (ah L) hb.sr hb.qr hi hk.1.1 hk.1.2 hk.2 (.inl ⟨hw,fun O w x y=>⟨run_eq_of (hy O w x y).1,(hy O w x y).2⟩⟩) hb.ow hb.st h
theorem qu(hb:Tks L O0 S Q O w)(hi:ops[i]?=some oi)(hk:(Region.noSelect ops && Region.free md ops listed i &&(Region.ready md ops listed).contains i)=true)(hw:Region.wanted oi (yielded ops a.tmps)=true)
 (hy:∀w,S w->(execOp a.eval oi).events P w #[]=#[]/\∀K:Result Next->Prop,K (.ok (.value v) w)->K ((execOp a.eval oi).run P w))
 (h:kq P main J (RX L) (DX L) fn ops md c Q O0 S fuel (listed.setIfInBounds i true) O (a.put oi.dst v) w):kq P main J (RX L) (DX L) fn ops md c Q O0 S (fuel+1) listed O a w:=
 BB hb hi hk hw (fun O w _ y=>⟨(hy w y).2,by rw[listed_nil (hy w y).1];exact DX.idle _ _⟩) h
theorem Xr(hb:Tks L O0 S Q O w)(hi:ops[i]?=some oi)(hk:(Region.noSelect ops && Region.free md ops listed i &&(Region.ready md ops listed).contains i)=true)(hw:Region.wanted oi (yielded ops a.tmps)=false)
 (h:kq P main J (RX L) (DX L) fn ops md c Q O0 S fuel (listed.setIfInBounds i true) O (a.put oi.dst undef) w):kq P main J (RX L) (DX L) fn ops md c Q O0 S (fuel+1) listed O a w:=by simp only[Bool.and_eq_true]at hk;exact uP (ah L) hb.sr hb.qr hi hk.1.1 hk.1.2 hk.2 (.inr ⟨hw,rfl⟩) hb.ow hb.st h
end
end
section
open Go Go.Conc
section
variable {P:Program}{main:Bool}{J:Jm}{R:uK}{D:uL}{fn:FuncId}{Q:ew}{O:au}{a:Act}{w:World}{n:Nat}
theorem Mw{args:Array Operand}{ats:Array TypeId}(hop:o.op=.call {callee:=.value x,args,argTypes:=ats})(hx:a.eval x=.func (.func f) #[] cap)
 (hf:P.funcs[f]?=some fn') (hname:(fn'.name == "runtime.NumGoroutine")=false) (hb:fn'.body.isNone=false) (w:World):
 (execOp a.eval o).run P w=.ok (.enter f (args.map a.eval++cap)) w/\(execOp a.eval o).events P w #[]=#[]:=by
 have h1:¬fn'.name= "runtime.NumGoroutine" :=by simpa using hname
 have h2:¬fn'.body=none:=fun e=>by rw[e]at hb;cases hb
 unfold execOp;simp[hop,resolve,Deferred.ofValue,hx,invoke,callFunc,hf,h1,h2]
theorem He(T:bY R D){rest:List Nat}{args:Array Operand}{ats:Array TypeId}{Post:au->Value->World->Prop}
 (ho:ops[i]?=some o) (hw:Region.wanted o (yielded ops a.tmps)=true) (hop:o.op=.call {callee:=.value x,args,argTypes:=ats}) (hx:a.eval x=.func (.func f) #[] cap)
 (hcall:bu P main J R D f (args.map a.eval++cap) nf O w Post) (hnext:∀O' v w',Post O' v w'->bG P main J R D fn ops rest n Q O' (a.put o.dst v) w'):bG P main J R D fn ops (i :: rest) (n+nf+Eb) Q O a w:=by
 intro b k cs Stop m hb hk hc;obtain⟨fn',c,n₀,dn,hle,hf,hname,hbody,hwp⟩:=hcall;have jr:∀v,(b.at a (.inRegion ops (i :: rest):: k)).finish v=b.at (a.put o.dst v) (.inRegion ops rest :: k):=fun v=>by rw[Frame.finish_at,ho];rfl
 have e:(m O.fu+n+n₀+dn+5)+1<=m O.fu+(n+nf+Eb):=by unfold Eb;omega
 refine cy.mono ?_ e;have hbn:fn'.body.isNone=false:=by rw[hbody];rfl
 refine cy.step rfl fun w₁ h₁=>?_;obtain⟨hr,hev⟩:=Mw (P:=P) hop hx hf hname hbn w₁;rw[stepG_enter ho hw hk hr,enter_at _ hf hbody];have hl:listed P b.fn a o w₁=#[]:=listed_nil hev;rw[hl];refine⟨T.idle _ _,?_⟩;rw[O.dh rfl];refine cy.rely T (cy.body (m:=fun j=>m j+n) T hf hwp fun O' v w' hp=>?_) h₁;rw[jr];exact hnext O' v w' hp b k cs Stop m hb hk hc
end
end
section
open Go Go.Conc Go.ConcM
def xy:Lk->Nat->Nat
 |.uI,m=>if m=1 then 0 else 1
 |.hold,m=>if m=5\/m=1 then 1 else 0
 |.out,m=>if m=1 then 1 else 0
 |_,_=>1
def gJ:Lk->Nat
 |.hold=>5
 |.out=>1
 |_=>0
def gn(T:Lk)(m:Nat)(x:Wd)(v:Nat):List ((Lk×Nat)×Wd×Nat):=
 if T=.uI/\m=1 then [((.uI,0),x,v)]
 else if T=.hold/\2<=m then [((.hold,m-1),x,v)]
 else if T=.out/\m=1 then [((.out,0),x,v)]
 else(gK T x v).map fun r=>((r.1,gJ r.1),r.2)
structure eu(pb:Nat)(x:Wd)(v:Nat)(w:World):Prop where
 word:w.cell? ⟨pb,0,none⟩=some (.int .i32 (x.val:Nat))
 sema:w.cell? ⟨pb,1,none⟩=some (.int .u32 (v:Nat))
 thaw:∀o,w.frozen? ⟨pb,o,none⟩=false
structure bl(pb:Nat)(w w':World):Prop where
 tape:w'.tape=w.tape
 output:w'.output=w.output
 os:OsLater w.os w'.os
 size:w'.heap.size=w.heap.size
 other:∀i,i≠pb->w'.heap[i]?=w.heap[i]?
 here:∀c e f,w.heap[pb]?=some (.cells c e f)->∃c',w'.heap[pb]?=some (.cells c' e f)/\c'.size=c.size/\∀j,2<=j->c'[j]?=c[j]?
theorem bl.refl(pb:Nat)(w:World):bl pb w w:=⟨rfl,rfl,.refl _,rfl,fun _ _=>rfl,fun c _ _ h=>⟨c,h,rfl,fun _ _=>rfl⟩⟩
theorem bl.later(pb:Nat)(w:World):bl pb w w.later:=⟨rfl,rfl,⟨w.tick,rfl⟩,rfl,fun _ _=>rfl,fun c _ _ h=>⟨c,h,rfl,fun _ _=>rfl⟩⟩
theorem bl.asked(pb:Nat)(w:World):bl pb w w.asked:=⟨rfl,rfl,.refl _,rfl,fun _ _=>rfl,fun c _ _ h=>⟨c,h,rfl,fun _ _=>rfl⟩⟩
theorem bl.set(pb:Nat)(w:World)(o:Nat)(v:Value)(ho:o<2):bl pb w (w.setCell ⟨pb,o,none⟩ v):=by have A:=aside_setCell w ⟨pb,o,none⟩ v;refine⟨A.tape,A.output,by rw[A.os];exact .refl _,A.size,fun i hi=>A.block i hi,fun c e f h=>?_⟩;refine⟨c.setIfInBounds o v,by simp[World.setCell,Array.getElem?_modify,h],by simp,fun j hj=>?_⟩;rw[Array.getElem?_setIfInBounds_ne (by omega)]
theorem eu.nM{x y:Wd}{v:Nat}{w:World}(h:eu pb x v w):eu pb y v (w.setCell ⟨pb,0,none⟩ (.int .i32 (y.val:Nat))):=
 ⟨World.cell?_setCell_same _ _ _ h.word,by rw[World.cell?_setCell_other _ _ _ _ (by simp)];exact h.sema,fun o=>by rw[World.frozen?_setCell];exact h.thaw o⟩
theorem eu.sQ{x:Wd}{v:Nat}{w:World}(h:eu pb x v w):eu pb x u (w.setCell ⟨pb,1,none⟩ (.int .u32 (u:Nat))):=
 ⟨by rw[World.cell?_setCell_other _ _ _ _ (by simp)];exact h.word,World.cell?_setCell_same _ _ _ h.sema,fun o=>by rw[World.frozen?_setCell];exact h.thaw o⟩
def Bk2(pb:Nat)(e:Event):Prop:=
 e.loc=.mark .disable\/e.loc=.mark .enable\/(∃a,(e.loc=.mark (.acquire a)\/e.loc=.mark (.releaseMerge a))/\a.block=pb)\/(∃a wr,e=⟨.cell a,wr,true⟩/\a.block=pb/\a.off<2/\a.spot=none)
structure US(P:Program)(pb:Nat)(T:Lk)(m:Nat)(g g':Goroutine)(w w':World)(es:Array Event)(r:(Lk×Nat)×Wd×Nat):Prop where
 rep:eu pb r.2.1 r.2.2 w'
 JM:bl pb w w'
 bk:∀e∈es,Bk2 pb e
 deaf:deafBehind (xy T m) es=xy r.1.1 r.1.2
 run:g'.status=.running
 acG:T=.tok\/T=.hand->mayWake P g=true
def iX(P:Program)(main:Bool)(pb:Nat):Jm where
 to O g w K:=∀T m x v,O.pos=.lk T m->eu pb x v w->x.c<=1000->v<=1000->(∀r∈gn T m x v,r.1.1≠.bad)->
  (gn T m x v= []->(∃sv ws,T=.iq sv ws)/\g.offers=none/\stepG P main g w=.go {g with status:=.blocked} w #[])/\
  (gn T m x v≠ []->∃g' w' es,stepG P main g w=.go g' w' es/\∃r∈gn T m x v,US P pb T m g g' w w' es r/\K O.own (.lk r.1.1 r.1.2) g' w')
 mono:=by intro O g w K K' hK h T m x v h1 h2 h3 h4 h5;refine⟨(h T m x v h1 h2 h3 h4 h5).1,fun hne=>?_⟩;obtain⟨g',w',es,h6,r,h7,h8,h9⟩:=(h T m x v h1 h2 h3 h4 h5).2 hne;exact⟨g',w',es,h6,r,h7,h8,hK _ _ _ _ h9⟩
section
variable {P:Program}{main:Bool}{L:eg}{pb:Nat}{fn:FuncId}{Q:ew}{O:au}{a:Act}{w:World}{n:Nat}{ops:Array Oper}{i:Nat}{rest:List Nat}{o:Oper}{T:Lk}{m:Nat}
theorem lX(hp:O.pos=.lk T m)
 (h:∀(b:Frame) (k:List Item) (cs:List Frame),b.fn=fn->b.kind≠.early->∀w₁ x v,RX L O w w₁->eu pb x v w₁->x.c<=1000->v<=1000->(∀r∈gn T m x v,r.1.1≠.bad)->
   (gn T m x v= []->(∃sv ws,T=.iq sv ws)/\stepG P main (G (b.at a (.inRegion ops (i :: rest):: k)) cs) w₁=.go {G (b.at a (.inRegion ops (i :: rest):: k)) cs with status:=.blocked} w₁ #[])/\
   (gn T m x v≠ []->∃a' w' es r n',stepG P main (G (b.at a (.inRegion ops (i :: rest):: k)) cs) w₁=.go (G (b.at a' (.inRegion ops rest :: k)) cs) w' es/\r∈gn T m x v/\eu pb r.2.1 r.2.2 w'/\bl pb w₁ w'/\(∀e∈es,Bk2 pb e)/\deafBehind (xy T m) es=xy r.1.1 r.1.2/\
     (T=.tok\/T=.hand->mayWake P (G (b.at a (.inRegion ops (i :: rest):: k)) cs)=true)/\bG P main (iX P main pb) (RX L) (DX L) fn ops rest n' Q (O.jump O.own (.lk r.1.1 r.1.2)) a' w')):
 bG P main (iX P main pb) (RX L) (DX L) fn ops (i :: rest) n Q O a w:=by refine qo fun b k cs hb hk w₁ h₁ T' m' x v rR h2 h3 h4 h5=>?_;rw[hp]at rR;cases rR;obtain⟨q1,q2⟩:=h b k cs hb hk w₁ x v h₁ h2 h3 h4 h5;refine⟨fun e=>⟨(q1 e).1,rfl,(q1 e).2⟩,fun e=>?_⟩;obtain⟨a',w',es,r,n',e1,e2,e3,e4,e5,e6,e7,e8⟩:=q2 e;exact⟨_,w',es,e1,r,e2,⟨e3,e4,e5,e6,rfl,e7⟩,rest,a',n',rfl,e8⟩
theorem jO(hp:O.pos=.lk T m){T':Lk}(xA:∀x v,gn T m x v= [((T',m'),x,v)])(hT:T≠.tok/\T≠.hand)
 (hs:∀(b:Frame) (k:List Item) (cs:List Frame),b.fn=fn->b.kind≠.early->∀w₁,stepG P main (G (b.at a (.inRegion ops (i :: rest):: k)) cs) w₁=.go (G (b.at a' (.inRegion ops rest :: k)) cs) w₁ es)
 (hes:∀e∈es,Bk2 pb e) (hd:deafBehind (xy T m) es=xy T' m') {n':Nat}
 (h:∀w₁,RX L O w w₁->bG P main (iX P main pb) (RX L) (DX L) fn ops rest n' Q (O.jump O.own (.lk T' m')) a' w₁):
 bG P main (iX P main pb) (RX L) (DX L) fn ops (i :: rest) n Q O a w:=by refine lX hp fun b k cs hb hk w₁ x v hR hM h3 h4 h5=>?_;rw[xA];refine⟨by simp,fun _=>⟨a',w₁,es,((T',m'),x,v),n',hs b k cs hb hk w₁,by simp,hM,bl.refl _ _,hes,hd,fun h=>(h.elim hT.1 hT.2).elim,h w₁ hR⟩⟩
theorem bk_dis(pb:Nat):∀e∈#[(⟨.mark .disable,false,true⟩:Event)],Bk2 pb e:=by intro e he;simp at he;subst he;exact .inl rfl
theorem bk_en(pb:Nat):∀e∈#[(⟨.mark .enable,false,true⟩:Event)],Bk2 pb e:=by intro e he;simp at he;subst he;exact .inr (.inl rfl)
theorem Nu(pb:Nat):∀e∈#[(⟨.mark (.acquire ⟨pb,0,none⟩),false,true⟩:Event)],Bk2 pb e:=by intro e he;simp at he;subst he;exact .inr (.inr (.inl ⟨_,.inl rfl,rfl⟩))
theorem UT(pb:Nat):∀e∈#[(⟨.mark (.releaseMerge ⟨pb,0,none⟩),false,true⟩:Event)],Bk2 pb e:=by intro e he;simp at he;subst he;exact .inr (.inr (.inl ⟨_,.inr rfl,rfl⟩))
theorem acH(pb o:Nat)(ho:o<2):∀e∈#[(⟨.cell ⟨pb,o,none⟩,false,true⟩:Event)],Bk2 pb e:=by intro e he;simp at he;subst he;exact .inr (.inr (.inr ⟨_,_,rfl,rfl,ho,rfl⟩))
theorem bk_rw(pb o:Nat)(ho:o<2):∀e∈#[(⟨.cell ⟨pb,o,none⟩,false,true⟩:Event),⟨.cell ⟨pb,o,none⟩,true,true⟩],Bk2 pb e:=by intro e he;simp at he;rcases he with rfl|rfl<;>exact .inr (.inr (.inr ⟨_,_,rfl,rfl,ho,rfl⟩))
theorem bk_sem(pb o:Nat)(ho:o<2):∀e∈semEvents ⟨pb,o,none⟩,Bk2 pb e:=by
 intro e he;simp[semEvents]at he;rcases he with rfl|rfl|rfl|rfl
 ·exact .inl rfl
 ·exact .inr (.inr (.inr ⟨_,_,rfl,rfl,ho,rfl⟩))
 ·exact .inr (.inr (.inr ⟨_,_,rfl,rfl,ho,rfl⟩))
 ·exact .inr (.inl rfl)
theorem sR(hp:O.pos=.lk T m)(hT:T≠.tok/\T≠.hand)(M7:xy T m=1){ats:Array TypeId}{y z:Operand}(ho:ops[i]?=some o)(hw:Region.wanted o (yielded ops a.tmps)=true)(hop:o.op=.call {callee:=.value (.func f),args:=#[x,y,z],argTypes:=ats})
 (hf:P.funcs[f]?=some fn') (hname:(fn'.name == "runtime.NumGoroutine")=false) (hb:fn'.body.isNone=true) (hn:Extern.findNext fn'=none) (he:Extern.find fn'=some (Extern.Atomic.casT (.int .i32)))
 {old nw:Wd} (hx:a.eval x=.pointer (some ⟨pb,0,none⟩)) (hy:a.eval y=.int .i32 (old.val:Nat)) (hz:a.eval z=.int .i32 (nw.val:Nat)) {T1 T2:Lk} {n1 n2:Nat}
 (acI:∀v,(∀r∈gn T m old v,r.1.1≠.bad)->gn T m old v= [((T1,gJ T1),nw,v)]) (acJ:∀x' v,x'≠old->(∀r∈gn T m x' v,r.1.1≠.bad)->gn T m x' v= [((T2,gJ T2),x',v)]) (h1:xy T1 (gJ T1)=1) (h2:xy T2 (gJ T2)=1)
 (k1:∀w₁,RX L O w w₁->(∀v,eu pb old v w₁->(∀r∈gn T m old v,r.1.1≠.bad)->bG P main (iX P main pb) (RX L) (DX L) fn ops rest n1 Q (O.jump O.own (.lk T1 (gJ T1))) (a.put o.dst (.bool true)) (w₁.setCell ⟨pb,0,none⟩ (.int .i32 (nw.val:Nat)))))
 (k2:∀w₁,RX L O w w₁->(∀x' v,x'≠old->eu pb x' v w₁->(∀r∈gn T m x' v,r.1.1≠.bad)->bG P main (iX P main pb) (RX L) (DX L) fn ops rest n2 Q (O.jump O.own (.lk T2 (gJ T2))) (a.put o.dst (.bool false)) w₁)):
 bG P main (iX P main pb) (RX L) (DX L) fn ops (i :: rest) n Q O a w:=by
 refine lX hp fun b k cs hb' hk w₁ x' v hR hM h3 h4 h5=>?_;by_cases e:x'=old
 ·subst e;rw[acI v h5];refine⟨by simp,fun _=>⟨_,_,_,((T1,gJ T1),nw,v),n1,stepG_cas_hit ho hw hk hop hf hname hb hn .i32 he hx hy hz hM.word (hM.thaw 0),by simp,hM.nM,bl.set _ _ _ _ (by omega),bk_rw pb 0 (by omega),?_,fun h=>(h.elim hT.1 hT.2).elim,k1 w₁ hR v hM h5⟩⟩;rw[M7,h1];rfl
 ·rw[acJ x' v e h5];refine⟨by simp,fun _=>⟨_,_,_,((T2,gJ T2),x',v),n2,stepG_cas_miss ho hw hk hop hf hname hb hn .i32 he hx hy hz hM.word (hM.thaw 0) (fun q=>e (Wd.val_inj (by exact_mod_cast q))),by simp,hM,bl.refl _ _,acH pb 0 (by omega),?_,fun h=>(h.elim hT.1 hT.2).elim,k2 w₁ hR x' v e hM h5⟩⟩;rw[M7,h2];rfl
theorem qq(hp:O.pos=.lk T m)(hT:T≠.tok/\T≠.hand)(M7:xy T m=1){ats:Array TypeId}{y:Operand}(ho:ops[i]?=some o)(hw:Region.wanted o (yielded ops a.tmps)=true)(hop:o.op=.call {callee:=.value (.func f),args:=#[x,y],argTypes:=ats})
 (hf:P.funcs[f]?=some fn') (hname:(fn'.name == "runtime.NumGoroutine")=false) (hb:fn'.body.isNone=true) (hn:Extern.findNext fn'=none) (he:Extern.find fn'=some (Extern.Atomic.update (Op.intArith .add) .i32 true))
 {d:Int} (hx:a.eval x=.pointer (some ⟨pb,0,none⟩)) (hy:a.eval y=.int .i32 d) {F:Wd->Lk} {G':Wd->Wd} {n1:Nat}
 (xA:∀x' v,x'.c<=1000->(∀r∈gn T m x' v,r.1.1≠.bad)->gn T m x' v= [((F x',gJ (F x')),G' x',v)]/\IntKind.i32.wrap ((x'.val:Nat)+d)=((G' x').val:Nat)) (h1:∀x',xy (F x') (gJ (F x'))=1)
 (k1:∀w₁,RX L O w w₁->(∀x' v,eu pb x' v w₁->x'.c<=1000->(∀r∈gn T m x' v,r.1.1≠.bad)->bG P main (iX P main pb) (RX L) (DX L) fn ops rest n1 Q (O.jump O.own (.lk (F x') (gJ (F x')))) (a.put o.dst (.int .i32 ((G' x').val:Nat))) (w₁.setCell ⟨pb,0,none⟩ (.int .i32 ((G' x').val:Nat))))):
 bG P main (iX P main pb) (RX L) (DX L) fn ops (i :: rest) n Q O a w:=by refine lX hp fun b k cs hb' hk w₁ x' v hR hM h3 h4 h5=>?_;obtain⟨e1,e2⟩:=xA x' v h3 h5;rw[e1];have hst:=stepG_add_atomic (main:=main) (b:=b) (kk:=k) (cs:=cs) (rest:=rest) ho hw hk hop hf hname hb hn .i32 he hx hy hM.word (hM.thaw 0);rw[e2]at hst;refine⟨by simp,fun _=>⟨_,_,_,((F x',gJ (F x')),G' x',v),n1,hst,by simp,hM.nM,bl.set _ _ _ _ (by omega),bk_rw pb 0 (by omega),?_,fun h=>(h.elim hT.1 hT.2).elim,k1 w₁ hR x' v hM h3 h5⟩⟩;rw[M7,h1];rfl
theorem uJ(hp:O.pos=.lk T m)(hT:T≠.tok/\T≠.hand)(ho:ops[i]?=some o)(hw:Region.wanted o (yielded ops a.tmps)=true)
 (hrun:∀w₁ x',w₁.cell? ⟨pb,0,none⟩=some (.int .i32 x')->(execOp a.eval o).run P w₁=.ok (.value (.int .i32 x')) w₁) (hev:∀w₁ x',w₁.cell? ⟨pb,0,none⟩=some (.int .i32 x')->listed P fn a o w₁=#[]) {F:Wd->Lk} {n1:Nat} {mm:Wd->Nat}
 (xA:∀x' v,x'.c<=1000->(∀r∈gn T m x' v,r.1.1≠.bad)->gn T m x' v= [((F x',mm x'),x',v)]) (h1:∀x',xy (F x') (mm x')=xy T m)
 (k1:∀w₁,RX L O w w₁->(∀x' v,eu pb x' v w₁->x'.c<=1000->(∀r∈gn T m x' v,r.1.1≠.bad)->bG P main (iX P main pb) (RX L) (DX L) fn ops rest n1 Q (O.jump O.own (.lk (F x') (mm x'))) (a.put o.dst (.int .i32 (x'.val:Nat))) w₁)):
 bG P main (iX P main pb) (RX L) (DX L) fn ops (i :: rest) n Q O a w:=by refine lX hp fun b k cs hb' hk w₁ x' v hR hM h3 h4 h5=>?_;rw[xA x' v h3 h5];have hst:=stepG_value (main:=main) (b:=b) (k:=k) (cs:=cs) (rest:=rest) ho hw hk (hrun w₁ _ hM.word);rw[hb',hev w₁ _ hM.word]at hst;refine⟨by simp,fun _=>⟨_,_,_,((F x',mm x'),x',v),n1,hst,by simp,hM,bl.refl _ _,by simp,?_,fun h=>(h.elim hT.1 hT.2).elim,k1 w₁ hR x' v hM h3 h5⟩⟩;rw[h1];rfl
theorem KP(hp:O.pos=.lk T m)(hT:T=.iq sv ws)(hm:m=0){ats:Array TypeId}(ho:ops[i]?=some o)(hw:Region.wanted o (yielded ops a.tmps)=true)(hop:o.op=.call {callee:=.value (.func f),args:=asq,argTypes:=ats})
 (hf:P.funcs[f]?=some fn') (hname:(fn'.name == "runtime.NumGoroutine")=false) (hb:fn'.body.isNone=true) (hn:Extern.findNext fn'=none) (he:Extern.find fn'=some Extern.Sync.semacquire)
 (hx:(asq.map a.eval)[0]?=some (.pointer (some ⟨pb,1,none⟩))) {n1:Nat}
 (k1:∀w₁,RX L O w w₁->(∀x' v,eu pb x' (v+1) w₁->bG P main (iX P main pb) (RX L) (DX L) fn ops rest n1 Q (O.jump O.own (.lk (if sv then .wk true ws else .t2 ws) 0)) (a.put o.dst (.tuple #[])) (w₁.setCell ⟨pb,1,none⟩ (.int .u32 (v:Nat))))):
 bG P main (iX P main pb) (RX L) (DX L) fn ops (i :: rest) n Q O a w:=by
 subst hT hm;refine lX hp fun b k cs hb' hk w₁ x' v hR hM h3 h4 h5=>?_;cases v with
 |zero=>exact⟨fun _=>⟨⟨_,_,rfl⟩,stepG_semacquire_wait ho hw hop hf hname hb hn he hx hM.sema⟩,fun h=>by simp[gn,gK]at h⟩
 |succ v=>
  refine⟨fun h=>by simp[gn,gK]at h,fun _=>?_⟩;have hst:=stepG_semacquire (main:=main) (b:=b) (kk:=k) (cs:=cs) (rest:=rest) ho hw hk hop hf hname hb hn he hx hM.sema (by simp;omega) (hM.thaw 1);have e:(((v+1:Nat):Int)-1)=((v:Nat):Int):=by omega
  rw[e]at hst;refine⟨_,_,_,((if sv then .wk true ws else .t2 ws,0),x',v),n1,hst,by cases sv<;>simp[gn,gK,gJ],hM.sQ,bl.set _ _ _ _ (by omega),bk_sem pb 1 (by omega),?_,fun h=>by simp at h,k1 w₁ hR x' v hM⟩;cases sv<;>rfl
theorem Bx(hp:O.pos=.lk T m)(hT:T=.tok\/T=.hand)(hm:m=0){ats:Array TypeId}(ho:ops[i]?=some o)(hw:Region.wanted o (yielded ops a.tmps)=true)(hop:o.op=.call {callee:=.value (.func f),args:=asq,argTypes:=ats})
 (hf:P.funcs[f]?=some fn') (hname:(fn'.name == "runtime.NumGoroutine")=false) (hb:fn'.body.isNone=true) (hn:Extern.findNext fn'=none) (he:Extern.find fn'=some Extern.Sync.semrelease)
 (hx:(asq.map a.eval)[0]?=some (.pointer (some ⟨pb,1,none⟩))) {n1:Nat}
 (k1:∀w₁,RX L O w w₁->(∀x' v,eu pb x' v w₁->bG P main (iX P main pb) (RX L) (DX L) fn ops rest n1 Q (O.jump O.own (.lk .out 1)) (a.put o.dst (.tuple #[])) (w₁.setCell ⟨pb,1,none⟩ (.int .u32 (v+1:Nat))))):
 bG P main (iX P main pb) (RX L) (DX L) fn ops (i :: rest) n Q O a w:=by
 subst hm;refine lX hp fun b k cs hb' hk w₁ x' v hR hM h3 h4 h5=>?_;have e1:gn T 0 x' v= [((.out,1),x',v+1)]:=by rcases hT with rfl|rfl<;>simp[gn,gK,gJ]
 rw[e1];have hst:=stepG_semrelease (main:=main) (b:=b) (kk:=k) (cs:=cs) (rest:=rest) ho hw hk hop hf hname hb hn he hx hM.sema (hM.thaw 1);have e:IntKind.u32.wrap (((v:Nat):Int)+1)=((v+1:Nat):Int):=by have UU:IntKind.u32.bits=32:=rfl;simp[IntKind.wrap,UU];omega
 rw[e]at hst;refine⟨by simp,fun _=>⟨_,_,_,((.out,1),x',v+1),n1,hst,by simp,hM.sQ,bl.set _ _ _ _ (by omega),bk_sem pb 1 (by omega),by rcases hT with rfl|rfl<;>rfl,fun _=>?_,k1 w₁ hR x' v hM⟩⟩;have ef:(b.at a (.inRegion ops (i :: rest):: k)).eval (.func f)=.func (.func f) #[] #[]:=rfl;have kQ:fn'.body=none:=by simpa using hb
 simp[mayWake,G,Frame.at,ho,hop]at ef⊢;simp[ef,hf,kQ]
theorem By(hp:O.pos=.lk T m)(hT:T≠.tok/\T≠.hand){ats:Array TypeId}(ho:ops[i]?=some o)(hw:Region.wanted o (yielded ops a.tmps)=true)(hop:o.op=.call {callee:=.value (.func f),args:=asq,argTypes:=ats})
 (hf:P.funcs[f]?=some fn') (hname:(fn'.name == "runtime.NumGoroutine")=false) (hb:fn'.body.isNone=true) (hn:Extern.findNext fn'=none) (he:Extern.find fn'=some Extern.OsHooks.nano) (hq:fn'.norace=true)
 {F:Int->Lk} (xA:∀x' v t,((F t,0),x',v)∈gn T m x' v) (h1:∀t,xy (F t) 0=xy T m) {n1:Nat}
 (k1:∀w₁,RX L O w w₁->∀t:Int,bG P main (iX P main pb) (RX L) (DX L) fn ops rest n1 Q (O.jump O.own (.lk (F t) 0)) (a.put o.dst (.int .i64 t)) w₁.later):
 bG P main (iX P main pb) (RX L) (DX L) fn ops (i :: rest) n Q O a w:=by refine lX hp fun b k cs hb' hk w₁ x' v hR hM h3 h4 h5=>?_;refine⟨fun e=>absurd (xA x' v 0) (by rw[e];simp),fun _=>?_⟩;refine⟨_,_,_,((F ((w₁.os.mono+w₁.tick:Nat):Int),0),x',v),n1,stepG_nanotime ho hw hk hop hf hname hb hn he hq,xA x' v _,⟨hM.word,hM.sema,hM.thaw⟩,bl.later _ _,by simp,?_,fun h=>(h.elim hT.1 hT.2).elim,k1 w₁ hR _⟩;rw[h1];rfl
end
end
section
open Go
theorem or8(n m:Nat)(hm:m<8):n |||m=8*(n / 8)+(n % 8 |||m):=by
 have h1:(n |||m)/ 2 ^ 3=n / 2 ^ 3 |||m / 2 ^ 3:=Nat.or_div_two_pow;have h2:(n |||m)% 2 ^ 3=n % 2 ^ 3 |||m % 2 ^ 3:=Nat.or_mod_two_pow;have h3:m / 2 ^ 3=0:=by omega
 have h4:m % 2 ^ 3=m:=by omega
 rw[h3,Nat.or_zero]at h1;rw[h4]at h2;have:=Nat.div_add_mod (n |||m) (2 ^ 3);simp only[show (2:Nat)^ 3=8 from rfl]at *;omega
theorem acF(n m:Nat)(hm:m<8):n &&& m=(n % 8)&&& m:=by
 have h1:(n &&& m)/ 2 ^ 3=n / 2 ^ 3 &&& m / 2 ^ 3:=Nat.and_div_two_pow;have h2:(n &&& m)% 2 ^ 3=n % 2 ^ 3 &&& m % 2 ^ 3:=Nat.and_mod_two_pow;have h3:m / 2 ^ 3=0:=by omega
 have h4:m % 2 ^ 3=m:=by omega
 rw[h3,Nat.and_zero]at h1;rw[h4]at h2;have:=Nat.div_add_mod (n &&& m) (2 ^ 3);simp only[show (2:Nat)^ 3=8 from rfl]at *;omega
theorem wrap32(h:n<2147483648):IntKind.i32.wrap (n:Int)=(n:Int):=by have hb:IntKind.i32.bits=32:=rfl;simp[IntKind.wrap,hb];omega
theorem ofInt32(n:Nat):BitVec.ofInt 32 (n:Int)=BitVec.ofNat 32 n:=by simp
theorem Ro(hn:n<1073741824)(hm:m<8):bits .or .i32 (n:Int) (m:Int)=((8*(n / 8)+(n % 8 |||m):Nat):Int):=by
 show IntKind.i32.wrap (((BitVec.ofInt 32 (n:Int)|||BitVec.ofInt 32 (m:Int)).toNat:Nat):Int)=_;have e:(BitVec.ofInt 32 (n:Int)|||BitVec.ofInt 32 (m:Int)).toNat=n |||m:=by rw[ofInt32,ofInt32,BitVec.toNat_or,BitVec.toNat_ofNat,BitVec.toNat_ofNat,zao (by omega),zao (by omega)]
 rw[e,or8 n m hm];have:n % 8 |||m<8:=Nat.or_lt_two_pow (n:=3) (by omega) (by omega);exact wrap32 (by omega)
theorem Nr(hn:n<1073741824)(hm:m<8):bits .and .i32 (n:Int) (m:Int)=((n % 8 &&& m:Nat):Int):=by
 show IntKind.i32.wrap (((BitVec.ofInt 32 (n:Int)&&& BitVec.ofInt 32 (m:Int)).toNat:Nat):Int)=_;have e:(BitVec.ofInt 32 (n:Int)&&& BitVec.ofInt 32 (m:Int)).toNat=n &&& m:=by rw[ofInt32,ofInt32,BitVec.toNat_and,BitVec.toNat_ofNat,BitVec.toNat_ofNat,zao (by omega),zao (by omega)]
 rw[e,acF n m hm];have:n % 8 &&& m<=m:=Nat.and_le_right;exact wrap32 (by omega)
theorem Cs(hn:n<1073741824):bits .andNot .i32 (n:Int) 2=((8*(n / 8)+(n % 8 &&& 5):Nat):Int):=by
 show IntKind.i32.wrap (((BitVec.ofInt 32 (n:Int)&&& ~~~ BitVec.ofInt 32 (2:Int)).toNat:Nat):Int)=_;have e2:BitVec.ofInt 32 (2:Int)=BitVec.ofNat 32 2:=ofInt32 2;have e:(BitVec.ofInt 32 (n:Int)&&& ~~~ BitVec.ofInt 32 (2:Int)).toNat=n &&& 4294967293:=by rw[ofInt32,e2,BitVec.toNat_and,BitVec.toNat_not,BitVec.toNat_ofNat,BitVec.toNat_ofNat,zao (by omega)]
 rw[e];have h1:(n &&& 4294967293)/ 2 ^ 3=n / 2 ^ 3 &&& 4294967293 / 2 ^ 3:=Nat.and_div_two_pow;have h2:(n &&& 4294967293)% 2 ^ 3=n % 2 ^ 3 &&& 4294967293 % 2 ^ 3:=Nat.and_mod_two_pow;have h3:4294967293 / 2 ^ 3=2 ^ 29-1:=by decide
 have h4:4294967293 % 2 ^ 3=5:=by decide
 rw[h3,Nat.and_two_pow_sub_one_eq_mod,zao (by omega)]at h1;rw[h4]at h2;have h5:=Nat.div_add_mod (n &&& 4294967293) (2 ^ 3);have h6:n % 8 &&& 5<=5:=Nat.and_le_right;simp only[show (2:Nat)^ 3=8 from rfl]at h1 h2 h5;have h7:n &&& 4294967293=8*(n / 8)+(n % 8 &&& 5):=by omega
 rw[h7];exact wrap32 (by omega)
theorem Wd.Cu(x:Wd):x.val / 8=x.c:=by obtain⟨l,w,s,c⟩:=x;cases l<;>cases w<;>cases s<;>simp[Wd.val,b1]<;>omega
theorem Wd.val_mod(x:Wd):x.val % 8=b1 x.l+2*b1 x.w+4*b1 x.s:=by obtain⟨l,w,s,c⟩:=x;cases l<;>cases w<;>cases s<;>simp[Wd.val,b1]<;>omega
theorem Wd.rQ{x:Wd}(h:x.c<=1002):x.val<8100:=by obtain⟨l,w,s,c⟩:=x;cases l<;>cases w<;>cases s<;>simp[Wd.val,b1]at*<;>omega
theorem Bw{x:Wd}(h:x.c<=1002)(m:Nat)(hm:m<8):bits .and .i32 (x.val:Nat) (m:Nat)=(((b1 x.l+2*b1 x.w+4*b1 x.s)&&& m:Nat):Int):=by rw[Nr (by have:=Wd.rQ h;omega) hm,x.val_mod]
theorem Ns{x:Wd}(h:x.c<=1002):bits .and .i32 (x.val:Nat) 1=((b1 x.l:Nat):Int):=by have:=Bw h 1 (by omega);obtain⟨l,w,s,c⟩:=x;cases l<;>cases w<;>cases s<;>simpa[b1]using this
theorem Nt{x:Wd}(h:x.c<=1002):bits .and .i32 (x.val:Nat) 2=((2*b1 x.w:Nat):Int):=by have:=Bw h 2 (by omega);obtain⟨l,w,s,c⟩:=x;cases l<;>cases w<;>cases s<;>simpa[b1]using this
theorem UN{x:Wd}(h:x.c<=1002):bits .and .i32 (x.val:Nat) 3=((b1 x.l+2*b1 x.w:Nat):Int):=by have:=Bw h 3 (by omega);obtain⟨l,w,s,c⟩:=x;cases l<;>cases w<;>cases s<;>simpa[b1]using this
theorem G7{x:Wd}(h:x.c<=1002):bits .and .i32 (x.val:Nat) 4=((4*b1 x.s:Nat):Int):=by have:=Bw h 4 (by omega);obtain⟨l,w,s,c⟩:=x;cases l<;>cases w<;>cases s<;>simpa[b1]using this
theorem G8{x:Wd}(h:x.c<=1002):bits .and .i32 (x.val:Nat) 5=((b1 x.l+4*b1 x.s:Nat):Int):=by have:=Bw h 5 (by omega);obtain⟨l,w,s,c⟩:=x;cases l<;>cases w<;>cases s<;>simpa[b1]using this
theorem UO{x:Wd}(h:x.c<=1002):bits .and .i32 (x.val:Nat) 7=((b1 x.l+2*b1 x.w+4*b1 x.s:Nat):Int):=by have:=Bw h 7 (by omega);obtain⟨l,w,s,c⟩:=x;cases l<;>cases w<;>cases s<;>simpa[b1]using this
theorem UP{x:Wd}(h:x.c<=1002)(m:Nat)(hm:m<8):bits .or .i32 (x.val:Nat) (m:Nat)=((8*x.c+((b1 x.l+2*b1 x.w+4*b1 x.s)|||m):Nat):Int):=by rw[Ro (by have:=Wd.rQ h;omega) hm,x.val_mod,x.Cu]
theorem X0{x:Wd}(h:x.c<=1002):bits .or .i32 (x.val:Nat) 1=((({x with l:=true}:Wd).val:Nat):Int):=by have:=UP h 1 (by omega);obtain⟨l,w,s,c⟩:=x;cases l<;>cases w<;>cases s<;>simp[b1,Wd.val]at this⊢<;>rw[this]<;>omega
theorem TQ{x:Wd}(h:x.c<=1002):bits .or .i32 (x.val:Nat) 2=((({x with w:=true}:Wd).val:Nat):Int):=by have:=UP h 2 (by omega);obtain⟨l,w,s,c⟩:=x;cases l<;>cases w<;>cases s<;>simp[b1,Wd.val]at this⊢<;>rw[this]<;>omega
theorem X1{x:Wd}(h:x.c<=1002):bits .or .i32 (x.val:Nat) 4=((({x with s:=true}:Wd).val:Nat):Int):=by have:=UP h 4 (by omega);obtain⟨l,w,s,c⟩:=x;cases l<;>cases w<;>cases s<;>simp[b1,Wd.val]at this⊢<;>rw[this]<;>omega
theorem UQ{x:Wd}(h:x.c<=1002):bits .andNot .i32 (x.val:Nat) 2=((({x with w:=false}:Wd).val:Nat):Int):=by rw[Cs (by have:=Wd.rQ h;omega),x.val_mod,x.Cu];obtain⟨l,w,s,c⟩:=x;cases l<;>cases w<;>cases s<;>simp[b1,Wd.val]<;>omega
theorem UR{x:Wd}(h:x.c<=1002):IntKind.i32.wrap ((x.val:Nat)+8)=((({x with c:=x.c+1}:Wd).val:Nat):Int):=by
 have h1:=Wd.rQ h;have h2:=wrap32 (n:=x.val+8) (by omega);have h3:({x with c:=x.c+1}:Wd).val=x.val+8:=by simp[Wd.val];omega
 rw[h3];push_cast at h2⊢;exact h2
theorem Ep(x:Wd):((x.val:Nat):Int)/ 2 ^(3:Int).toNat=((x.c:Nat):Int):=by have:=x.Cu;show ((x.val:Nat):Int)/ 8=_;omega
end
section
open Go Go.Conc Go.ConcM
structure RB(L:eg)(pb:Nat):Prop where
 fx:¬L.Fx pb
 fc:∀a,L.nR a->a.block=pb->2<=a.off
 mn:∀a,L.Mn a->a.block≠pb
 sh:L.Sh pb
 lo:pb<L.N
 wg:L.Wg≠pb
section
variable {P:Program}{main:Bool}{L:eg}{pb:Nat}{O O0:au}{w w0 w₁ w':World}
theorem RX.RD(hL:RB L pb)(hO:¬O.own pb)(hb:∃c t f,w.heap[pb]?=some (.cells c t f))(e:bl pb w w'):RX L O w w':=by
 obtain⟨c,t,f,hb⟩:=hb;obtain⟨c',h1,h2,h3⟩:=e.here c t f hb;have K3:∀a:Addr,(a.block=pb->2<=a.off)->w'.cell? a=w.cell? a:=fun a ha=>by
  by_cases h:a.block=pb
  ·simp[World.cell?,h,hb,h1,h3 a.off (ha h)]
  ·simp[World.cell?,e.other a.block h]
 refine⟨Nat.le_of_eq e.size.symm,fun i _ hi=>e.other i fun h=>?_,fun a ha=>K3 a (hL.fc a ha),fun a ha=>?_,fun i c t f hi hc=>?_,fun⟨st,sm,h⟩=>⟨st,sm,(e.other _ hL.wg).trans h⟩⟩
 ·subst h;exact hi.elim hO hL.fx
 ·have:=hL.mn a ha;exact⟨K3 a fun h=>absurd h this,by simp[World.frozen?,e.other a.block this]⟩
 ·by_cases h:i=pb
  ·subst h;obtain⟨c',h1,h2,_⟩:=e.here c t f hc;exact⟨c',h1,h2⟩
  ·exact⟨c,(e.other i h).trans hc,rfl⟩
structure dm(L:eg)(O0:au)(w0:World)(pb k:Nat)(T:Lk)(m:Nat)(O:au)(w:World):Prop where
 fr:qM L O0 w0 O w
 ok:RB L pb
 pos:O.pos=.lk T m
 no:¬O.own pb
 fu:O.fu<=k
 sh:∃c t f,w.heap[pb]?=some (.cells c t f)/\0<c.size
theorem dm.rely{k:Nat}{T:Lk}{m:Nat}(h:dm L O0 w0 pb k T m O w)(r:RX L O w w₁):dm L O0 w0 pb k T m O w₁:=
 ⟨h.fr.rely r,h.ok,h.pos,h.no,h.fu,by obtain⟨c,t,f,h1,h2⟩:=h.sh;obtain⟨c',h3,h4⟩:=r.sh pb c t f h.ok.sh h1;exact⟨c',t,f,h3,by omega⟩⟩
theorem dm.jump{k:Nat}{T T':Lk}{m m':Nat}(h:dm L O0 w0 pb k T m O w)(e:bl pb w w'):dm L O0 w0 pb (k-1) T' m' (O.jump O.own (.lk T' m')) w':=by obtain⟨c,t,f,h1,h2⟩:=h.sh;have r:=RX.RD h.ok h.no ⟨c,t,f,h1⟩ e;obtain⟨c',h3,h4,_⟩:=e.here c t f h1;have q:=h.fr.rely r;refine⟨⟨q.base,q.own,q.rel,q.new⟩,h.ok,rfl,h.no,?_,c',t,f,h3,by omega⟩;have:=h.fu;simp only[au.jump];omega
theorem dm.weak{k:Nat}{T:Lk}(h:dm L O0 w0 pb k T m O w)(hk:k<=k'):dm L O0 w0 pb k' T m O w:=⟨h.fr,h.ok,h.pos,h.no,zal h.fu hk,h.sh⟩
theorem dm.cell{k:Nat}{T:Lk}{m:Nat}(h:dm L O0 w0 pb k T m O w):∃v,w.cell? ⟨pb,0,none⟩=some v:=by obtain⟨c,t,f,h1,h2⟩:=h.sh;exact⟨c[0],by simp[World.cell?,h1,h2]⟩
end
section
variable {P:Program}{main:Bool}{L:eg}{pb:Nat}{fn:FuncId}{Q:ew}{O:au}{a:Act}{w:World}{n:Nat}{ops:Array Oper}{i:Nat}{rest:List Nat}{o:Oper}
theorem K4{old:Wd}{aw:Bool}(hp:O.pos=.lk (.Au old aw sv it ws) 0){ats:Array TypeId}(ho:ops[i]?=some o)(hw:Region.wanted o (yielded ops a.tmps)=true)(hop:o.op=.call {callee:=.value (.func f),args:=asq,argTypes:=ats})
 (hf:P.funcs[f]?=some fn') (hname:(fn'.name == "runtime.NumGoroutine")=false) (hb:fn'.body.isNone=true) (hn:Extern.findNext fn'=none) (he:Extern.find fn'=some Extern.Sync.canSpin)
 (hx:asq.map a.eval=#[.int .i64 (it:Nat)]) {n1:Nat}
 (k1:∀w₁ w',RX L O w w₁->bl pb w₁ w'->∀b:Bool,(b=true->it<4)->bG P main (iX P main pb) (RX L) (DX L) fn ops rest n1 Q (O.jump O.own (.lk (if b then(if aw=false/\old.w=false/\old.c≠0 then .cw old sv it ws else .rd aw sv (it+1) ws)else .rT old aw sv it ws) 0)) (a.put o.dst (.bool b)) w'):
 bG P main (iX P main pb) (RX L) (DX L) fn ops (i :: rest) n Q O a w:=by
 refine lX hp fun b k cs hb' hk w₁ x' v hR hM h3 h4 h5=>⟨fun h=>by simp[gn,gK]at h,fun _=>?_⟩
 have hin:∀b:Bool,(b=true->it<4)->(((if b then(if aw=false/\old.w=false/\old.c≠0 then Lk.cw old sv it ws else .rd aw sv (it+1) ws)else .rT old aw sv it ws,0),x',v):(Lk×Nat)×Wd×Nat)∈gn (.Au old aw sv it ws) 0 x' v:=by
  intro b hb;cases b with
  |false=>simp[gn,gK,gJ]
  |true=>
   have h4:=hb rfl;by_cases hc:aw=false/\old.w=false/\old.c≠0
   ·simp[gn,gK,gJ,h4,hc]
   ·simp[gn,gK,gJ,h4,hc]
 have M7:∀b:Bool,xy (if b then(if aw=false/\old.w=false/\old.c≠0 then Lk.cw old sv it ws else .rd aw sv (it+1) ws)else .rT old aw sv it ws) 0=1:=by intro b;by_cases hc:aw=false/\old.w=false/\old.c≠0<;>cases b<;>simp[hc,xy]
 by_cases hit:it<4
 ·refine⟨_,_,_,_,n1,stepG_canSpin_ask ho hw hk hop hf hname hb hn he hx (by omega),hin w₁.spins fun _=>hit,⟨hM.word,hM.sema,hM.thaw⟩,bl.asked _ _,by simp,?_,fun h=>by simp at h,k1 w₁ _ hR (bl.asked _ _) _ fun _=>hit⟩;rw[M7];rfl
 ·refine⟨_,_,_,_,n1,stepG_canSpin_no ho hw hk hop hf hname hb hn he hx (by omega),hin false (by simp),hM,bl.refl _ _,by simp,?_,fun h=>by simp at h,k1 w₁ _ hR (bl.refl _ _) false (by simp)⟩;rw[M7];rfl
theorem eX{J:Jm}{R:uK}{D:uL}{c:Code}(p:Prop)(h:p->cO P main J R D fn c n₁ Q O a w)(h':¬p->cO P main J R D fn c n₂ Q O a w):cO P main J R D fn c (max n₁ n₂) Q O a w:=by
 by_cases hp:p
 ·exact oX (h hp) (Nat.le_max_left _ _)
 ·exact oX (h' hp) (Nat.le_max_right _ _)
theorem NH{todo:List Nat}{T:Lk}(hp:O.pos=.lk T m)(hb:∀x v,∃r∈gn T m x v,r.1.1=.bad):bG P main (iX P main pb) (RX L) (DX L) fn ops todo n Q O a w:=by refine qo fun b k cs _ _ w₁ _ T' m' x v rR _ _ _ h5=>?_;rw[hp]at rR;cases rR;obtain⟨r,h1,h2⟩:=hb x v;exact absurd h2 (h5 r h1)
end
theorem oV(T:Array Value)(n:Nat)(h:T.size=n):T=((List.range n).map fun i=>T.toList.getD i undef).toArray:=by
 apply Array.ext';apply List.ext_getElem
 ·simp[h]
 ·intro i h1 h2;simp at h1;simp[h1]
theorem uM{l:(Nat->Value)->Array Value}(hd:a.defers=ds)(h:a.tmps=l fun i=>a.tmps.toList.getD i undef):∃f:Nat->Value,a=⟨l f,ds⟩/\∀i v,a.tmps[i]?=some v->f i=v:=
 ⟨_,by rw[<-h,<-hd],fun i v hv=>by simp[hv]⟩
theorem fK(hd:a.defers=ds)(h:a.tmps.size=139):∃f:Nat->Value,a=⟨#[f 0,f 1,f 2,f 3,f 4,f 5,f 6,f 7,f 8,f 9,f 10,f 11,f 12,f 13,f 14,f 15,f 16,f 17,f 18,f 19,f 20,f 21,f 22,f 23,f 24,f 25,f 26,f 27,f 28,f 29,f 30,f 31,f 32,f 33,f 34,f 35,f 36,f 37,f 38,f 39,f 40,f 41,f 42,f 43,f 44,f 45,f 46,f 47,f 48,f 49,f 50,f 51,f 52,f 53,f 54,f 55,f 56,f 57,f 58,f 59,f 60,f 61,f 62,f 63,f 64,f 65,f 66,f 67,f 68,f 69,f 70,f 71,f 72,f 73,f 74,f 75,f 76,f 77,f 78,f 79,f 80,f 81,f 82,f 83,f 84,f 85,f 86,f 87,f 88,f 89,f 90,f 91,f 92,f 93,f 94,f 95,f 96,f 97,f 98,f 99,f 100,f 101,f 102,f 103,f 104,f 105,f 106,f 107,f 108,f 109,f 110,f 111,f 112,f 113,f 114,f 115,f 116,f 117,f 118,f 119,f 120,f 121,f 122,f 123,f 124,f 125,f 126,f 127,f 128,f 129,f 130,f 131,f 132,f 133,f 134,f 135,f 136,f 137,f 138],ds⟩/\∀i v,a.tmps[i]?=some v->f i=v:=uM hd (oV a.tmps 139 h)
theorem vO(hd:a.defers=ds)(h:a.tmps.size=43):∃f:Nat->Value,a=⟨#[f 0,f 1,f 2,f 3,f 4,f 5,f 6,f 7,f 8,f 9,f 10,f 11,f 12,f 13,f 14,f 15,f 16,f 17,f 18,f 19,f 20,f 21,f 22,f 23,f 24,f 25,f 26,f 27,f 28,f 29,f 30,f 31,f 32,f 33,f 34,f 35,f 36,f 37,f 38,f 39,f 40,f 41,f 42],ds⟩/\∀i v,a.tmps[i]?=some v->f i=v:=uM hd (oV a.tmps 43 h)
end
section
open Go Go.Conc Go.ConcM
def bS(tw:TypeId)(Wg:Nat)(x:Gw)(w:World):Prop:=w.heap[Wg]?=some (.cells #[.int .u64 ((x.v*4294967296+b1 x.wt:Nat):Int),.int .u32 ((x.sm:Nat):Int)] tw)
def KS:Ct->Nat
 |.sp _|.go _|.aq|.rt=>0
 |_=>1
def KT(Wg:Nat)(e:Event):Prop:=
 e.loc=.mark .disable\/e.loc=.mark .enable\/e.loc=.mark (.acquire ⟨Wg,0,none⟩)\/e.loc=.mark (.read ⟨Wg,1,none⟩)\/e.loc=.mark (.write ⟨Wg,1,none⟩)\/∃a wr,e=⟨.cell a,wr,true⟩/\a.block=Wg
structure X5(tw:TypeId)(Wg:Nat)(c:Ct)(g':Goroutine)(w w':World)(es:Array Event)(r:Ct×Gw):Prop where
 rep:bS tw Wg r.2 w'
 JM:bl Wg w w'
 bk:∀e∈es,KT Wg e
 deaf:deafBehind (KS c) es=KS r.1
 run:g'.status=.running
 acq:c=.aq->es=#[⟨.mark (.acquire ⟨Wg,0,none⟩),false,true⟩]
def iQ(P:Program)(tw:TypeId)(Wg:Nat)(bI:Nat->Goroutine->World->(Nat->Prop)->(Nat->Prop)->Prop):Jm where
 to O g w K:=∀c x,O.pos=.mn c->bS tw Wg x w->x.v<=1000->x.sm<=1000->(c.open=true->x.wt=false)->c≠.rt/\
  (∀r,c=.go r->∃g' child gE,stepG P true g w=.spawn g' child w #[]/\g'.status=.running/\bI r child w O.own gE/\K gE (.mn (.sp (r-1))) g' w)/\
  (c=.w3->x.sm=0->g.offers=none/\stepG P true g w=.go {g with status:=.blocked} w #[])/\
  (∀r,oU c x=some r->∃g' w' es,stepG P true g w=.go g' w' es/\X5 tw Wg c g' w w' es r/\K O.own (.mn r.1) g' w')
 mono:=by
  intro O g w K K' hK h c x h1 h2 h3 h4 h5;obtain⟨q0,q1,q2,q3⟩:=h c x h1 h2 h3 h4 h5;refine⟨q0,fun r hr=>?_,q2,fun r hr=>?_⟩
  ·obtain⟨g',child,gE,p1,p2,p3,p4⟩:=q1 r hr;exact⟨g',child,gE,p1,p2,p3,hK _ _ _ _ p4⟩
  ·obtain⟨g',w',es,p1,p2,p3⟩:=q3 r hr;exact⟨g',w',es,p1,p2,hK _ _ _ _ p3⟩
structure Rs(L:eg):Prop where
 fx:¬L.Fx L.Wg
 fc:∀a,L.nR a->a.block≠L.Wg
 mn:∀a,L.Mn a->a.block≠L.Wg
 sh:L.Sh L.Wg
 lo:L.Wg<L.N
section
variable {P:Program}{L:eg}{O O0:au}{w w0 w₁ w':World}
theorem bS.live{tw:TypeId}{Wg:Nat}{x:Gw}(h:bS tw Wg x w):Ea tw Wg w:=⟨_,_,h⟩
theorem bS.word{tw:TypeId}{Wg:Nat}{x:Gw}(h:bS tw Wg x w):w.cell? ⟨Wg,0,none⟩=some (.int .u64 ((x.v*4294967296+b1 x.wt:Nat):Int)):=by unfold bS at h;simp[World.cell?,h]
theorem bS.sema{tw:TypeId}{Wg:Nat}{x:Gw}(h:bS tw Wg x w):w.cell? ⟨Wg,1,none⟩=some (.int .u32 ((x.sm:Nat):Int)):=by unfold bS at h;simp[World.cell?,h]
theorem bS.thaw{tw:TypeId}{Wg:Nat}{x:Gw}(h:bS tw Wg x w)(o:Nat):w.frozen? ⟨Wg,o,none⟩=false:=by unfold bS at h;simp[World.frozen?,h]
theorem bS.nM{tw:TypeId}{Wg:Nat}{x y:Gw}(h:bS tw Wg x w)(hs:y.sm=x.sm):bS tw Wg y (w.setCell ⟨Wg,0,none⟩ (.int .u64 ((y.v*4294967296+b1 y.wt:Nat):Int))):=by unfold bS at h⊢;simp[World.setCell,Array.getElem?_modify,h,hs]
theorem bS.sQ{tw:TypeId}{Wg:Nat}{x y:Gw}(h:bS tw Wg x w)(hv:y.v=x.v)(hw:y.wt=x.wt):bS tw Wg y (w.setCell ⟨Wg,1,none⟩ (.int .u32 ((y.sm:Nat):Int))):=by unfold bS at h⊢;simp[World.setCell,Array.getElem?_modify,h,hv,hw]
theorem RX.of_wg(hL:Rs L)(hO:¬O.own L.Wg)(hb':Ea L.tw L.Wg w')(e:bl L.Wg w w'):RX L O w w':=by
 refine⟨Nat.le_of_eq e.size.symm,fun i _ hi=>e.other i fun h=>?_,fun a ha=>?_,fun a ha=>?_,fun i c t f hi hc=>?_,fun _=>hb'⟩
 ·subst h;exact hi.elim hO hL.fx
 ·simp[World.cell?,e.other a.block (hL.fc a ha)]
 ·have:=hL.mn a ha;exact⟨by simp[World.cell?,e.other a.block this],by simp[World.frozen?,e.other a.block this]⟩
 ·by_cases h:i=L.Wg
  ·subst h;obtain⟨c',h1,h2,_⟩:=e.here c t f hc;exact⟨c',h1,h2⟩
  ·exact⟨c,(e.other i h).trans hc,rfl⟩
structure dM(L:eg)(O0:au)(w0:World)(k:Nat)(c:Ct)(O:au)(w:World):Prop where
 fr:qM L O0 w0 O w
 ok:Rs L
 pos:O.pos=.mn c
 no:¬O.own L.Wg
 fu:O.fu<=k
 live:Ea L.tw L.Wg w
theorem dM.rely{k:Nat}{c:Ct}(h:dM L O0 w0 k c O w)(r:RX L O w w₁):dM L O0 w0 k c O w₁:=⟨h.fr.rely r,h.ok,h.pos,h.no,h.fu,r.live h.live⟩
theorem dM.jump{k:Nat}{c c':Ct}{x:Gw}(h:dM L O0 w0 k c O w)(e:bl L.Wg w w')(hr:bS L.tw L.Wg x w'):dM L O0 w0 (k-1) c' (O.jump O.own (.mn c')) w':=by have r:=RX.of_wg h.ok h.no hr.live e;have q:=h.fr.rely r;refine⟨⟨q.base,q.own,q.rel,q.new⟩,h.ok,rfl,h.no,?_,hr.live⟩;have:=h.fu;simp only[au.jump];omega
theorem dM.weak{k:Nat}{c:Ct}(h:dM L O0 w0 k c O w)(hk:k<=k'):dM L O0 w0 k' c O w:=⟨h.fr,h.ok,h.pos,h.no,zal h.fu hk,h.live⟩
theorem dM.cell{k:Nat}{c:Ct}(h:dM L O0 w0 k c O w):(∃v,w.cell? ⟨L.Wg,0,none⟩=some v)/\∃v,w.cell? ⟨L.Wg,1,none⟩=some v:=by obtain⟨st,sm,hb⟩:=h.live;exact⟨⟨.int .u64 st,by simp[World.cell?,hb]⟩,⟨.int .u32 sm,by simp[World.cell?,hb]⟩⟩
end
section
variable {P:Program}{L:eg}{bI:Nat->Goroutine->World->(Nat->Prop)->(Nat->Prop)->Prop}{fn:FuncId}{Q:ew}{O:au}{a:Act}{w:World}{n:Nat}{ops:Array Oper}{i:Nat}{rest:List Nat}{o:Oper}{c:Ct}
theorem sU(hp:O.pos=.mn c)(hgo:∀r,c≠.go r)(X6:c≠.rt)
 (h:∀(b:Frame) (k:List Item) (cs:List Frame),b.fn=fn->b.kind≠.early->∀w₁ x,RX L O w w₁->bS L.tw L.Wg x w₁->x.v<=1000->x.sm<=1000->(c.open=true->x.wt=false)->
   (c=.w3->x.sm=0->stepG P true (G (b.at a (.inRegion ops (i :: rest):: k)) cs) w₁=.go {G (b.at a (.inRegion ops (i :: rest):: k)) cs with status:=.blocked} w₁ #[])/\
   (∀r,oU c x=some r->∃a' w' es n',stepG P true (G (b.at a (.inRegion ops (i :: rest):: k)) cs) w₁=.go (G (b.at a' (.inRegion ops rest :: k)) cs) w' es/\bS L.tw L.Wg r.2 w'/\bl L.Wg w₁ w'/\(∀e∈es,KT L.Wg e)/\deafBehind (KS c) es=KS r.1/\(c=.aq->es=#[⟨.mark (.acquire ⟨L.Wg,0,none⟩),false,true⟩])/\
     bG P true (iQ P L.tw L.Wg bI) (RX L) (DX L) fn ops rest n' Q (O.jump O.own (.mn r.1)) a' w')):
 bG P true (iQ P L.tw L.Wg bI) (RX L) (DX L) fn ops (i :: rest) n Q O a w:=by refine qo fun b k cs hb hk w₁ h₁ c' x rR h2 h3 h4 h5=>?_;rw[hp]at rR;cases rR;obtain⟨q1,q2⟩:=h b k cs hb hk w₁ x h₁ h2 h3 h4 h5;refine⟨X6,fun r hr=>absurd hr (hgo r),fun e1 e2=>⟨rfl,q1 e1 e2⟩,fun r hr=>?_⟩;obtain⟨a',w',es,n',e1,e2,e3,e4,e5,e6,e7⟩:=q2 r hr;exact⟨_,w',es,e1,⟨e2,e3,e4,e5,rfl,e6⟩,rest,a',n',rfl,e7⟩
theorem jP(hp:O.pos=.mn c){c':Ct}(hgo:∀r,c≠.go r)(Rt:c≠.w3)(xA:∀x,oU c x=some (c',x))
 (hs:∀(b:Frame) (k:List Item) (cs:List Frame),b.fn=fn->b.kind≠.early->∀w₁,stepG P true (G (b.at a (.inRegion ops (i :: rest):: k)) cs) w₁=.go (G (b.at a' (.inRegion ops rest :: k)) cs) w₁ es)
 (hes:∀e∈es,KT L.Wg e) (hd:deafBehind (KS c) es=KS c') (hacq:c=.aq->es=#[⟨.mark (.acquire ⟨L.Wg,0,none⟩),false,true⟩]) {n':Nat}
 (h:∀w₁ x,RX L O w w₁->bS L.tw L.Wg x w₁->bG P true (iQ P L.tw L.Wg bI) (RX L) (DX L) fn ops rest n' Q (O.jump O.own (.mn c')) a' w₁):
 bG P true (iQ P L.tw L.Wg bI) (RX L) (DX L) fn ops (i :: rest) n Q O a w:=by
 refine sU hp hgo (fun e=>by subst e;have:=xA ⟨0,false,0⟩;simp[oU]at this) fun b k cs hb hk w₁ x hR hM h3 h4 _=>⟨fun e=>absurd e Rt,fun r hr=>?_⟩
 rw[xA x]at hr;cases hr;exact⟨a',w₁,es,n',hs b k cs hb hk w₁,hM,bl.refl _ _,hes,hd,hacq,h w₁ x hR hM⟩
theorem JO(Wg:Nat):∀e∈#[(⟨.mark .disable,false,true⟩:Event)],KT Wg e:=by intro e he;simp at he;subst he;exact .inl rfl
theorem Hf(Wg:Nat):∀e∈#[(⟨.mark .enable,false,true⟩:Event)],KT Wg e:=by intro e he;simp at he;subst he;exact .inr (.inl rfl)
theorem JP(Wg:Nat):∀e∈#[(⟨.mark (.acquire ⟨Wg,0,none⟩),false,true⟩:Event)],KT Wg e:=by intro e he;simp at he;subst he;exact .inr (.inr (.inl rfl))
theorem NA(Wg:Nat):∀e∈#[(⟨.mark (.read ⟨Wg,1,none⟩),false,true⟩:Event)],KT Wg e:=by intro e he;simp at he;subst he;exact .inr (.inr (.inr (.inl rfl)))
theorem KU(Wg:Nat):∀e∈#[(⟨.mark (.write ⟨Wg,1,none⟩),false,true⟩:Event)],KT Wg e:=by intro e he;simp at he;subst he;exact .inr (.inr (.inr (.inr (.inl rfl))))
theorem TS(Wg o:Nat):∀e∈#[(⟨.cell ⟨Wg,o,none⟩,false,true⟩:Event)],KT Wg e:=by intro e he;simp at he;subst he;exact .inr (.inr (.inr (.inr (.inr ⟨_,_,rfl,rfl⟩))))
theorem NB(Wg o:Nat):∀e∈#[(⟨.cell ⟨Wg,o,none⟩,false,true⟩:Event),⟨.cell ⟨Wg,o,none⟩,true,true⟩],KT Wg e:=by intro e he;simp at he;rcases he with rfl|rfl<;>exact .inr (.inr (.inr (.inr (.inr ⟨_,_,rfl,rfl⟩))))
theorem Ru(Wg o:Nat):∀e∈semEvents ⟨Wg,o,none⟩,KT Wg e:=by
 intro e he;simp[semEvents]at he;rcases he with rfl|rfl|rfl|rfl
 ·exact .inl rfl
 ·exact .inr (.inr (.inr (.inr (.inr ⟨_,_,rfl,rfl⟩))))
 ·exact .inr (.inr (.inr (.inr (.inr ⟨_,_,rfl,rfl⟩))))
 ·exact .inr (.inl rfl)
theorem wrap_u64(hm:m<18446744073709551616):IntKind.u64.wrap (m:Int)=(m:Int):=by have acL:IntKind.u64.bits=64:=rfl;simp only[IntKind.wrap,acL];have:((m:Int)% 18446744073709551616)=(m:Int):=Int.emod_eq_of_lt (Int.natCast_nonneg m) (Int.ofNat_lt.2 hm);simp[IntKind.signed,this]
theorem U0{v:Nat}(h:v<=1001)(d:Nat)(hd:d<=1):IntKind.u64.wrap (((v*4294967296+d:Nat):Int)+4294967296)=(((v+1)*4294967296+d:Nat):Int):=by
 have e:(((v*4294967296+d:Nat):Int)+4294967296)=(((v+1)*4294967296+d:Nat):Int):=by omega
 rw[e];exact wrap_u64 (by omega)
theorem KW(hp:O.pos=.mn (.a1 r)){ats:Array TypeId}{y:Operand}(ho:ops[i]?=some o)(hw:Region.wanted o (yielded ops a.tmps)=true)(hop:o.op=.call {callee:=.value (.func f),args:=#[x,y],argTypes:=ats})
 (hf:P.funcs[f]?=some fn') (hname:(fn'.name == "runtime.NumGoroutine")=false) (hb:fn'.body.isNone=true) (hn:Extern.findNext fn'=none) (he:Extern.find fn'=some (Extern.Atomic.update (Op.intArith .add) .u64 true))
 (hx:a.eval x=.pointer (some ⟨L.Wg,0,none⟩)) (hy:a.eval y=.int .u64 4294967296) {n1:Nat}
 (k1:∀w₁,RX L O w w₁->∀(v s:Nat),v<=1000->∀w',bS L.tw L.Wg ⟨v+1,false,s⟩ w'->bl L.Wg w₁ w'->bG P true (iQ P L.tw L.Wg bI) (RX L) (DX L) fn ops rest n1 Q (O.jump O.own (.mn (if v=0 then .ar r else .ae r))) (a.put o.dst (.int .u64 (((v+1)*4294967296+b1 false:Nat):Int))) w'):
 bG P true (iQ P L.tw L.Wg bI) (RX L) (DX L) fn ops (i :: rest) n Q O a w:=by
 refine sU hp (by simp) (by simp) fun b k cs hb' hk w₁ z hR hM h3 h4 h5=>⟨by simp,fun q hq=>?_⟩
 simp only[oU,Option.some.injEq]at hq;subst hq;have z1:=h5 rfl;obtain⟨v,wt,s⟩:=z;simp only at z1 h3;subst z1;have hst:=stepG_add_atomic (main:=true) (b:=b) (kk:=k) (cs:=cs) (rest:=rest) ho hw hk hop hf hname hb hn .u64 he hx hy hM.word (hM.thaw 0);simp only at hst;rw[U0 (by omega) (b1 false) (by simp[b1])]at hst;have hG:bS L.tw L.Wg ⟨v+1,false,s⟩ (w₁.setCell ⟨L.Wg,0,none⟩ (.int .u64 (((v+1)*4294967296+b1 false:Nat):Int))):=hM.nM (y:=⟨v+1,false,s⟩) rfl;refine⟨_,_,_,n1,hst,hG,bl.set _ _ _ _ (by omega),NB _ 0,?_,by simp,k1 w₁ hR v s h3 _ hG (bl.set _ _ _ _ (by omega))⟩;by_cases hv:v=0<;>simp[hv]<;>rfl
end
end
end Go.Proofs.YteoahlieielcdaaGreat
