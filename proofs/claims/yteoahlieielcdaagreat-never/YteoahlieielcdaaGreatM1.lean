import Derived.Conc.CompanyMem
import Derived.Conc.MuSpec
import Derived.Conc.AtomicLaws2
set_option linter.all false
set_option maxHeartbeats 4000000
set_option maxRecDepth 100000
namespace Go.Proofs.YteoahlieielcdaaGreat
abbrev af:=World
abbrev ah:=ByteArray
abbrev aj:=Value
abbrev ak:=Frame
abbrev au:=Goroutine
abbrev ay:=FuncId
abbrev az:=TypeId
abbrev aA:=Addr
abbrev aB:=Program
abbrev aC:=Event
abbrev aD:=Operand
abbrev zay:=@Nat.le_refl
abbrev zaz:=@Nat.le_trans
abbrev za0:=@Array.getElem?_eq_some_iff
abbrev za1:=@Nat.le_add_right
abbrev za2:=@Nat.mod_eq_of_lt
variable{i j n u it r n' n₁ n₂ dn m nf pb m' k':Nat}{sv ws t:Bool}{w₁ w0:af}{x:aD}{ops:Array Oper}{y cd:Code}{o oi:Oper}{f:ay}{as:Array aD}{b:ak}{cs:List ak}{ds:List Deferred}{cap:Array aj}{fn':Func}{a a':Act}{es:Array aC}{G1 C1:Prop}
def sm(f:Nat->Nat):Nat->Nat
 | 0=>0
 |n+1=>sm f n+f n
def aR{α:Type}(f:Nat->α)(i:Nat)(x:α):Nat->α:=fun j=>if j=i then x else f j
def aT{α:Type}(f:Nat->α)(i:Nat)(x:α):aR f i x i=x:=by simp[aR]
def bC{α:Type}(f:Nat->α)(x:α)(h:j≠i):aR f i x j=f j:=by simp[aR,h]
def xZ{f g:Nat->Nat}:∀{n:Nat},(∀i,i<n->f i=g i)->sm f n=sm g n
 | 0,_=>rfl
 |n+1,h=>by rw[sm,sm,xZ (fun i hi=>h i (by omega)),h n (by omega)]
def lP{α:Type}(φ:α->Nat)(f:Nat->α)(x:α){i:Nat}:∀{n:Nat},i<n->sm (fun j=>φ (aR f i x j)) n+φ (f i)=sm (fun j=>φ (f j)) n+φ x
 |n+1,h=>by
  rcases Nat.lt_or_ge i n with hlt|hge
  ·have:=lP φ f x hlt;simp only[sm,bC f x (show n≠i by omega)];omega
  ·obtain rfl:i=n:=by omega
   simp only[sm,aT];rw[xZ (g:=fun j=>φ (f j)) (fun j hj=>by rw[bC f x (by omega)])];omega
def dV{f:Nat->Nat}{i:Nat}:∀{n:Nat},i<n->f i<=sm f n
 |n+1,h=>by
  rcases Nat.lt_or_ge i n with hlt|hge
  ·have:=dV (f:=f) hlt;simp only[sm];omega
  ·obtain rfl:i=n:=by omega
   simp only[sm];omega
def GU{f:Nat->Nat}:∀{n:Nat},0<sm f n->∃i,i<n/\0<f i
 |n+1,h=>by
  simp only[sm]at h;rcases Nat.eq_zero_or_pos (f n)with e|e
  ·obtain⟨i,hi,hp⟩:=GU (f:=f) (n:=n) (by omega);exact⟨i,by omega,hp⟩
  ·exact⟨n,by omega,e⟩
def AW{f:Nat->Nat}{c:Nat}(h:∀i,f i<=c):∀n,sm f n<=c*n
 | 0=>by simp[sm]
 |n+1=>by have:=AW h n;have:=h n;simp only[sm,Nat.mul_add,Nat.mul_one];omega
def s6{f:Nat->Nat}:∀{n:Nat},(∀i,i<n->f i=0)->sm f n=0
 | 0,_=>rfl
 |n+1,h=>by rw[sm,s6 (fun i hi=>h i (by omega)),h n (by omega)]
structure Wd where
 l:Bool
 w:Bool
 s:Bool
 c:Nat
 deriving DecidableEq
inductive Lk where
 |out
 |uy
 |rd (aw sv:Bool) (it:Nat) (ws:Bool)
 |zL (old:Wd) (aw sv:Bool) (it:Nat) (ws:Bool)
 |cw (old:Wd) (sv:Bool) (it:Nat) (ws:Bool)
 |rz (old:Wd) (aw sv:Bool) (it:Nat) (ws:Bool)
 |t1 (sv:Bool)
 |gV (sv ws:Bool)
 |t2 (ws:Bool)
 |wk (sv ws:Bool)
 |add (cl:Bool)
 |hold
 |F2 (old:Wd)
 |Jv
 |tok
 |hand
 |bad
 deriving DecidableEq
def lM(old:Wd)(aw sv:Bool)(it:Nat)(ws:Bool):Lk:=if old.l=true/\old.s=false then .zL old aw sv it ws else .rz old aw sv it ws
def OS(old:Wd)(aw sv:Bool):Wd:={l:=if old.s then old.l else true,w:=if aw then false else old.w,s:=old.s ||(sv && old.l),c:=if old.l || old.s then old.c+1 else old.c}
def vq(x:Wd):Lk:=if x.s then .hand else if x.c=0\/x.w=true then .out else .F2 x
def gH(T:Lk)(x:Wd)(v:Nat):List (Lk×Wd×Nat):=
 match T with
 |.uy=>if x=⟨false,false,false,0⟩then [(.hold,{x with l:=true},v)]else [(.rd false false 0 false,x,v)]
 |.rd aw sv it ws=> [(lM x aw sv it ws,x,v)]
 |.zL old aw sv it ws=>(.rz old aw sv it ws,x,v)::(if it<4 then [(if aw=false/\old.w=false/\old.c≠0 then .cw old sv it ws else .rd aw sv (it+1) ws,x,v)]else [])
 |.cw old sv it ws=>if x=old then [(.rd true sv (it+1) ws,{x with w:=true},v)]else [(.rd false sv (it+1) ws,x,v)]
 |.rz old aw sv it ws=>if aw=true/\old.w=false then [(.bad,x,v)]else if x=old then(if old.l=true\/old.s=true then [(if ws then .gV sv true else .t1 sv,OS old aw sv,v)]else [(.hold,OS old aw sv,v)])else [(.rd aw sv it ws,x,v)]
 |.t1 sv=> [(.gV sv true,x,v),(.gV sv false,x,v)]
 |.gV sv ws=>if v=0 then []else [(if sv then .wk true ws else .t2 ws,x,v-1)]
 |.t2 ws=> [(.wk false ws,x,v),(.wk true ws,x,v)]
 |.wk sv ws=>if x.s then(if x.l=true\/x.w=true\/x.c=0 then [(.bad,x,v)]else [(.add (!sv || x.c == 1),x,v)])else [(lM x true sv 0 ws,x,v)]
 |.add cl=>if x.l=true\/x.s=false\/x.c=0 then [(.bad,x,v)]else [(.hold,{x with l:=true,c:=x.c-1,s:=if cl then false else x.s},v)]
 |.hold=>if x.l then [(vq {x with l:=false},{x with l:=false},v)]else [(.bad,x,v)]
 |.F2 old=>if x=old then [(.tok,{x with c:=x.c-1,w:=true},v)]else [(.Jv,x,v)]
 |.Jv=> [(if x.c=0\/x.l=true\/x.w=true\/x.s=true then .out else .F2 x,x,v)]
 |.tok=> [(.out,x,v+1)]
 |.hand=> [(.out,x,v+1)]
 |.out=> []
 |.bad=> []
def b1(b:Bool):Nat:=if b then 1 else 0
def nH:Lk->Nat|.hold=>1|_=>0
def lp:Lk->Nat|.rd aw _ _ _=>b1 aw|.zL _ aw _ _ _=>b1 aw|.rz _ aw _ _ _=>b1 aw|_=>0
def lQ:Lk->Nat|.tok=>1|_=>0
def lV:Lk->Nat|.hand=>1|_=>0
def jZ:Lk->Nat|.t2 _=>1|.wk _ _=>1|_=>0
def jf:Lk->Nat|.add _=>1|_=>0
def nQ:Lk->Nat|.t1 _=>1|.gV _ _=>1|_=>0
def mF:Lk->Nat|.F2 _=>1|.Jv=>1|_=>0
def XD(n:Nat)(x:Wd):Lk->Prop
 |.rd aw sv it _=>(sv=true->aw=true)/\it<=4
 |.zL old aw sv it _=>old.l=true/\old.s=false/\(aw=true->old.w=true)/\(sv=true->aw=true)/\it<=4/\old.c<=n
 |.cw old sv it _=>old.l=true/\old.s=false/\old.w=false/\old.c≠0/\sv=false/\it<4/\old.c<=n
 |.rz old aw sv it _=>(aw=true->old.w=true/\old.s=false)/\(sv=true->aw=true)/\it<=4/\old.c<=n
 |.add cl=>cl=false->2<=x.c
 |.F2 old=>old.l=false/\old.w=false/\old.s=false/\old.c≠0/\old.c<=n
 |.bad=>False
 |_=>True
structure jR(n:Nat)(th:Nat->Lk)(x:Wd)(v:Nat):Prop where
 lk:sm (fun i=>nH (th i)) n=b1 x.l
 norm:x.s=false->sm (fun i=>lV (th i)) n=0/\sm (fun i=>jf (th i)) n=0/\sm (fun i=>lp (th i)) n+sm (fun i=>lQ (th i)) n+v+sm (fun i=>jZ (th i)) n=b1 x.w/\x.c+sm (fun i=>lQ (th i)) n+v=sm (fun i=>nQ (th i)) n
 AX:x.s=true->x.w=false/\sm (fun i=>lp (th i)) n=0/\sm (fun i=>lQ (th i)) n=0/\sm (fun i=>nH (th i)) n+sm (fun i=>lV (th i)) n+v+sm (fun i=>jZ (th i)) n+sm (fun i=>jf (th i)) n=1/\x.c=sm (fun i=>nQ (th i)) n+sm (fun i=>jZ (th i)) n+sm (fun i=>jf (th i)) n/\1<=x.c
 aga:x.s=false->x.l=false->x.w=false->x.c≠0->0<sm (fun i=>mF (th i)) n
 ok:∀i,i<n->XD n x (th i)
def m6:Lk->Nat
 |.out=>0|.uy=>9
 |.rd aw _ _ _=>if aw then 7 else 8
 |.zL _ aw _ _ _=>if aw then 7 else 8
 |.cw ..=>8
 |.rz _ aw _ _ _=>if aw then 7 else 8
 |.t1 _=>6|.gV _ _=>6
 |.t2 _=>8|.wk _ _=>8|.add _=>7|.hold=>6|.F2 _=>5|.Jv=>5|.tok=>4|.hand=>4|.bad=>0
def DC(x:Wd):Lk->Nat
 |.rd _ _ it _=>10*(5-it)+4
 |.zL old _ _ it _=>(if x=old then 0 else 100)+10*(5-it)+3
 |.cw old _ it _=>(if x=old then 0 else 100)+10*(5-it)+2
 |.rz old _ _ it _=>(if x=old then 0 else 100)+10*(5-it)+1
 |.t1 _=>1|.t2 _=>2|.wk _ _=>1
 |.F2 old=>if x=old then 1 else 3
 |.Jv=>2
 |_=>0
def msA(n:Nat)(th:Nat->Lk)(v:Nat):Nat:=sm (fun i=>m6 (th i)) n+3*v
def Pd(n:Nat)(th:Nat->Lk)(x:Wd):Nat:=sm (fun i=>DC x (th i)) n
def abz(T:Lk):nQ T+jZ T+jf T<=1:=by cases T<;>simp[nQ,jZ,jf]
def x7(f g:Nat->Nat):∀n,sm (fun i=>f i+g i) n=sm f n+sm g n
 | 0=>rfl
 |n+1=>by simp only[sm,x7 f g n];omega
def jR.cbd{th:Nat->Lk}{x:Wd}{v:Nat}(h:jR n th x v):x.c<=n:=by
 have h1:=AW (f:=fun i=>nQ (th i)+jZ (th i)+jf (th i)) (c:=1) (fun i=>abz (th i)) n;rw[x7 (fun i=>nQ (th i)+jZ (th i)) (fun i=>jf (th i)),x7 (fun i=>nQ (th i)) (fun i=>jZ (th i))]at h1;cases hs:x.s with
 |false=>have:=h.norm hs;omega
 |true=>have:=h.AX hs;omega
def Pe{x y:Wd}{T:Lk}(h:XD n x T)(hc:∀cl,T=.add cl->x.c<=y.c):XD n y T:=by
 cases T<;>first|exact h|skip
 case add cl=>intro e;have:=h e;have:=hc cl rfl;omega
def nC(H Aw Tk Hd Wk Ad Q Un:Nat)(x:Wd)(v:Nat):Prop:=
 H=b1 x.l/\(x.s=false->Hd=0/\Ad=0/\Aw+Tk+v+Wk=b1 x.w/\x.c+Tk+v=Q)/\
 (x.s=true->x.w=false/\Aw=0/\Tk=0/\H+Hd+v+Wk+Ad=1/\x.c=Q+Wk+Ad/\1<=x.c)/\(x.s=false->x.l=false->x.w=false->x.c≠0->0<Un)
def AY(n:Nat)(th:Nat->Lk)(x:Wd)(v:Nat):Prop:=
 nC (sm (fun i=>nH (th i)) n) (sm (fun i=>lp (th i)) n) (sm (fun i=>lQ (th i)) n) (sm (fun i=>lV (th i)) n) (sm (fun i=>jZ (th i)) n) (sm (fun i=>jf (th i)) n) (sm (fun i=>nQ (th i)) n) (sm (fun i=>mF (th i)) n) x v
def jR.num{th:Nat->Lk}{x:Wd}{v:Nat}(h:jR n th x v):AY n th x v:=⟨h.lk,h.norm,h.AX,h.aga⟩
def Jy{th:Nat->Lk}{x:Wd}{v:Nat}(h:AY n th x v)(ok:∀i,i<n->XD n x (th i)):jR n th x v:=⟨h.1,h.2.1,h.2.2.1,h.2.2.2,ok⟩
def Ex{th:Nat->Lk}{x y:Wd}{v:Nat}(h:jR n th x v)(hi:i<n)(T':Lk)
 (agb:∀H Aw Tk Hd Wk Ad Q Un,nC H Aw Tk Hd Wk Ad Q Un x v->nH (th i)<=H->lp (th i)<=Aw->lQ (th i)<=Tk->lV (th i)<=Hd->jZ (th i)<=Wk->jf (th i)<=Ad->nQ (th i)<=Q->mF (th i)<=Un->
   nC (H-nH (th i)+nH T') (Aw-lp (th i)+lp T') (Tk-lQ (th i)+lQ T') (Hd-lV (th i)+lV T') (Wk-jZ (th i)+jZ T') (Ad-jf (th i)+jf T') (Q-nQ (th i)+nQ T') (Un-mF (th i)+mF T') y u)
 (hok:XD n y T') (xG:x.c<=y.c\/∀j,j<n->j≠i->jf (th j)=0):jR n (aR th i T') y u:=by
 refine Jy ?_ (fun j hj=>?_)
 ·have e:∀φ:Lk->Nat,sm (fun j=>φ (aR th i T' j)) n=sm (fun j=>φ (th j)) n-φ (th i)+φ T':=fun φ=>by have h1:=lP φ th T' hi;have h2:=dV (f:=fun j=>φ (th j)) hi;omega
  unfold AY;rw[e nH,e lp,e lQ,e lV,e jZ,e jf,e nQ,e mF];exact agb _ _ _ _ _ _ _ _ h.num (dV (f:=fun j=>nH (th j)) hi) (dV (f:=fun j=>lp (th j)) hi) (dV (f:=fun j=>lQ (th j)) hi) (dV (f:=fun j=>lV (th j)) hi) (dV (f:=fun j=>jZ (th j)) hi) (dV (f:=fun j=>jf (th j)) hi) (dV (f:=fun j=>nQ (th j)) hi) (dV (f:=fun j=>mF (th j)) hi)
 ·by_cases e:j=i
  ·subst e;rw[aT];exact hok
  ·rw[bC _ _ e];refine Pe (h.ok j hj) (fun cl qY=>?_);rcases xG with h1|h1
   ·exact h1
   ·have:=h1 j hj e;rw[qY]at this;simp[jf]at this
def Jz{th:Nat->Lk}(hi:i<n)(T':Lk)(u:Nat):msA n (aR th i T') u+m6 (th i)=sm (fun j=>m6 (th j)) n+m6 T'+3*u:=by have:=lP m6 th T' hi;unfold msA;omega
def S9{th:Nat->Lk}(hi:i<n)(T':Lk)(x:Wd):Pd n (aR th i T') x+DC x (th i)=Pd n th x+DC x T':=lP (DC x) th T' hi
def Pf(n:Nat)(th:Nat->Lk)(x:Wd)(v i:Nat)(r:Lk×Wd×Nat):Prop:=
 r.1≠.bad/\jR n (aR th i r.1) r.2.1 r.2.2/\(msA n (aR th i r.1) r.2.2<msA n th v\/(r.2.1=x/\r.2.2=v/\msA n (aR th i r.1) r.2.2=msA n th v/\Pd n (aR th i r.1) x<Pd n th x))
def Pg(old:Wd)(aw sv:Bool)(it:Nat)(ws:Bool):nH (lM old aw sv it ws)=0/\lp (lM old aw sv it ws)=b1 aw/\lQ (lM old aw sv it ws)=0/\lV (lM old aw sv it ws)=0/\jZ (lM old aw sv it ws)=0/\jf (lM old aw sv it ws)=0/\nQ (lM old aw sv it ws)=0/\mF (lM old aw sv it ws)=0:=by unfold lM;split<;>simp[nH,lp,lQ,lV,jZ,jf,nQ,mF]
def U8{x:Wd}{aw:Bool}(h1:sv=true->aw=true)(h2:it<=4)(h3:x.c<=n)(h4:aw=true->x.w=true/\x.s=false):XD n x (lM x aw sv it ws):=by
 unfold lM;split
 ·rename_i h;exact⟨h.1,h.2,fun e=>(h4 e).1,h1,h2,h3⟩
 ·exact⟨h4,h1,h2,h3⟩
def Pj(old:Wd)(aw sv:Bool)(it:Nat)(ws:Bool):lM old aw sv it ws≠.bad:=by unfold lM;split<;>simp
def abA(old:Wd)(aw sv:Bool)(it:Nat)(ws:Bool):m6 (lM old aw sv it ws)=if aw then 7 else 8:=by unfold lM;split<;>simp[m6]
def agc(x:Wd)(aw sv:Bool)(it:Nat)(ws:Bool):DC x (lM x aw sv it ws)<=10*(5-it)+3:=by unfold lM;split<;>simp[DC]
def jR.aw{th:Nat->Lk}{x:Wd}{v:Nat}(h:jR n th x v)(hi:i<n)(ha:0<lp (th i)):x.w=true/\x.s=false:=by
 have h1:=dV (f:=fun j=>lp (th j)) hi;cases hs:x.s with
 |true=>have:=h.AX hs;omega
 |false=>
  have:=h.norm hs;cases hw:x.w with
  |true=>exact⟨rfl,rfl⟩
  |false=>rw[hw]at this;simp[b1]at this;omega
def Pk{th:Nat->Lk}{x:Wd}{v:Nat}(h:jR n th x v)(hi:i<n){r:Lk×Wd×Nat}(hr:r∈gH (th i) x v):Pf n th x v i r:=by
 have hc:=h.cbd;have hok:=h.ok i hi;have U2:=h.aw hi;have hA:=fun T' u=>Jz (th:=th) hi T' u;have hB:=fun T'=>S9 (th:=th) hi T' x;have hA0:msA n th v=sm (fun j=>m6 (th j)) n+3*v:=rfl;have hle:=dV (f:=fun j=>m6 (th j)) hi;have S0:=fun(T':Lk) (y:Wd) (u:Nat)=>Ex (y:=y) (u:=u) h hi T';generalize hT:th i=T at *;cases T with
 |out=>simp[gH]at hr
 |bad=>exact hok.elim
 |uy=>
  simp only[gH]at hr;split at hr
  ·simp only[List.mem_singleton]at hr;subst hr;rename_i hx;subst hx;refine⟨by simp,S0 _ _ _ (fun H Aw Tk Hd Wk Ad Q Un hn a1 a2 a3 a4 a5 a6 a7 a8=>?_) trivial (.inl (zay _)),.inl ?_⟩
   ·simp[nC,b1,nH,lp,lQ,lV,jZ,jf,nQ,mF]at *;omega
   ·have:=hA .hold v;simp[m6]at *;omega
  ·simp only[List.mem_singleton]at hr;subst hr;refine⟨by simp,S0 _ _ _ (fun H Aw Tk Hd Wk Ad Q Un hn a1 a2 a3 a4 a5 a6 a7 a8=>?_) ⟨by simp,by omega⟩ (.inl (zay _)),.inl ?_⟩
   ·simpa[nH,lp,lQ,lV,jZ,jf,nQ,mF,b1]using hn
   ·have:=hA (.rd false false 0 false) v;simp[m6]at *;omega
 |rd aw sv it ws=>
  simp only[gH,List.mem_singleton]at hr;subst hr;obtain⟨k1,k2,k3,k4,k5,k6,k7,k8⟩:=Pg x aw sv it ws;refine⟨Pj _ _ _ _ _,S0 _ _ _ (fun H Aw Tk Hd Wk Ad Q Un hn a1 a2 a3 a4 a5 a6 a7 a8=>?_) (U8 hok.1 hok.2 hc (fun e=>U2 (by simp[lp,b1,e]))) (.inl (zay _)),.inr ⟨rfl,rfl,?_,?_⟩⟩
  ·rw[k1,k2,k3,k4,k5,k6,k7,k8];simp only[nH,lp,lQ,lV,jZ,jf,nQ,mF]at *;have:Aw-b1 aw+b1 aw=Aw:=by omega
   simpa[this]using hn
  ·have:=hA (lM x aw sv it ws) v;rw[abA]at this;simp[m6]at *;omega
  ·have:=hB (lM x aw sv it ws);have:=agc x aw sv it ws;simp[DC]at *;omega
 |zL old aw sv it ws=>
  obtain⟨o1,o2,o3,o4,o5,o6⟩:=hok;simp only[gH,List.mem_cons]at hr;rcases hr with hr|hr
  ·subst hr;refine⟨by simp,S0 _ _ _ (fun H Aw Tk Hd Wk Ad Q Un hn a1 a2 a3 a4 a5 a6 a7 a8=>?_) ⟨fun e=>⟨o3 e,o2⟩,o4,o5,o6⟩ (.inl (zay _)),.inr ⟨rfl,rfl,?_,?_⟩⟩
   ·simp only[nH,lp,lQ,lV,jZ,jf,nQ,mF]at *;have:Aw-b1 aw+b1 aw=Aw:=by omega
    simpa[this]using hn
   ·have:=hA (.rz old aw sv it ws) v;simp[m6]at *;omega
   ·have:=hB (.rz old aw sv it ws);simp[DC]at *;omega
  ·split at hr
   ·simp only[List.mem_singleton]at hr;subst hr;rename_i hit;split
    ·rename_i hw;obtain⟨rfl,w2,w3⟩:=hw;refine⟨by simp,S0 _ _ _ (fun H Aw Tk Hd Wk Ad Q Un hn a1 a2 a3 a4 a5 a6 a7 a8=>?_) ⟨o1,o2,w2,w3,by cases sv<;>simp_all,hit,o6⟩ (.inl (zay _)),.inr ⟨rfl,rfl,?_,?_⟩⟩
     ·simpa[nH,lp,lQ,lV,jZ,jf,nQ,mF,b1]using hn
     ·have:=hA (.cw old sv it ws) v;simp[m6]at *;omega
     ·have:=hB (.cw old sv it ws);simp[DC]at *;omega
    ·refine⟨by simp,S0 _ _ _ (fun H Aw Tk Hd Wk Ad Q Un hn a1 a2 a3 a4 a5 a6 a7 a8=>?_) ⟨o4,by omega⟩ (.inl (zay _)),.inr ⟨rfl,rfl,?_,?_⟩⟩
     ·simp only[nH,lp,lQ,lV,jZ,jf,nQ,mF]at *;have:Aw-b1 aw+b1 aw=Aw:=by omega
      simpa[this]using hn
     ·have:=hA (.rd aw sv (it+1) ws) v;simp[m6]at *;omega
     ·have:=hB (.rd aw sv (it+1) ws);simp[DC]at *;omega
   ·simp at hr
 |cw old sv it ws=>
  obtain⟨o1,o2,o3,o4,o5,o6,o7⟩:=hok;simp only[gH]at hr;split at hr
  ·simp only[List.mem_singleton]at hr;subst hr;rename_i hx;subst hx;refine⟨by simp,S0 _ _ _ (fun H Aw Tk Hd Wk Ad Q Un hn a1 a2 a3 a4 a5 a6 a7 a8=>?_) ⟨by simp,by omega⟩ (.inl (zay _)),.inl ?_⟩
   ·simp[nC,b1,nH,lp,lQ,lV,jZ,jf,nQ,mF,o1,o2,o3]at *;omega
   ·have:=hA (.rd true sv (it+1) ws) v;simp[m6]at *;omega
  ·simp only[List.mem_singleton]at hr;subst hr;refine⟨by simp,S0 _ _ _ (fun H Aw Tk Hd Wk Ad Q Un hn a1 a2 a3 a4 a5 a6 a7 a8=>?_) ⟨by simp[o5],by omega⟩ (.inl (zay _)),.inr ⟨rfl,rfl,?_,?_⟩⟩
   ·simpa[nH,lp,lQ,lV,jZ,jf,nQ,mF,b1]using hn
   ·have:=hA (.rd false sv (it+1) ws) v;simp[m6]at *;omega
   ·have:=hB (.rd false sv (it+1) ws);simp[DC]at *;omega
 |rz old aw sv it ws=>
  obtain⟨o1,o2,o3,o4⟩:=hok;simp only[gH]at hr;split at hr
  ·rename_i hb;have:=(o1 hb.1).1;rw[hb.2]at this;cases this
  ·split at hr
   ·rename_i hx;subst hx;split at hr
    ·rename_i hls;simp only[List.mem_singleton]at hr;subst hr;have hq:∀φ:Lk->Nat,(φ=nH\/φ=lp\/φ=lQ\/φ=lV\/φ=jZ\/φ=jf\/φ=mF->φ (if ws=true then .gV sv true else .t1 sv)=0):=by rintro φ (rfl|rfl|rfl|rfl|rfl|rfl|rfl) <;>cases ws<;>rfl
     have hq1:nQ (if ws=true then .gV sv true else .t1 sv)=1:=by cases ws<;>rfl
     have hqA:m6 (if ws=true then .gV sv true else .t1 sv)=6:=by cases ws<;>rfl
     refine⟨by cases ws<;>simp,S0 _ _ _ (fun H Aw Tk Hd Wk Ad Q Un hn a1 a2 a3 a4 a5 a6 a7 a8=>?_) (by cases ws<;>trivial) (.inl (by simp[OS];split<;>omega)),.inl ?_⟩
     ·rw[hq nH (by simp),hq lp (by simp),hq lQ (by simp),hq lV (by simp),hq jZ (by simp),hq jf (by simp),hq mF (by simp),hq1];obtain⟨l,w,s,c⟩:=x;cases l<;>cases w<;>cases s<;>cases aw<;>cases sv<;>simp[nC,b1,nH,lp,lQ,lV,jZ,jf,nQ,mF,OS]at*<;>omega
     ·have:=hA (if ws=true then .gV sv true else .t1 sv) v;rw[hqA]at this;cases aw<;>simp[m6]at*<;>omega
    ·rename_i hls;simp only[List.mem_singleton]at hr;subst hr;refine⟨by simp,S0 _ _ _ (fun H Aw Tk Hd Wk Ad Q Un hn a1 a2 a3 a4 a5 a6 a7 a8=>?_) trivial (.inl (by simp[OS];split<;>omega)),.inl ?_⟩
     ·obtain⟨l,w,s,c⟩:=x;cases l<;>cases w<;>cases s<;>cases aw<;>simp[nC,b1,nH,lp,lQ,lV,jZ,jf,nQ,mF,OS]at*<;>omega
     ·have:=hA .hold v;cases aw<;>simp[m6]at*<;>omega
   ·rename_i hx;simp only[List.mem_singleton]at hr;subst hr;refine⟨by simp,S0 _ _ _ (fun H Aw Tk Hd Wk Ad Q Un hn a1 a2 a3 a4 a5 a6 a7 a8=>?_) ⟨o2,o3⟩ (.inl (zay _)),.inr ⟨rfl,rfl,?_,?_⟩⟩
    ·simp only[nH,lp,lQ,lV,jZ,jf,nQ,mF]at *;have:Aw-b1 aw+b1 aw=Aw:=by omega
     simpa[this]using hn
    ·have:=hA (.rd aw sv it ws) v;simp[m6]at *;omega
    ·have:=hB (.rd aw sv it ws);simp[DC,hx]at *;omega
 |t1 sv=>
  simp only[gH,List.mem_cons,List.not_mem_nil,or_false]at hr;have key:∀ws,Pf n th x v i (.gV sv ws,x,v):=fun ws=>by
   refine⟨by simp,S0 _ _ _ (fun H Aw Tk Hd Wk Ad Q Un hn a1 a2 a3 a4 a5 a6 a7 a8=>?_) trivial (.inl (zay _)),.inr ⟨rfl,rfl,?_,?_⟩⟩
   ·simp only[nH,lp,lQ,lV,jZ,jf,nQ,mF]at *;have:Q-1+1=Q:=by omega
    simpa[this]using hn
   ·have:=hA (.gV sv ws) v;simp[m6]at *;omega
   ·have:=hB (.gV sv ws);simp[DC]at *;omega
  rcases hr with rfl|rfl
  ·exact key true
  ·exact key false
 |gV sv ws=>
  simp only[gH]at hr;split at hr
  ·simp at hr
  ·rename_i hv;simp only[List.mem_singleton]at hr;subst hr;have hq:∀φ:Lk->Nat,(φ=nH\/φ=lp\/φ=lQ\/φ=lV\/φ=nQ\/φ=jf\/φ=mF->φ (if sv=true then .wk true ws else .t2 ws)=0):=by rintro φ (rfl|rfl|rfl|rfl|rfl|rfl|rfl) <;>cases sv<;>rfl
   have hq1:jZ (if sv=true then .wk true ws else .t2 ws)=1:=by cases sv<;>rfl
   have hqA:m6 (if sv=true then .wk true ws else .t2 ws)=8:=by cases sv<;>rfl
   refine⟨by cases sv<;>simp,S0 _ _ _ (fun H Aw Tk Hd Wk Ad Q Un hn a1 a2 a3 a4 a5 a6 a7 a8=>?_) (by cases sv<;>trivial) (.inl (zay _)),.inl ?_⟩
   ·rw[hq nH (by simp),hq lp (by simp),hq lQ (by simp),hq lV (by simp),hq nQ (by simp),hq jf (by simp),hq mF (by simp),hq1];obtain⟨l,w,s,c⟩:=x;cases l<;>cases w<;>cases s<;>simp[nC,b1,nH,lp,lQ,lV,jZ,jf,nQ,mF]at*<;>omega
   ·have:=hA (if sv=true then .wk true ws else .t2 ws) (v-1);rw[hqA]at this;simp[m6]at *;omega
 |t2 ws=>
  simp only[gH,List.mem_cons,List.not_mem_nil,or_false]at hr;have key:∀sv,Pf n th x v i (.wk sv ws,x,v):=fun sv=>by
   refine⟨by simp,S0 _ _ _ (fun H Aw Tk Hd Wk Ad Q Un hn a1 a2 a3 a4 a5 a6 a7 a8=>?_) trivial (.inl (zay _)),.inr ⟨rfl,rfl,?_,?_⟩⟩
   ·simp only[nH,lp,lQ,lV,jZ,jf,nQ,mF]at *;have:Wk-1+1=Wk:=by omega
    simpa[this]using hn
   ·have:=hA (.wk sv ws) v;simp[m6]at *;omega
   ·have:=hB (.wk sv ws);simp[DC]at *;omega
  rcases hr with rfl|rfl
  ·exact key false
  ·exact key true
 |wk sv ws=>
  have hwk:1<=sm (fun j=>jZ (th j)) n:=zaz (by rw[hT];exact zay 1:1<=jZ (th i)) (dV (f:=fun j=>jZ (th j)) hi);simp only[gH]at hr;split at hr
  ·rename_i hs;obtain⟨g1,g2,g3,g4,g5,g6⟩:=h.AX hs;have hlk:=h.lk;have hl:x.l=false:=by
    cases hl:x.l with
    |false=>rfl
    |true=>rw[hl]at hlk;simp[b1]at hlk;omega
   rw[if_neg (by rw[hl,g1];simp;omega)]at hr;simp only[List.mem_singleton]at hr;subst hr;refine⟨by simp,S0 _ _ _ (fun H Aw Tk Hd Wk Ad Q Un hn a1 a2 a3 a4 a5 a6 a7 a8=>?_) ?_ (.inl (zay _)),.inl ?_⟩
   ·obtain⟨l,w,s,c⟩:=x;cases l<;>cases w<;>cases s<;>simp[nC,b1,nH,lp,lQ,lV,jZ,jf,nQ,mF]at*<;>omega
   ·intro e;simp at e;have:=e.2;show 2<=x.c;omega
   ·have:=hA (.add (!sv || x.c == 1)) v;simp[m6]at *;omega
  ·rename_i hs;simp only[List.mem_singleton]at hr;subst hr;have hs':x.s=false:=by simpa using hs
   obtain⟨g1,g2,g3,g4⟩:=h.norm hs';have hw:x.w=true:=by
    cases hw:x.w with
    |true=>rfl
    |false=>rw[hw]at g3;simp[b1]at g3;omega
   obtain⟨k1,k2,k3,k4,k5,k6,k7,k8⟩:=Pg x true sv 0 ws;refine⟨Pj _ _ _ _ _,S0 _ _ _ (fun H Aw Tk Hd Wk Ad Q Un hn a1 a2 a3 a4 a5 a6 a7 a8=>?_) (U8 (fun _=>rfl) (by omega) hc (fun _=>⟨hw,hs'⟩)) (.inl (zay _)),.inl ?_⟩
   ·rw[k1,k2,k3,k4,k5,k6,k7,k8];obtain⟨l,w,s,c⟩:=x;cases l<;>cases w<;>cases s<;>simp[nC,b1,nH,lp,lQ,lV,jZ,jf,nQ,mF]at*<;>omega
   ·have:=hA (lM x true sv 0 ws) v;rw[abA]at this;simp[m6]at *;omega
 |add cl=>
  have had:1<=sm (fun j=>jf (th j)) n:=zaz (by rw[hT];exact zay 1:1<=jf (th i)) (dV (f:=fun j=>jf (th j)) hi);have hs:x.s=true:=by
   cases hs:x.s with
   |true=>rfl
   |false=>have:=(h.norm hs).2.1;omega
  obtain⟨g1,g2,g3,g4,g5,g6⟩:=h.AX hs;have hlk:=h.lk;have hl:x.l=false:=by
   cases hl:x.l with
   |false=>rfl
   |true=>rw[hl]at hlk;simp[b1]at hlk;omega
  simp only[gH]at hr;rw[if_neg (by rw[hl,hs];simp;omega)]at hr;simp only[List.mem_singleton]at hr;subst hr;have eH:∀j,j<n->j≠i->jf (th j)=0:=fun j hj hji=>by have e1:=lP jf th .out hi;have e2:=dV (f:=fun q=>jf (aR th i .out q)) hj;rw[bC th .out hji]at e2;rw[hT]at e1;have e3:jf (.add cl)=1:=rfl;have e4:jf .out=0:=rfl;omega
  refine⟨by simp,S0 _ _ _ (fun H Aw Tk Hd Wk Ad Q Un hn a1 a2 a3 a4 a5 a6 a7 a8=>?_) trivial (.inr eH),.inl ?_⟩
  ·obtain⟨l,w,s,c⟩:=x;cases l<;>cases w<;>cases s<;>cases cl<;>simp[nC,b1,nH,lp,lQ,lV,jZ,jf,nQ,mF,XD]at*<;>omega
  ·have:=hA .hold v;simp[m6]at *;omega
 |hold=>
  have hh:1<=sm (fun j=>nH (th j)) n:=zaz (by rw[hT];exact zay 1:1<=nH (th i)) (dV (f:=fun j=>nH (th j)) hi);have hlk:=h.lk;have hl:x.l=true:=by
   cases hl:x.l with
   |true=>rfl
   |false=>rw[hl]at hlk;simp[b1]at hlk;omega
  simp only[gH,hl,if_true,List.mem_singleton]at hr;subst hr;refine⟨by simp only[vq];split<;>(try split) <;>simp,S0 _ _ _ (fun H Aw Tk Hd Wk Ad Q Un hn a1 a2 a3 a4 a5 a6 a7 a8=>?_) ?_ (.inl (zay _)),.inl ?_⟩
  ·obtain⟨l,w,s,c⟩:=x;by_cases hc0:c=0<;>cases l<;>cases w<;>cases s<;>simp[nC,b1,nH,lp,lQ,lV,jZ,jf,nQ,mF,vq,hc0]at*<;>omega
  ·simp only[vq];split
   ·trivial
   ·split
    ·trivial
    ·rename_i h1 h2;simp at h1 h2;exact⟨rfl,h2.2,h1,h2.1,hc⟩
  ·have e:m6 (vq {x with l:=false})<=5:=by unfold vq;split<;>(try split) <;>simp[m6]
   have:=hA (vq {x with l:=false}) v;simp[m6]at *;omega
 |F2 old=>
  obtain⟨o1,o2,o3,o4,o5⟩:=hok;simp only[gH]at hr;split at hr
  ·rename_i hx;subst hx;simp only[List.mem_singleton]at hr;subst hr;refine⟨by simp,S0 _ _ _ (fun H Aw Tk Hd Wk Ad Q Un hn a1 a2 a3 a4 a5 a6 a7 a8=>?_) trivial (.inr (fun j hj _=>?_)),.inl ?_⟩
   ·obtain⟨l,w,s,c⟩:=x;cases l<;>cases w<;>cases s<;>simp[nC,b1,nH,lp,lQ,lV,jZ,jf,nQ,mF]at*<;>omega
   ·have:=(h.norm o3).2.1;have:=dV (f:=fun q=>jf (th q)) hj;omega
   ·have:=hA .tok v;simp[m6]at *;omega
  ·rename_i hx;simp only[List.mem_singleton]at hr;subst hr;refine⟨by simp,S0 _ _ _ (fun H Aw Tk Hd Wk Ad Q Un hn a1 a2 a3 a4 a5 a6 a7 a8=>?_) trivial (.inl (zay _)),.inr ⟨rfl,rfl,?_,?_⟩⟩
   ·simp only[nH,lp,lQ,lV,jZ,jf,nQ,mF]at *;have:Un-1+1=Un:=by omega
    simpa[this]using hn
   ·have:=hA .Jv v;simp[m6]at *;omega
   ·have:=hB .Jv;simp[DC,hx]at *;omega
 |Jv=>
  simp only[gH,List.mem_singleton]at hr;subst hr;split
  ·rename_i hx;refine⟨by simp,S0 _ _ _ (fun H Aw Tk Hd Wk Ad Q Un hn a1 a2 a3 a4 a5 a6 a7 a8=>?_) trivial (.inl (zay _)),.inl ?_⟩
   ·obtain⟨l,w,s,c⟩:=x;cases l<;>cases w<;>cases s<;>simp[nC,b1,nH,lp,lQ,lV,jZ,jf,nQ,mF]at*<;>omega
   ·have:=hA .out v;simp[m6]at *;omega
  ·rename_i hx;simp only[not_or,Bool.not_eq_true]at hx;refine⟨by simp,S0 _ _ _ (fun H Aw Tk Hd Wk Ad Q Un hn a1 a2 a3 a4 a5 a6 a7 a8=>?_) ⟨hx.2.1,hx.2.2.1,hx.2.2.2,hx.1,hc⟩ (.inl (zay _)),.inr ⟨rfl,rfl,?_,?_⟩⟩
   ·simp only[nH,lp,lQ,lV,jZ,jf,nQ,mF]at *;have:Un-1+1=Un:=by omega
    simpa[this]using hn
   ·have:=hA (.F2 x) v;simp[m6]at *;omega
   ·have:=hB (.F2 x);simp[DC]at *;omega
 |tok=>
  simp only[gH,List.mem_singleton]at hr;subst hr;refine⟨by simp,S0 _ _ _ (fun H Aw Tk Hd Wk Ad Q Un hn a1 a2 a3 a4 a5 a6 a7 a8=>?_) trivial (.inl (zay _)),.inl ?_⟩
  ·obtain⟨l,w,s,c⟩:=x;cases l<;>cases w<;>cases s<;>simp[nC,b1,nH,lp,lQ,lV,jZ,jf,nQ,mF]at*<;>omega
  ·have:=hA .out (v+1);simp[m6]at *;omega
 |hand=>
  simp only[gH,List.mem_singleton]at hr;subst hr;refine⟨by simp,S0 _ _ _ (fun H Aw Tk Hd Wk Ad Q Un hn a1 a2 a3 a4 a5 a6 a7 a8=>?_) trivial (.inl (zay _)),.inl ?_⟩
  ·obtain⟨l,w,s,c⟩:=x;cases l<;>cases w<;>cases s<;>simp[nC,b1,nH,lp,lQ,lV,jZ,jf,nQ,mF]at*<;>omega
  ·have:=hA .out (v+1);simp[m6]at *;omega
def GV{th:Nat->Lk}(h:∀i,i<n->th i=.out\/th i=.uy):jR n th ⟨false,false,false,0⟩ 0:=by have z:∀φ:Lk->Nat,φ .out=0->φ .uy=0->sm (fun i=>φ (th i)) n=0:=fun φ h1 h2=>s6 (fun i hi=>by rcases h i hi with e|e<;>rw[e]<;>assumption);refine Jy ?_ (fun i hi=>by rcases h i hi with e|e<;>rw[e]<;>trivial);unfold AY;rw[z nH rfl rfl,z lp rfl rfl,z lQ rfl rfl,z lV rfl rfl,z jZ rfl rfl,z jf rfl rfl,z nQ rfl rfl,z mF rfl rfl];simp[nC,b1]
def jR.begin{th:Nat->Lk}{x:Wd}{v:Nat}(h:jR n th x v)(hi:i<n)(ho:th i=.out):jR n (aR th i .uy) x v:=
 Ex h hi .uy (fun H Aw Tk Hd Wk Ad Q Un hn _ _ _ _ _ _ _ _=>by simpa[ho,nH,lp,lQ,lV,jZ,jf,nQ,mF]using hn) trivial (.inl (zay _))
def Ta{T:Lk}{x:Wd}{v:Nat}(h:gH T x v= []):T=.out\/T=.bad\/(v=0/\∃sv ws,T=.gV sv ws):=by
 cases T with
 |out=>exact .inl rfl
 |bad=>exact .inr (.inl rfl)
 |gV sv ws=>
  simp only[gH]at h;split at h
  ·exact .inr (.inr ⟨by assumption,sv,ws,rfl⟩)
  ·cases h
 |uy=>simp only[gH]at h;split at h<;>cases h
 |rd aw sv it ws=>simp[gH]at h
 |zL old aw sv it ws=>simp[gH]at h
 |cw old sv it ws=>simp only[gH]at h;split at h<;>cases h
 |rz old aw sv it ws=>simp only[gH]at h;split at h<;>(try split at h) <;>(try split at h) <;>cases h
 |t1 sv=>simp[gH]at h
 |t2 ws=>simp[gH]at h
 |wk sv ws=>simp only[gH]at h;split at h<;>(try split at h) <;>cases h
 |add cl=>simp only[gH]at h;split at h<;>cases h
 |hold=>simp only[gH]at h;split at h<;>cases h
 |F2 old=>simp only[gH]at h;split at h<;>cases h
 |Jv=>simp[gH]at h
 |tok=>simp[gH]at h
 |hand=>simp[gH]at h
def jR.live{th:Nat->Lk}{x:Wd}{v:Nat}(h:jR n th x v)(hi:i<n)(hne:th i≠.out):∃j,j<n/\gH (th j) x v≠ []:=by
 refine Classical.byContradiction fun hno=>?_;have hall:∀j,j<n->th j=.out\/(v=0/\∃sv ws,th j=.gV sv ws):=fun j hj=>by
  have hm:gH (th j) x v= []:=Classical.byContradiction fun e=>hno ⟨j,hj,e⟩;rcases Ta hm with e|e|e
  ·exact .inl e
  ·have:=h.ok j hj;rw[e]at this;exact this.elim
  ·exact .inr e
 have hv:v=0:=by
  rcases hall i hi with e|e
  ·exact absurd e hne
  ·exact e.1
 have z:∀φ:Lk->Nat,φ .out=0->(∀sv ws,φ (.gV sv ws)=0)->sm (fun j=>φ (th j)) n=0:=fun φ h1 h2=>s6 (fun j hj=>by
  rcases hall j hj with e|⟨_,sv,ws,e⟩
  ·rw[e];exact h1
  ·rw[e];exact h2 sv ws)
 have hQ:1<=sm (fun j=>nQ (th j)) n:=by
  refine zaz ?_ (dV (f:=fun j=>nQ (th j)) hi);rcases hall i hi with e|⟨_,sv,ws,e⟩
  ·exact absurd e hne
  ·rw[e];exact zay 1
 have h1:=h.num;unfold AY at h1;rw[z nH rfl (fun _ _=>rfl),z lp rfl (fun _ _=>rfl),z lQ rfl (fun _ _=>rfl),z lV rfl (fun _ _=>rfl),z jZ rfl (fun _ _=>rfl),z jf rfl (fun _ _=>rfl),z mF rfl (fun _ _=>rfl)]at h1;obtain⟨l,w,s,c⟩:=x;cases l<;>cases w<;>cases s<;>simp[nC,b1]at h1<;>omega
def jR.fin{th:Nat->Lk}{x:Wd}{v:Nat}(h:jR n th x v)(hall:∀j,j<n->th j=.out):x=⟨false,false,false,0⟩/\v=0:=by have z:∀φ:Lk->Nat,φ .out=0->sm (fun j=>φ (th j)) n=0:=fun φ h1=>s6 (fun j hj=>by rw[hall j hj];exact h1);have h1:=h.num;unfold AY at h1;rw[z nH rfl,z lp rfl,z lQ rfl,z lV rfl,z jZ rfl,z jf rfl,z nQ rfl,z mF rfl]at h1;obtain⟨l,w,s,c⟩:=x;cases l<;>cases w<;>cases s<;>simp[nC,b1]at h1<;>first|omega|(refine⟨?_,by omega⟩;congr;omega)
def Wd.val(x:Wd):Nat:=b1 x.l+2*b1 x.w+4*b1 x.s+8*x.c
def Wd.val_inj{x y:Wd}(h:x.val=y.val):x=y:=by obtain⟨l,w,s,c⟩:=x;obtain⟨l',w',s',c'⟩:=y;cases l<;>cases w<;>cases s<;>cases l'<;>cases w'<;>cases s'<;>simp[Wd.val,b1]at h⊢<;>omega
inductive Ws where
 |nb|wk|d2|d3|d4|qt
 deriving DecidableEq
inductive Ct where
 |sp (r:Nat)|a1 (r:Nat)|ar (r:Nat)|ae (r:Nat)|go (r:Nat)
 |w1|w2 (vs:Nat)|Rj|w3|w4|ke|aq|rt
 deriving DecidableEq
structure Gw where
 v:Nat
 wt:Bool
 sm:Nat
 deriving DecidableEq
def kN:Ws->Nat|.nb=>1|_=>0
def kW:Ws->Nat|.wk=>1|_=>0
def kD:Ws->Nat|.d2=>1|.d3=>1|.d4=>1|_=>0
def k4:Ws->Nat|.d4=>1|_=>0
def Ct.left:Ct->Nat
 |.sp r|.a1 r|.ar r|.ae r|.go r=>r
 |_=>0
def Ct.pend:Ct->Nat
 |.ar _|.ae _|.go _=>1
 |_=>0
def Ct.open:Ct->Bool
 |.sp _|.a1 _|.ar _|.ae _|.go _|.w1|.w2 _=>true
 |_=>false
def Ct.waits:Ct->Bool
 |.Rj|.w3=>true
 |_=>false
def QE(T:Ws)(g:Gw):Option (Ws×Gw):=
 match T with
 |.wk=>if g.v=0 then none else some (if g.v=1/\g.wt=true then .d2 else .qt,{g with v:=g.v-1})
 |.d2=>if g.v=0/\g.wt=true then some (.d3,g)else none
 |.d3=>some (.d4,{g with v:=0,wt:=false})
 |.d4=>some (.qt,{g with sm:=g.sm+1})
 |_=>none
def oM(c:Ct)(g:Gw):Option (Ct×Gw):=
 match c with
 |.sp r=>some (if r=0 then .w1 else .a1 r,g)
 |.a1 r=>some (if g.v=0 then .ar r else .ae r,{g with v:=g.v+1})
 |.ar r=>some (.ae r,g)
 |.ae r=>some (.go r,g)
 |.go _=>none
 |.w1=>some (if g.v=0 then .ke else .w2 g.v,g)
 |.w2 vs=>some (if g.v=vs then(.Rj,{g with wt:=true})else(.w1,g))
 |.Rj=>some (.w3,g)
 |.w3=>if g.sm=0 then none else some (.w4,{g with sm:=g.sm-1})
 |.w4=>if g.v=0/\g.wt=false then some (.ke,g)else none
 |.ke=>some (.aq,g)
 |.aq=>some (.rt,g)
 |.rt=>none
structure zf(N W D F:Nat)(c:Ct)(g:Gw):Prop where
 left:N=c.left
 a1:∀r,c=.a1 r\/c=.ar r\/c=.ae r\/c=.go r->1<=r
 opn:c.open=true->g.v=W+c.pend/\g.wt=false/\g.sm=0/\D=0
 w2:∀vs,c=.w2 vs->g.v<=vs/\1<=vs
 wait:c.waits=true->(g.v=W/\1<=g.v/\g.wt=true/\g.sm=0/\D=0)\/(g.v=0/\W=0/\g.sm=0/\D=1/\g.wt=decide (F=0))\/(g.v=0/\W=0/\g.wt=false/\g.sm=1/\D=0)
 fin:c.open=false->c.waits=false->g.v=0/\g.wt=false/\g.sm=0/\W=0/\D=0
def fM(n:Nat)(ws:Nat->Ws)(c:Ct)(g:Gw):Prop:=
 zf (sm (fun i=>kN (ws i)) n) (sm (fun i=>kW (ws i)) n) (sm (fun i=>kD (ws i)) n) (sm (fun i=>k4 (ws i)) n) c g
def Iv:Ws->Nat|.nb=>7|.wk=>6|.d2=>4|.d3=>3|.d4=>2|.qt=>1
def Bx(n v:Nat):Ct->Nat
 |.sp r=>8*n+20+8*r+5
 |.a1 r=>8*n+20+8*r+4
 |.ar r=>8*n+20+8*r+3
 |.ae r=>8*n+20+8*r+2
 |.go r=>8*n+20+8*r+1
 |.w1=>8*v+7
 |.w2 vs=>8*vs+6
 |.Rj=>6
 |.w3=>5
 |.w4=>4
 |.ke=>3
 |.aq=>2
 |.rt=>1
def M4(n:Nat)(ws:Nat->Ws)(c:Ct):Nat:=Bx n (sm (fun i=>kW (ws i)) n) c+sm (fun i=>Iv (ws i)) n
def QF(n:Nat)(ws:Nat->Ws):sm (fun i=>kW (ws i)) n<=n:=by have:=AW (f:=fun i=>kW (ws i)) (c:=1) (fun i=>by cases ws i<;>simp[kW]) n;omega
def QG(n:Nat){v v':Nat}(h:v'<=v)(c:Ct):Bx n v' c<=Bx n v c:=by cases c<;>simp only[Bx]<;>omega
def stepW{ws:Nat->Ws}{c:Ct}{g:Gw}(h:fM n ws c g)(hi:i<n){T':Ws}{g':Gw}(hm:QE (ws i) g=some (T',g')):fM n (aR ws i T') c g'/\M4 n (aR ws i T') c<M4 n ws c:=by
 have e:∀φ:Ws->Nat,sm (fun j=>φ (aR ws i T' j)) n=sm (fun j=>φ (ws j)) n-φ (ws i)+φ T':=fun φ=>by have h1:=lP φ ws T' hi;have h2:=dV (f:=fun j=>φ (ws j)) hi;omega
 have l:∀φ:Ws->Nat,φ (ws i)<=sm (fun j=>φ (ws j)) n:=fun φ=>dV (f:=fun j=>φ (ws j)) hi;have lN:=l kN;have lW:=l kW;have lD:=l kD;have l4:=l k4;have lr:=l Iv;have h4D:sm (fun j=>k4 (ws j)) n<=sm (fun j=>kD (ws j)) n:=by
  have:=x7 (fun j=>k4 (ws j)) (fun j=>kD (ws j)-k4 (ws j)) n;have e2:(fun j=>k4 (ws j)+(kD (ws j)-k4 (ws j)))=fun j=>kD (ws j):=by funext j;cases ws j<;>rfl
  rw[e2]at this;omega
 have key:kW T'<=kW (ws i)->Iv T'<Iv (ws i)->M4 n (aR ws i T') c<M4 n ws c:=fun a b=>by unfold M4;have:=QG n (v:=sm (fun j=>kW (ws j)) n) (v':=sm (fun j=>kW (aR ws i T' j)) n) (by rw[e kW];omega) c;rw[e Iv];omega
 unfold fM at h⊢;rw[e kN,e kW,e kD,e k4];clear e l;generalize sm (fun j=>kN (ws j)) n=N at *;generalize sm (fun j=>kW (ws j)) n=W at *;generalize sm (fun j=>kD (ws j)) n=D at *;generalize sm (fun j=>k4 (ws j)) n=F at *;generalize sm (fun j=>Iv (ws j)) n=R at *;obtain⟨h1,ha,h2,h3,h4,h5⟩:=h;obtain⟨v,wt,s⟩:=g;simp only at h2 h3 h4 h5;generalize hT:ws i=T at *;cases T with
 |nb=>simp[QE]at hm
 |qt=>simp[QE]at hm
 |wk=>
  simp only[QE]at hm;split at hm
  ·cases hm
  rename_i hv;simp only[Option.some.injEq,Prod.mk.injEq]at hm;obtain⟨Za,rfl⟩:=hm;refine⟨?_,key (by rw[<-Za];split<;>simp[kW]) (by rw[<-Za];split<;>simp[Iv])⟩;clear key;by_cases hb:v=1/\wt=true
  ·rw[if_pos hb]at Za;obtain⟨rfl,rfl⟩:=hb;subst Za;simp only[kN,kW,kD,k4]at *;refine⟨by omega,ha,fun ho=>?_,fun vs hvs=>?_,fun hw=>?_,fun ho hw=>?_⟩
   ·have:=h2 ho;simp at this
   ·have:=h3 vs hvs;simp;omega
   ·rcases h4 hw with q|q|q
    ·right;left;simp;omega
    ·omega
    ·simp at q
   ·have:=h5 ho hw;omega
  ·rw[if_neg hb]at Za;subst Za;simp only[kN,kW,kD,k4]at *;refine⟨by omega,ha,fun ho=>?_,fun vs hvs=>?_,fun hw=>?_,fun ho hw=>?_⟩
   ·have:=h2 ho;exact⟨by simp;omega,this.2.1,this.2.2.1,by omega⟩
   ·have:=h3 vs hvs;simp;omega
   ·rcases h4 hw with q|q|q
    ·obtain⟨q1,q2,q3,q4,q5⟩:=q;subst q3;left;exact⟨by simp;omega,by simp at hb⊢;omega,rfl,q4,by omega⟩
    ·omega
    ·omega
   ·have:=h5 ho hw;omega
 |d2=>
  simp only[QE]at hm;split at hm
  ·simp only[Option.some.injEq,Prod.mk.injEq]at hm;obtain⟨rfl,rfl⟩:=hm;refine⟨?_,key (by simp[kW]) (by simp[Iv])⟩;simp only[kN,kW,kD,k4]at *;have e1:N-0+0=N:=by omega
   have e2:W-0+0=W:=by omega
   have e3:D-1+1=D:=by omega
   have e4:F-0+0=F:=by omega
   rw[e1,e2,e3,e4];exact⟨h1,ha,h2,h3,h4,h5⟩
  ·cases hm
 |d3=>
  simp only[QE,Option.some.injEq,Prod.mk.injEq]at hm;obtain⟨rfl,rfl⟩:=hm;refine⟨?_,key (by simp[kW]) (by simp[Iv])⟩;clear key;simp only[kN,kW,kD,k4]at *;refine⟨by omega,ha,fun ho=>?_,fun vs hvs=>?_,fun hw=>?_,fun ho hw=>?_⟩
  ·have:=h2 ho;omega
  ·have:=h3 vs hvs;simp;omega
  ·rcases h4 hw with q|q|q
   ·omega
   ·right;left;simp;omega
   ·omega
  ·have:=h5 ho hw;omega
 |d4=>
  simp only[QE,Option.some.injEq,Prod.mk.injEq]at hm;obtain⟨rfl,rfl⟩:=hm;refine⟨?_,key (by simp[kW]) (by simp[Iv])⟩;clear key;simp only[kN,kW,kD,k4]at *;refine⟨by omega,ha,fun ho=>?_,fun vs hvs=>?_,fun hw=>?_,fun ho hw=>?_⟩
  ·have:=h2 ho;omega
  ·have:=h3 vs hvs;exact this
  ·rcases h4 hw with q|q|q
   ·omega
   ·obtain⟨q1,q2,q3,q4,q5⟩:=q;have:¬F=0:=by omega
    simp[this]at q5;right;right;simp[q5];omega
   ·omega
  ·have:=h5 ho hw;omega
def acv{ws:Nat->Ws}{c c':Ct}{g g':Gw}(h:fM n ws c g)(hm:oM c g=some (c',g')):fM n ws c' g'/\M4 n ws c'<M4 n ws c:=by
 have hW:=QF n ws;unfold fM at h⊢;unfold M4;generalize sm (fun j=>kN (ws j)) n=N at *;generalize sm (fun j=>kW (ws j)) n=W at *;generalize sm (fun j=>kD (ws j)) n=D at *;generalize sm (fun j=>k4 (ws j)) n=F at *;generalize sm (fun j=>Iv (ws j)) n=R at *;obtain⟨h1,ha,h2,h3,h4,h5⟩:=h;obtain⟨v,wt,s⟩:=g;simp only at h2 h3 h4 h5;cases c with
 |sp r=>
  obtain⟨q1,q2,q3,q4⟩:=h2 rfl;simp only[oM,Option.some.injEq,Prod.mk.injEq]at hm;obtain⟨rfl,rfl⟩:=hm;by_cases hr:r=0
  ·subst hr;simp only[if_true];exact⟨⟨h1,by simp,fun _=>⟨q1,q2,q3,q4⟩,by simp,by simp[Ct.waits],by simp[Ct.open]⟩,by simp only[Bx];omega⟩
  ·simp only[hr,if_false];exact⟨⟨h1,fun r' h=>by simp at h;omega,fun _=>⟨q1,q2,q3,q4⟩,by simp,by simp[Ct.waits],by simp[Ct.open]⟩,by simp only[Bx];omega⟩
 |a1 r=>
  obtain⟨q1,q2,q3,q4⟩:=h2 rfl;have hr:=ha r (.inl rfl);simp only[oM,Option.some.injEq,Prod.mk.injEq]at hm;obtain⟨rfl,rfl⟩:=hm;simp only[Ct.pend,Nat.add_zero]at q1;by_cases hv:v=0
  ·simp only[hv,if_true];exact⟨⟨h1,fun r' h=>by simp at h;omega,fun _=>⟨by simp[Ct.pend];omega,q2,q3,q4⟩,by simp,by simp[Ct.waits],by simp[Ct.open]⟩,by simp only[Bx];omega⟩
  ·simp only[hv,if_false];exact⟨⟨h1,fun r' h=>by simp at h;omega,fun _=>⟨by simp[Ct.pend];omega,q2,q3,q4⟩,by simp,by simp[Ct.waits],by simp[Ct.open]⟩,by simp only[Bx];omega⟩
 |ar r=>
  have hr:=ha r (.inr (.inl rfl));simp only[oM,Option.some.injEq,Prod.mk.injEq]at hm;obtain⟨rfl,rfl⟩:=hm;exact⟨⟨h1,fun r' h=>by simp at h;omega,fun _=>h2 rfl,by simp,by simp[Ct.waits],by simp[Ct.open]⟩,by simp only[Bx];omega⟩
 |ae r=>
  have hr:=ha r (.inr (.inr (.inl rfl)));simp only[oM,Option.some.injEq,Prod.mk.injEq]at hm;obtain⟨rfl,rfl⟩:=hm;exact⟨⟨h1,fun r' h=>by simp at h;omega,fun _=>h2 rfl,by simp,by simp[Ct.waits],by simp[Ct.open]⟩,by simp only[Bx];omega⟩
 |go r=>simp[oM]at hm
 |w1=>
  obtain⟨q1,q2,q3,q4⟩:=h2 rfl;simp only[oM,Option.some.injEq,Prod.mk.injEq]at hm;obtain⟨rfl,rfl⟩:=hm;simp only[Ct.pend,Nat.add_zero]at q1;by_cases hv:v=0
  ·simp only[hv,if_true];exact⟨⟨h1,by simp,by simp[Ct.open],by simp,by simp[Ct.waits],fun _ _=>⟨rfl,q2,q3,by omega,q4⟩⟩,by simp only[Bx];omega⟩
  ·simp only[hv,if_false];exact⟨⟨h1,by simp,fun _=>⟨q1,q2,q3,q4⟩,fun vs h=>by simp at h;subst h;simp;omega,by simp[Ct.waits],by simp[Ct.open]⟩,by simp only[Bx];omega⟩
 |w2 vs=>
  obtain⟨q1,q2,q3,q4⟩:=h2 rfl;obtain⟨q5,q6⟩:=h3 vs rfl;simp only[oM,Option.some.injEq]at hm;simp only[Ct.pend,Nat.add_zero]at q1;by_cases hv:v=vs
  ·simp only[hv,if_true,Prod.mk.injEq]at hm;obtain⟨rfl,rfl⟩:=hm;exact⟨⟨h1,by simp,by simp[Ct.open],by simp,fun _=>.inl ⟨by simp;omega,by simp;omega,rfl,q3,q4⟩,by simp[Ct.open,Ct.waits]⟩,by simp only[Bx];omega⟩
  ·simp only[hv,if_false,Prod.mk.injEq]at hm;obtain⟨rfl,rfl⟩:=hm;exact⟨⟨h1,by simp,fun _=>⟨q1,q2,q3,q4⟩,by simp,by simp[Ct.waits],by simp[Ct.open]⟩,by simp only[Bx];omega⟩
 |Rj=>
  simp only[oM,Option.some.injEq,Prod.mk.injEq]at hm;obtain⟨rfl,rfl⟩:=hm;exact⟨⟨h1,by simp,by simp[Ct.open],by simp,fun _=>h4 rfl,by simp[Ct.open,Ct.waits]⟩,by simp only[Bx];omega⟩
 |w3=>
  simp only[oM]at hm;split at hm
  ·cases hm
  rename_i hs;simp only[Option.some.injEq,Prod.mk.injEq]at hm;obtain⟨rfl,rfl⟩:=hm;rcases h4 rfl with q|q|q
  ·omega
  ·omega
  ·obtain⟨p1,p2,p3,p4,p5⟩:=q;exact⟨⟨h1,by simp,by simp[Ct.open],by simp,by simp[Ct.waits],fun _ _=>⟨p1,p3,by simp;omega,p2,p5⟩⟩,by simp only[Bx];omega⟩
 |w4=>
  simp only[oM]at hm;split at hm
  ·simp only[Option.some.injEq,Prod.mk.injEq]at hm;obtain⟨rfl,rfl⟩:=hm;exact⟨⟨h1,by simp,by simp[Ct.open],by simp,by simp[Ct.waits],fun _ _=>h5 rfl rfl⟩,by simp only[Bx];omega⟩
  ·cases hm
 |ke=>
  simp only[oM,Option.some.injEq,Prod.mk.injEq]at hm;obtain⟨rfl,rfl⟩:=hm;exact⟨⟨h1,by simp,by simp[Ct.open],by simp,by simp[Ct.waits],fun _ _=>h5 rfl rfl⟩,by simp only[Bx];omega⟩
 |aq=>
  simp only[oM,Option.some.injEq,Prod.mk.injEq]at hm;obtain⟨rfl,rfl⟩:=hm;exact⟨⟨h1,by simp,by simp[Ct.open],by simp,by simp[Ct.waits],fun _ _=>h5 rfl rfl⟩,by simp only[Bx];omega⟩
 |rt=>simp[oM]at hm
def Yd{ws:Nat->Ws}{g:Gw}(h:fM n ws (.go (r+1)) g)(hi:i<n)(hb:ws i=.nb):fM n (aR ws i .wk) (.sp r) g/\M4 n (aR ws i .wk) (.sp r)<M4 n ws (.go (r+1)):=by
 have e:∀φ:Ws->Nat,sm (fun j=>φ (aR ws i .wk j)) n=sm (fun j=>φ (ws j)) n-φ .nb+φ .wk:=fun φ=>by have h1:=lP φ ws .wk hi;have h2:=dV (f:=fun j=>φ (ws j)) hi;rw[hb]at h1 h2;omega
 have l:∀φ:Ws->Nat,φ .nb<=sm (fun j=>φ (ws j)) n:=fun φ=>by have:=dV (f:=fun j=>φ (ws j)) hi;rw[hb]at this;exact this
 have lN:=l kN;have lr:=l Iv;unfold fM at h⊢;unfold M4;rw[e kN,e kW,e kD,e k4,e Iv];clear e l;generalize sm (fun j=>kN (ws j)) n=N at *;generalize sm (fun j=>kW (ws j)) n=W at *;generalize sm (fun j=>kD (ws j)) n=D at *;generalize sm (fun j=>k4 (ws j)) n=F at *;generalize sm (fun j=>Iv (ws j)) n=R at *;obtain⟨h1,ha,h2,h3,h4,h5⟩:=h;obtain⟨q1,q2,q3,q4⟩:=h2 rfl;simp only[Ct.left,Ct.pend]at h1 q1;simp only[kN,kW,kD,k4,Iv]at *;exact⟨⟨by simp only[Ct.left];omega,by simp,fun _=>⟨by simp only[Ct.pend];omega,q2,q3,by omega⟩,by simp,by simp[Ct.waits],by simp[Ct.open]⟩,by simp only[Bx];omega⟩
def Iw(n:Nat){ws:Nat->Ws}(h:∀i,i<n->ws i=.nb):fM n ws (.sp n) ⟨0,false,0⟩:=by
 have z:∀φ:Ws->Nat,φ .nb=0->sm (fun i=>φ (ws i)) n=0:=fun φ h1=>s6 fun i hi=>by rw[h i hi];exact h1
 have zN:∀m,m<=n->sm (fun i=>kN (ws i)) m=m:=by
  intro m;induction m with
  |zero=>intro _;rfl
  |succ m ih=>intro hm;simp only[sm];rw[ih (by omega),h m (by omega)];rfl
 unfold fM;rw[zN n (zay _),z kW rfl,z kD rfl,z k4 rfl];exact⟨rfl,by simp,fun _=>⟨rfl,rfl,rfl,rfl⟩,by simp,by simp[Ct.waits],by simp[Ct.open]⟩
def fM.live{ws:Nat->Ws}{g:Gw}(h:fM n ws .w3 g)(hs:g.sm=0):∃i,i<n/\(ws i=.wk\/ws i=.d2\/ws i=.d3\/ws i=.d4):=by
 have:0<sm (fun i=>kW (ws i)) n\/0<sm (fun i=>kD (ws i)) n:=by
  rcases zf.wait h rfl with q|q|q
  ·exact .inl (by omega)
  ·exact .inr (by omega)
  ·omega
 rcases this with h|h
 ·obtain⟨i,hi,hp⟩:=GU h;refine⟨i,hi,.inl ?_⟩;revert hp;cases ws i<;>simp[kW]
 ·obtain⟨i,hi,hp⟩:=GU h;refine⟨i,hi,.inr ?_⟩;revert hp;cases ws i<;>simp[kD]
section
open Go Go.Conc
inductive Tp where
 |lk (T:Lk) (m:Nat)
 |mn (c:Ct)
structure aI where
 own:Nat->Prop
 pos:Tp
 fu:Nat
abbrev ep:=(O:aI)->Exit->Act->World->Prop
abbrev uA:=(O:aI)->World->World->Prop
abbrev uB:=(O:aI)->World->World->Array Event->Prop
abbrev xC:=(O:aI)->Goroutine->World->Prop
def aI.grow(O:aI)(w w':af):aI:=⟨fun i=>O.own i\/(w.heap.size<=i/\i<w'.heap.size),O.pos,O.fu⟩
def aI.jump(O:aI)(own:Nat->Prop)(p:Tp):aI:=⟨own,p,O.fu-1⟩
def aI.dz(O:aI){w w':af}(h:w'.heap.size=w.heap.size):O.grow w w'=O:=by obtain⟨own,p,k⟩:=O;simp only[aI.grow,h,aI.mk.injEq,and_true];funext i;simp only[eq_iff_iff];exact⟨fun x=>x.elim id (fun y=>by omega),.inl⟩
structure Jm where
 to:aI->au->af->((Nat->Prop)->Tp->au->af->Prop)->Prop
 mono:∀{O:aI} {g:au} {w:af} {K K':(Nat->Prop)->Tp->au->af->Prop},(∀own p g w,K own p g w->K' own p g w)->to O g w K->to O g w K'
def QH(P:aB)(main:Bool)(R:uA)(D:uB)(B:xC):Nat->xC
 | 0,O,g,w=>B O g w
 |n+1,O,g,w=>B O g w\/(g.status=.running/\∀w₁,R O w w₁->(stepG P main g w₁).goes fun g' w' es=>D O w₁ w' es/\QH P main R D B n (O.grow w₁ w') g' w')
def Zb(P:aB)(main:Bool)(J:Jm)(R:uA)(D:uB)(Stop:xC):Nat->Nat->xC
 | 0,_,_,_,_=>True
 |k+1,n,O,g,w=>QH P main R D (fun O g w=>(∀w₁,R O w w₁->Stop O g w₁)\/(g.status=.running/\∀w₁,R O w w₁->J.to O g w₁ fun own p g' w'=>∃n',Zb P main J R D Stop k n' ⟨own,p,k⟩ g' w')) n O g w
def cD(P:aB)(main:Bool)(J:Jm)(R:uA)(D:uB)(Stop:xC)(n:Nat)(O:aI)(g:au)(w:af):Prop:=Zb P main J R D Stop O.fu n O g w
def Ye(P:aB)(main:Bool)(J:Jm)(R:uA)(D:uB)(Stop:xC)(O:aI)(g:au)(w:af):Prop:=
 (∀w₁,R O w w₁->Stop O g w₁)\/(g.status=.running/\∀w₁,R O w w₁->J.to O g w₁ fun own p g' w'=>∃n',cD P main J R D Stop n' (O.jump own p) g' w')
structure bY(R:uA)(D:uB):Prop where
 refl:∀O w,R O w w
 trans:∀O a b c,R O a b->R O b c->R O a c
 idle:∀O w,D O w w #[]
def GStep.goes_mono{s:GStep}{K K':au->af->Array aC->Prop}(h:s.goes K)(hk:∀g w es,K g w es->K' g w es):s.goes K':=by
 cases s<;>first|exact hk _ _ _ h|exact h
section
variable {P:aB}{main:Bool}{J:Jm}{R:uA}{D:uB}{Stop:xC}{n m:Nat}{O:aI}{g:au}{w:af}
def QH.imp{B B':xC}(hb:∀(O':aI) g w,O'.fu=O.fu->B O' g w->B' O' g w)(h:QH P main R D B n O g w):QH P main R D B' n O g w:=by
 induction n generalizing O g w with
 |zero=>exact hb O g w rfl h
 |succ n ih=>
  rcases h with h|⟨hs,h⟩
  ·exact .inl (hb O g w rfl h)
  ·exact .inr ⟨hs,fun w₁ h₁=>GStep.goes_mono (h w₁ h₁) fun _ _ _ x=>⟨x.1,ih (fun O' g w e b=>hb O' g w e b) x.2⟩⟩
def jc:cD P main J R D Stop n O g w↔(O.fu=0\/QH P main R D (Ye P main J R D Stop) n O g w):=by
 unfold cD;cases hk:O.fu with
 |zero=>simp[Zb]
 |succ k=>
  simp only[Zb,Nat.succ_ne_zero,false_or];constructor
  ·refine QH.imp fun O' g w e h=>?_;have e':O'.fu=k+1:=e.trans hk;rcases h with h|⟨hs,h⟩
   ·exact .inl h
   ·refine .inr ⟨hs,fun w₁ h₁=>J.mono (fun own p g w x=>?_) (h w₁ h₁)⟩;obtain⟨n',x⟩:=x;refine⟨n',?_⟩;simpa[cD,aI.jump,e']using x
  ·refine QH.imp fun O' g w e h=>?_;have e':O'.fu=k+1:=e.trans hk;rcases h with h|⟨hs,h⟩
   ·exact .inl h
   ·refine .inr ⟨hs,fun w₁ h₁=>J.mono (fun own p g w x=>?_) (h w₁ h₁)⟩;obtain⟨n',x⟩:=x;refine⟨n',?_⟩;simpa[cD,aI.jump,e']using x
def cD.stop(h:∀w₁,R O w w₁->Stop O g w₁):cD P main J R D Stop n O g w:=by
 refine jc.2 (.inr ?_);cases n with
 |zero=>exact .inl h
 |succ n=>exact .inl (.inl h)
def cD.jump(hs:g.status=.running)(h:∀w₁,R O w w₁->J.to O g w₁ fun own p g' w'=>∃n',cD P main J R D Stop n' (O.jump own p) g' w'):cD P main J R D Stop n O g w:=by
 refine jc.2 (.inr ?_);cases n with
 |zero=>exact .inr ⟨hs,h⟩
 |succ n=>exact .inl (.inr ⟨hs,h⟩)
def cD.step(hs:g.status=.running)(h:∀w₁,R O w w₁->(stepG P main g w₁).goes fun g' w' es=>D O w₁ w' es/\cD P main J R D Stop n (O.grow w₁ w') g' w'):cD P main J R D Stop (n+1) O g w:=by
 refine jc.2 ?_;cases hk:O.fu with
 |zero=>exact .inl rfl
 |succ k=>exact .inr (.inr ⟨hs,fun w₁ h₁=>GStep.goes_mono (h w₁ h₁) fun g' w' es x=>⟨x.1,(jc.1 x.2).resolve_left (by simp[aI.grow,hk])⟩⟩)
def cD.spent(h:O.fu=0):cD P main J R D Stop n O g w:=jc.2 (.inl h)
def cD.ways(h:cD P main J R D Stop n O g w)(hk:O.fu≠0):Ye P main J R D Stop O g w\/(∃m,n=m+1/\g.status=.running/\∀w₁,R O w w₁->(stepG P main g w₁).goes fun g' w' es=>D O w₁ w' es/\cD P main J R D Stop m (O.grow w₁ w') g' w'):=by
 have h:=(jc.1 h).resolve_left hk;cases n with
 |zero=>exact .inl h
 |succ n=>
  rcases h with h|⟨hs,h⟩
  ·exact .inl h
  ·exact .inr ⟨n,rfl,hs,fun w₁ h₁=>GStep.goes_mono (h w₁ h₁) fun _ _ _ x=>⟨x.1,jc.2 (.inr x.2)⟩⟩
def Ye.rely(T:bY R D)(h:Ye P main J R D Stop O g w)(hr:R O w w₁):Ye P main J R D Stop O g w₁:=
 h.imp (fun h w₂ h₂=>h w₂ (T.trans _ _ _ _ hr h₂)) (fun h=>⟨h.1,fun w₂ h₂=>h.2 w₂ (T.trans _ _ _ _ hr h₂)⟩)
def cD.rely(T:bY R D){w₁:af}(h:cD P main J R D Stop n O g w)(hr:R O w w₁):cD P main J R D Stop n O g w₁:=by
 by_cases hk:O.fu=0
 ·exact cD.spent hk
 refine jc.2 (.inr ?_);have h:=(jc.1 h).resolve_left hk;cases n with
 |zero=>exact Ye.rely T h hr
 |succ n=>
  rcases h with h|⟨hs,h⟩
  ·exact .inl (Ye.rely T h hr)
  ·exact .inr ⟨hs,fun w₂ h₂=>h w₂ (T.trans _ _ _ _ hr h₂)⟩
def cD.more(h:cD P main J R D Stop n O g w):cD P main J R D Stop (n+1) O g w:=by
 have key:∀{n:Nat} {O:aI} {g:au} {w:af} {B:xC},QH P main R D B n O g w->QH P main R D B (n+1) O g w:=by
  intro n;induction n with
  |zero=>exact fun h=>.inl h
  |succ n ih=>
   intro O g w B h;rcases h with h|⟨hs,h⟩
   ·exact .inl h
   ·exact .inr ⟨hs,fun w₁ h₁=>GStep.goes_mono (h w₁ h₁) fun _ _ _ x=>⟨x.1,ih x.2⟩⟩
 exact jc.2 ((jc.1 h).imp id key)
def cD.mono(h:cD P main J R D Stop n O g w)(hn:n<=n'):cD P main J R D Stop n' O g w:=by
 induction hn with
 |refl=>exact h
 |step _ ih=>exact ih.more
def cD.quiet(T:bY R D){g':au}(hs:g.status=.running)(h:∀w₁,stepG P main g w₁=.go g' w₁)(hg:cD P main J R D Stop n O g' w):cD P main J R D Stop (n+1) O g w:=
 cD.step hs fun w₁ h₁=>by rw[h];exact⟨T.idle _ _,by rw[O.dz rfl];exact hg.rely T h₁⟩
end
def pN(P:aB)(main:Bool)(J:Jm)(R:uA)(D:uB)(Stop:xC)(m:Nat)(b:ak)(k:List Item)(cs:List ak):ep
 |O,.normal,a,w=>cD P main J R D Stop m O (G (b.at a k) cs) w
 |O,.exit id,a,w=>∃k',exitTo id k=some k'/\cD P main J R D Stop m O (G (b.at a k') cs) w
 |O,.ret,a,w=>∀todo,cD P main J R D Stop m O (G {b.at a todo with mode:=.returning} cs) w
 |_,_,_,_=>False
section
variable {P:aB}{main:Bool}{J:Jm}{R:uA}{D:uB}{Stop:xC}{n m m':Nat}{O:aI}{w:af}{b:ak}{k:List Item}{cs:List ak}{e:Exit}{a:Act}
def pN.mono(h:pN P main J R D Stop m b k cs O e a w)(hm:m<=m'):pN P main J R D Stop m' b k cs O e a w:=by
 cases e with
 |normal=>exact cD.mono h hm
 |exit id=>obtain⟨k',hk,hg⟩:=h;exact⟨k',hk,hg.mono hm⟩
 |ret=>exact fun todo=>(h todo).mono hm
 |goto l=>exact h
 |panic ch=>exact h
 |outgrown=>exact h
def pN.push{x:Item}(hx:x.plain=true)(he:e≠.normal)(h:pN P main J R D Stop m b k cs O e a w):pN P main J R D Stop m b (x :: k) cs O e a w:=by
 cases e with
 |normal=>exact absurd rfl he
 |exit id=>obtain⟨k',hk,hg⟩:=h;exact⟨k',by cases x<;>simp_all [exitTo,Item.plain],hg⟩
 |ret=>exact h
 |goto l=>exact h
 |panic ch=>exact h
 |outgrown=>exact h
end
def cR(P:aB)(main:Bool)(J:Jm)(R:uA)(D:uB)(fn:ay)(c:Code)(n:Nat)(Q:ep)(O:aI)(a:Act)(w:af):Prop:=
 ∀(b:ak) (k:List Item) (cs:List ak) (Stop:xC) (m:Nat->Nat),b.fn=fn->b.kind≠.early->
  (∀O' e a' w',Q O' e a' w'->pN P main J R D Stop (m O'.fu) b k cs O' e a' w')->cD P main J R D Stop (m O.fu+n) O (G (b.at a (.code c :: k)) cs) w
def bN(P:aB)(main:Bool)(J:Jm)(R:uA)(D:uB)(fn:ay)(ops:Array Oper)(todo:List Nat)(n:Nat)(Q:ep)(O:aI)(a:Act)(w:af):Prop:=
 ∀(b:ak) (k:List Item) (cs:List ak) (Stop:xC) (m:Nat->Nat),b.fn=fn->b.kind≠.early->
  (∀O' e a' w',Q O' e a' w'->pN P main J R D Stop (m O'.fu) b k cs O' e a' w')->cD P main J R D Stop (m O.fu+n) O (G (b.at a (.inRegion ops todo :: k)) cs) w
abbrev bh(next:aI->Act->World->Prop)(Q:ep):ep:=fun O=>Exit.then (next O) (Q O)
abbrev iU(id:Nat)(Q:ep):ep:=fun O=>Exit.inBlock id (Q O)
section rules
variable {P:aB}{main:Bool}{J:Jm}{R:uA}{D:uB}{fn:ay}{Q Q':ep}{O:aI}{a:Act}{w:af}{n n':Nat}
def oO{c:Code}(h:cR P main J R D fn c n Q O a w)(hn:n<=n'):cR P main J R D fn c n' Q O a w:=
 fun b k cs Stop m hb hk hc=>(h b k cs Stop m hb hk hc).mono (by omega)
def mU{todo:List Nat}(h:bN P main J R D fn ops todo n Q O a w)(hn:n<=n'):bN P main J R D fn ops todo n' Q O a w:=
 fun b k cs Stop m hb hk hc=>(h b k cs Stop m hb hk hc).mono (by omega)
def oR{c:Code}(h:cR P main J R D fn c n Q O a w)(hq:∀O e a w,Q O e a w->Q' O e a w):cR P main J R D fn c n Q' O a w:=
 fun b k cs Stop m hb hk hc=>h b k cs Stop m hb hk fun O' e a' w' q=>hc O' e a' w' (hq O' e a' w' q)
def kM(T:bY R D){c:Code}(h:cR P main J R D fn c n Q O a w)(hr:R O w w₁):cR P main J R D fn c n Q O a w₁:=
 fun b k cs Stop m hb hk hc=>(h b k cs Stop m hb hk hc).rely T hr
def iT(T:bY R D)(h:Q O .normal a w):cR P main J R D fn .skip 1 Q O a w:=fun _ _ _ _ _ _ _ hc=>cD.quiet T rfl (fun _=>stepG_skip) (hc _ _ _ _ h)
def Mb(T:bY R D){l:Nat}(h:Q O .normal a w):cR P main J R D fn (.label l) 1 Q O a w:=fun _ _ _ _ _ _ _ hc=>cD.quiet T rfl (fun _=>stepG_label) (hc _ _ _ _ h)
def TZ(T:bY R D)(h:Q O .ret a w):cR P main J R D fn .ret 1 Q O a w:=fun _ _ _ _ _ _ _ hc=>cD.quiet T rfl (fun _=>stepG_ret') (hc _ _ _ _ h _)
def sV(T:bY R D){id:Nat}(h:Q O (.exit id) a w):cR P main J R D fn (.exit id) 1 Q O a w:=fun b k cs Stop m _ _ hc=>by obtain⟨k',hk',hg⟩:=hc _ _ _ _ h;exact cD.quiet T rfl (fun _=>stepG_exit hk') hg
def aK(T:bY R D){x:Code}(M:aI->Act->af->Prop)(hx:cR P main J R D fn x n₁ (bh M Q) O a w)(hy:∀O' a' w',M O' a' w'->cR P main J R D fn y n₂ Q O' a' w'):cR P main J R D fn (.seq x y) (n₁+n₂+1) Q O a w:=by
 intro b k cs Stop m hb hk hc;have e:m O.fu+(n₁+n₂+1)=(m O.fu+n₂+n₁)+1:=by omega
 rw[e];refine cD.quiet T rfl (fun _=>stepG_seq) (hx b (.code y :: k) cs Stop (fun j=>m j+n₂) hb hk fun O' e a' w' q=>?_);cases e with
 |normal=>exact hy O' a' w' q b k cs Stop m hb hk hc
 |exit id=>exact((hc _ _ _ _ q).mono (za1 _ _)).push rfl (by simp)
 |ret=>exact((hc _ _ _ _ q).mono (za1 _ _)).push (x:=.code y) rfl (by simp)
 |goto l=>exact hc _ _ _ _ q
 |panic ch=>exact hc _ _ _ _ q
 |outgrown=>exact hc _ _ _ _ q
def sU(T:bY R D){c:aD}{x:Code}(hc:a.eval c=.bool t)(h:cR P main J R D fn (if t then x else y) n Q O a w):cR P main J R D fn (.cond c x y) (n+1) Q O a w:=
 fun b k cs Stop m hb hk hq=>cD.quiet T rfl (fun _=>stepG_cond hc) (h b k cs Stop m hb hk hq)
def fE(T:bY R D){id:Nat}{c:Code}(h:cR P main J R D fn c n (iU id Q) O a w):cR P main J R D fn (.block id c) (n+2) Q O a w:=by
 intro b k cs Stop m hb hk hc;have e:m O.fu+(n+2)=(m O.fu+1+n)+1:=by omega
 rw[e];refine cD.quiet T rfl (fun _=>stepG_block) (h b (.inBlock id :: k) cs Stop (fun j=>m j+1) hb hk fun O' e a' w' q=>?_);cases e with
 |normal=>exact cD.quiet T rfl (fun _=>stepG_inBlock) (hc _ _ _ _ q)
 |exit id'=>
  by_cases hid:id'=id
  ·simp only[iU,Exit.inBlock,hid,if_true]at q;exact⟨k,by simp[exitTo,hid],cD.more (hc _ _ _ _ q)⟩
  ·simp only[iU,Exit.inBlock,hid,if_false]at q;obtain⟨k',hk',hg⟩:=hc _ _ _ _ q;have:(id == id')=false:=by simp;exact fun h=>hid h.symm
   exact⟨k',by simp[exitTo,this,hk'],hg.more⟩
 |ret=>exact fun todo=>(hc _ _ _ _ q todo).more
 |goto l=>exact hc _ _ _ _ q
 |panic ch=>exact hc _ _ _ _ q
 |outgrown=>exact hc _ _ _ _ q
def mq(T:bY R D){c:Code}(I:Nat->aI->Act->af->Prop)(r:Nat){N:Nat}(h₀:I N O a w)
 (round:∀j O a w,I j O a w->cR P main J R D fn c r (bh (fun O' a' w'=>∃j',j'<j/\I j' O' a' w') Q) O a w):cR P main J R D fn (.loop c) ((N+1)*(r+1)+1) Q O a w:=by
 intro b k cs Stop m hb hk hc;have key:∀N j O a w,j<=N->I j O a w->cD P main J R D Stop (m O.fu+(N+1)*(r+1)) O (G (b.at a (.code c :: .inLoop c :: k)) cs) w:=by
  intro N;induction N with
  |zero=>
   intro j O a w hj hI;refine(round j O a w hI b (.inLoop c :: k) cs Stop (fun j=>m j+1) hb hk fun O' e a' w' q=>?_).mono (by omega);cases e with
   |normal=>obtain⟨j',hj',_⟩:=q;omega
   |exit id=>exact((hc _ _ _ _ q).mono (za1 _ _)).push rfl (by simp)
   |ret=>exact((hc _ _ _ _ q).mono (za1 _ _)).push (x:=.inLoop c) rfl (by simp)
   |goto l=>exact hc _ _ _ _ q
   |panic ch=>exact hc _ _ _ _ q
   |outgrown=>exact hc _ _ _ _ q
  |succ N ih=>
   intro j O a w hj hI;refine(round j O a w hI b (.inLoop c :: k) cs Stop (fun j=>m j+(N+1)*(r+1)+1) hb hk fun O' e a' w' q=>?_).mono (by
    have:(N+1+1)*(r+1)=(N+1)*(r+1)+(r+1):=by rw[Nat.succ_mul]
    omega)
   cases e with
   |normal=>obtain⟨j',hj',Az⟩:=q;exact cD.quiet T rfl (fun _=>stepG_inLoop) (ih j' O' a' w' (by omega) Az)
   |exit id=>exact((hc _ _ _ _ q).mono (by omega)).push rfl (by simp)
   |ret=>exact((hc _ _ _ _ q).mono (by omega)).push (x:=.inLoop c) rfl (by simp)
   |goto l=>exact hc _ _ _ _ q
   |panic ch=>exact hc _ _ _ _ q
   |outgrown=>exact hc _ _ _ _ q
 have e:m O.fu+((N+1)*(r+1)+1)=(m O.fu+(N+1)*(r+1))+1:=by omega
 rw[e];exact cD.quiet T rfl (fun _=>stepG_loop) (key N N O a w (zay _) h₀)
def uD(T:bY R D){c:Code}(I:aI->Act->af->Prop)(r:Nat)(h₀:I O a w)
 (round:∀O a w,I O a w->0<O.fu->cR P main J R D fn c r (bh (fun O' a' w'=>O'.fu<O.fu/\I O' a' w') Q) O a w):cR P main J R D fn (.loop c) (r+1) Q O a w:=by
 intro b k cs Stop m hb hk hc;have key:∀(K:Nat) (O:aI) a w,O.fu=K->I O a w->cD P main J R D Stop (m O.fu+r) O (G (b.at a (.code c :: .inLoop c :: k)) cs) w:=by
  intro K;induction K using Nat.strongRecOn with
  |ind K ih=>
   intro O a w hK hI;by_cases h0:O.fu=0
   ·exact cD.spent h0
   refine(round O a w hI (by omega) b (.inLoop c :: k) cs Stop (fun j=>if j<O.fu then m j+r+1 else m j) hb hk fun O' e a' w' q=>?_).mono (by simp);have hle:m O'.fu<=(if O'.fu<O.fu then m O'.fu+r+1 else m O'.fu):=by split<;>omega
   cases e with
   |normal=>
    obtain⟨hlt,Az⟩:=q;have:=cD.quiet (P:=P) (main:=main) (J:=J) (D:=D) (Stop:=Stop) T rfl (fun _=>stepG_inLoop) (ih O'.fu (by omega) O' a' w' rfl Az);simp only[hlt,if_true];exact this
   |exit id=>exact((hc _ _ _ _ q).mono hle).push rfl (by simp)
   |ret=>exact((hc _ _ _ _ q).mono hle).push (x:=.inLoop c) rfl (by simp)
   |goto l=>exact hc _ _ _ _ q
   |panic ch=>exact hc _ _ _ _ q
   |outgrown=>exact hc _ _ _ _ q
 exact cD.quiet T rfl (fun _=>stepG_loop) (key O.fu O a w rfl h₀)
def Ix(T:bY R D){id:Nat}(h:bN P main J R D fn ops (List.range ops.size) n Q O a w):cR P main J R D fn (.region id ops false) (n+1) Q O a w:=
 fun b k cs Stop m hb hk hc=>cD.quiet T rfl (fun _=>stepG_region) (h b k cs Stop m hb hk hc)
def zg(T:bY R D)(h:Q O .normal a w):bN P main J R D fn ops [] 1 Q O a w:=fun _ _ _ _ _ _ _ hc=>cD.quiet T rfl (fun _=>stepG_region_end) (hc _ _ _ _ h)
def jz{rest:List Nat}(ho:ops[i]?=some o)(hw:Region.wanted o (yielded ops a.tmps)=true)
 (h:∀w₁,R O w w₁->uponK o a (fun a' w'=>D O w₁ w' (listed P fn a o w₁)/\bN P main J R D fn ops rest n Q (O.grow w₁ w') a' w') ((execOp a.eval o).run P w₁)):bN P main J R D fn ops (i :: rest) (n+1) Q O a w:=by
 intro b k cs Stop m hb hk hc;refine cD.step rfl fun w₁ h₁=>goes_oper ho hw hk ?_;have:=h w₁ h₁;revert this;cases (execOp a.eval o).run P w₁ with
 |ok x w'=>cases x<;>first|exact fun⟨d,g⟩=>⟨hb▸d,g b k cs Stop m hb hk hc⟩|exact id
 |halt _ _=>exact id
def qN(T:bY R D){rest:List Nat}(ho:ops[i]?=some o)(hw:Region.wanted o (yielded ops a.tmps)=false)
 (h:bN P main J R D fn ops rest n Q O (a.put o.dst undef) w):bN P main J R D fn ops (i :: rest) (n+1) Q O a w:=
 fun b k cs Stop m hb hk hc=>cD.quiet T rfl (fun _=>stepG_unwanted ho hw) (h b k cs Stop m hb hk hc)
def wz(hd:∀O w,D O w {w with drawn:=w.drawn+1} #[]){id:Nat}
 (h:∀w₁,R O w w₁->∀t,bN P main J R D fn ops (Region.schedule (P.follows .mixedOrders) ops t) n Q O a {w₁ with drawn:=w₁.drawn+1}):cR P main J R D fn (.region id ops true) (n+1) Q O a w:=
 fun b k cs Stop m hb hk hc=>cD.step rfl fun w₁ h₁=>by rw[stepG_region_draw];exact⟨hd _ _,by rw[O.dz (w:=w₁) (w':={w₁ with drawn:=w₁.drawn+1}) rfl];exact h w₁ h₁ _ b k cs Stop m hb hk hc⟩
def xE(T:bY R D){rest:List Nat}{ats:Array az}(ho:ops[i]?=some o)(hw:Region.wanted o (yielded ops a.tmps)=true)
 (hop:o.op=.defer {callee:=.value (.func f),args:=as,argTypes:=ats}) (h:bN P main J R D fn ops rest n Q O (Act.put ⟨a.tmps,dcall f (as.map a.eval):: a.defers⟩ o.dst undef) w):bN P main J R D fn ops (i :: rest) (n+1) Q O a w:=
 fun b k cs Stop m hb hk hc=>cD.quiet T rfl (fun _=>stepG_defer ho hw hk hop) (h b k cs Stop m hb hk hc)
def mV(P:aB)(R:uA)(D:uB)(f:ay)(fn:Func)(O:aI)(w:af)(tmps:Array aj)(v:aj):Prop:=
 ∀w₁,R O w w₁->(results fn tmps).run P w₁=.ok v w₁/\D O w₁ w₁ (seen P f ((results fn tmps).events P w₁ #[]))
def bR(T:bY R D){fn:Func}{tmps:Array aj}{v:aj}(h:ResultsC P fn tmps v):mV P R D f fn O w tmps v:=
 fun w₁ _=>⟨(h w₁).1,by rw[(h w₁).2,seen_none];exact T.idle _ _⟩
def zi{fn:Func}{todo:List Item}{c:ak}{v:aj}(hn:b.kind=.normal)(hd:a.defers= [])(hf:P.funcs[b.fn]?=some fn)
 (hr:(results fn a.tmps).run P w=.ok v w):
 stepG P main (G {b.at a todo with mode:=.returning} (c :: cs)) w=.go (G (c.finish v) cs) w (seen P b.fn ((results fn a.tmps).events P w #[])):=by simp[G,stepG,unwind,doReturn,Frame.at,hn,hd,hf,hr,GStep.after]
def nX{todo:List Item}{d:Deferred}{fn:Func}{c:Code}(hd:a.defers=d :: ds)(ht:d.target=.fn (.func f) cap)(hf:P.funcs[f]?=some fn)(hname:(fn.name == "runtime.NumGoroutine")=false)(hb:fn.body=some c):
 stepG P main (G {b.at a todo with mode:=.returning} cs) w=
  .go (G ((baseD f).at {tmps:=(d.args++cap)++Array.replicate (fn.ntmps-(d.args++cap).size) undef,defers:= []} [.code c]) ({b.at ⟨a.tmps,ds⟩ todo with mode:=.returning}:: cs)) w #[]:=by
 have h1:¬fn.name= "runtime.NumGoroutine" :=by simpa using hname
 rw[<-enter_atD (d.args++cap) hf hb]
 obtain⟨dt,da⟩:=d
 simp only at ht
 subst ht
 simp[G,stepG,unwind,callDeferred,Frame.at,hd,invoke,callFunc,hf,h1,hb,GStep.after,seen_none]
def acw(P:aB)(fn:Func)(Post:aI->af->Prop):ep
 |O,.normal,a,w|O,.ret,a,w=>a.defers= []/\(∃v,ResultsC P fn a.tmps v)/\Post O w
 |_,_,_,_=>False
def CallsD(P:aB)(main:Bool)(J:Jm)(R:uA)(D:uB)(f:ay)(args:Array aj)(n:Nat)(O:aI)(w:af)(Post:aI->af->Prop):Prop:=
 ∃fn c,P.funcs[f]?=some fn/\(fn.name == "runtime.NumGoroutine")=false/\fn.body=some c/\
  cR P main J R D f c n (acw P fn Post) O {tmps:=args++Array.replicate (fn.ntmps-args.size) undef,defers:= []} w
def nY(P:aB)(main:Bool)(J:Jm)(R:uA)(D:uB)(dn:Nat)(f:ay)(fn:Func)(Post:aI->aj->af->Prop):ep
 |O,.normal,a,w|O,.ret,a,w=>(a.defers= []/\∃v,mV P R D f fn O w a.tmps v/\Post O v w)\/
   (∃d f' cap,a.defers= [d]/\d.target=.fn (.func f') cap/\CallsD P main J R D f' (d.args++cap) dn O w fun O' w'=>∃v,mV P R D f fn O' w' a.tmps v/\Post O' v w')\/
   (∃d,a.defers= [d]/\∀(b:ak) (todo:List Item) (cs:List ak),b.fn=f->∀w₁,R O w w₁->J.to O (G {b.at a todo with mode:=.returning} cs) w₁ fun own p g' w'=>g'=G {b.at ⟨a.tmps, []⟩ todo with mode:=.returning} cs/\∃v,mV P R D f fn (O.jump own p) w' a.tmps v/\Post (O.jump own p) v w')
 |_,_,_,_=>False
def bE(P:aB)(main:Bool)(J:Jm)(R:uA)(D:uB)(f:ay)(args:Array aj)(n:Nat)(O:aI)(w:af)(Post:aI->aj->af->Prop):Prop:=
 ∃fn c n₀ dn,n₀+dn<=n/\P.funcs[f]?=some fn/\(fn.name == "runtime.NumGoroutine")=false/\fn.body=some c/\
  cR P main J R D f c n₀ (nY P main J R D dn f fn Post) O {tmps:=args++Array.replicate (fn.ntmps-args.size) undef,defers:= []} w
def CallsD.mono{args:Array aj}{Post Post':aI->af->Prop}(h:CallsD P main J R D f args n O w Post)(hp:∀O w,Post O w->Post' O w)(hn:n<=n'):CallsD P main J R D f args n' O w Post':=by obtain⟨fn,c,hf,hnm,hb,hw⟩:=h;refine⟨fn,c,hf,hnm,hb,oO (oR hw fun O e a w q=>?_) hn⟩;cases e<;>first|exact⟨q.1,q.2.1,hp _ _ q.2.2⟩|exact q
def bE.mono{f:ay}{args:Array aj}{Post Post':aI->aj->af->Prop}(h:bE P main J R D f args n O w Post)(hp:∀O v w,Post O v w->Post' O v w):bE P main J R D f args n O w Post':=by
 obtain⟨fn,c,n₀,dn,hle,hf,hn,hb,hw⟩:=h;refine⟨fn,c,n₀,dn,hle,hf,hn,hb,oR hw fun O e a w q=>?_⟩;have key:nY P main J R D dn f fn Post O .ret a w->nY P main J R D dn f fn Post' O .ret a w:=fun q=>by
  rcases q with⟨h1,v,h2,h3⟩|⟨d,f',cap,h1,h2,h3⟩|⟨d,h1,h2⟩
  ·exact .inl ⟨h1,v,h2,hp _ _ _ h3⟩
  ·exact .inr (.inl ⟨d,f',cap,h1,h2,h3.mono (fun O w ⟨v,x,y⟩=>⟨v,x,hp _ _ _ y⟩) (zay _)⟩)
  ·exact .inr (.inr ⟨d,h1,fun b todo cs hb w₁ h₁=>J.mono (fun own p g' w' ⟨x,v,y,z⟩=>⟨x,v,y,hp _ _ _ z⟩) (h2 b todo cs hb w₁ h₁)⟩)
 cases e<;>first|exact key q|exact q
def bE.rely(T:bY R D){args:Array aj}{Post:aI->aj->af->Prop}(h:bE P main J R D f args n O w Post)(hr:R O w w₁):bE P main J R D f args n O w₁ Post:=by obtain⟨fn,c,n₀,dn,hle,hf,hn,hb,hw⟩:=h;exact⟨fn,c,n₀,dn,hle,hf,hn,hb,kM T hw hr⟩
def Iy{fn:Func}{c:Code}{args:Array aj}{Post:aI->aj->af->Prop}(hf:P.funcs[f]?=some fn)(hname:(fn.name == "runtime.NumGoroutine")=false)(hb:fn.body=some c)
 (h:cR P main J R D f c n (nY P main J R D dn f fn Post) O {tmps:=args++Array.replicate (fn.ntmps-args.size) undef,defers:= []} w):bE P main J R D f args (n+dn) O w Post:=⟨fn,c,n,dn,zay _,hf,hname,hb,h⟩
def cD.leave(T:bY R D){todo:List Item}{c:ak}{m:Nat->Nat}{Post:aI->aj->af->Prop}{Stop:xC}(hf:P.funcs[f]?=some fn')(h:nY P main J R D dn f fn' Post O .ret a w)
 (hnext:∀O v w,Post O v w->cD P main J R D Stop (m O.fu) O (G (c.finish v) cs) w):cD P main J R D Stop (m O.fu+dn+4) O (G {(base f).at a todo with mode:=.returning} (c :: cs)) w:=by
 have last:∀(O':aI) (a'':Act) (w':af),a''.tmps=a.tmps->a''.defers= []->(∃v,mV P R D f fn' O' w' a.tmps v/\Post O' v w')->cD P main J R D Stop (m O'.fu+1) O' (G {(base f).at a'' todo with mode:=.returning} (c :: cs)) w':=by rintro O' a'' w' ht sJ ⟨v,hr,hp⟩;refine cD.step rfl (fun w₁ h₁=>?_);rw[zi (b:=base f) rfl sJ hf (by rw[ht];exact(hr w₁ h₁).1),ht];exact⟨(hr w₁ h₁).2,by rw[O'.dz rfl];exact(hnext O' v w' hp).rely T h₁⟩
 rcases h with⟨hd,hv⟩|⟨d,f',cap,hd,ht,fnd,cd,zF,hnd,hbd,hwd⟩|⟨d,hd,hj⟩
 ·exact(last O a w rfl hd hv).mono (by omega)
 ·have hl:∀(O':aI) (a':Act) (w':af) (todo':List Item),(a'.defers= []/\(∃v,ResultsC P fnd a'.tmps v)/\∃v,mV P R D f fn' O' w' a.tmps v/\Post O' v w')->
   cD P main J R D Stop (m O'.fu+2) O' (G {(baseD f').at a' todo' with mode:=.returning} ({(base f).at ⟨a.tmps, []⟩ todo with mode:=.returning}:: c :: cs)) w':=by rintro O' a' w' todo' ⟨h1,⟨v,hv⟩,h3⟩;exact cD.quiet T rfl (fun w₁=>stepG_leave_deferred (b:=baseD f') rfl h1 zF (hv w₁).1 (hv w₁).2 rfl) (last O' ⟨a.tmps, []⟩ w' rfl rfl h3)
  refine cD.quiet T rfl (fun w₁=>nX hd ht zF hnd hbd) ?_;refine(hwd (baseD f') [] _ Stop (fun j=>m j+3) rfl (by simp[baseD]) fun O' e a' w' q=>?_).mono (n:=m O.fu+3+dn) (by omega);cases e with
  |normal=>exact cD.quiet T rfl (fun _=>stepG_end) (hl O' a' w' [] q)
  |ret=>exact fun todo'=>(hl O' a' w' todo' q).more
  |exit id=>exact q.elim
  |goto l=>exact q.elim
  |panic ch=>exact q.elim
  |outgrown=>exact q.elim
 ·refine cD.jump rfl fun w₁ h₁=>J.mono ?_ (hj (base f) todo (c :: cs) rfl w₁ h₁);rintro own p g' w' ⟨rfl,h3⟩;exact⟨_,last (O.jump own p) ⟨a.tmps, []⟩ w' rfl rfl h3⟩
def cD.body(T:bY R D){c:ak}{m:Nat->Nat}{Post:aI->aj->af->Prop}{Stop:xC}(hf:P.funcs[f]?=some fn')(h:cR P main J R D f cd n (nY P main J R D dn f fn' Post) O a w)
 (hnext:∀O v w,Post O v w->cD P main J R D Stop (m O.fu) O (G (c.finish v) cs) w):cD P main J R D Stop (m O.fu+n+dn+5) O (G ((base f).at a [.code cd]) (c :: cs)) w:=by
 refine(h (base f) [] (c :: cs) Stop (fun j=>m j+dn+5) rfl (by simp[base]) fun O' e a' w' q=>?_).mono (n:=m O.fu+dn+5+n) (by omega);cases e with
 |normal=>exact cD.quiet T rfl (fun _=>stepG_end) (cD.leave T hf q hnext)
 |ret=>exact fun todo=>(cD.leave T hf q hnext).more
 |exit id=>exact q.elim
 |goto l=>exact q.elim
 |panic ch=>exact q.elim
 |outgrown=>exact q.elim
def cD.enter(T:bY R D){k:List Item}{rest:List Nat}{fn:Func}{c:Code}{args:Array aD}{ats:Array az}{Stop:xC}
 (ho:ops[i]?=some o) (hw:Region.wanted o (yielded ops a.tmps)=true) (hk:b.kind≠.early) (hop:o.op=.call {callee:=.value (.func f),args,argTypes:=ats})
 (hf:P.funcs[f]?=some fn) (hname:(fn.name == "runtime.NumGoroutine")=false) (hb:fn.body=some c)
 (h:cD P main J R D Stop n O (G ((base f).at {tmps:=args.map a.eval++Array.replicate (fn.ntmps-(args.map a.eval).size) undef,defers:= []} [.code c]) (b.at a (.inRegion ops (i :: rest):: k):: cs)) w):
 cD P main J R D Stop (n+1) O (G (b.at a (.inRegion ops (i :: rest):: k)) cs) w:=
 cD.step rfl fun w₁ h₁=>goes_call ho hw hk hop hf hname hb ⟨T.idle _ _,by rw[O.dz rfl];exact h.rely T h₁⟩
def Du:Nat:=6
def bS(T:bY R D){rest:List Nat}{args:Array aD}{ats:Array az}{Post:aI->aj->af->Prop}
 (ho:ops[i]?=some o) (hw:Region.wanted o (yielded ops a.tmps)=true) (hop:o.op=.call {callee:=.value (.func f),args,argTypes:=ats})
 (hcall:bE P main J R D f (args.map a.eval) nf O w Post) (hnext:∀O' v w',Post O' v w'->bN P main J R D fn ops rest n Q O' (a.put o.dst v) w'):bN P main J R D fn ops (i :: rest) (n+nf+Du) Q O a w:=by
 intro b k cs Stop m hb hk hc;obtain⟨fn',c,n₀,dn,hle,hf,hname,hbody,hwp⟩:=hcall;have jh:∀v,(b.at a (.inRegion ops (i :: rest):: k)).finish v=b.at (a.put o.dst v) (.inRegion ops rest :: k):=fun v=>by rw[Frame.finish_at,ho];rfl
 have e:(m O.fu+n+n₀+dn+5)+1<=m O.fu+(n+nf+Du):=by unfold Du;omega
 refine cD.mono ?_ e;refine cD.enter T ho hw hk hop hf hname hbody (cD.body (m:=fun j=>m j+n) T hf hwp fun O' v w' hp=>?_);rw[jh];exact hnext O' v w' hp b k cs Stop m hb hk hc
def pV{todo:List Nat}
 (h:∀(b:ak) (k:List Item) (cs:List ak),b.fn=fn->b.kind≠.early->∀w₁,R O w w₁->J.to O (G (b.at a (.inRegion ops todo :: k)) cs) w₁ fun own p g' w'=>
   ∃todo' a' n',g'=G (b.at a' (.inRegion ops todo' :: k)) cs/\bN P main J R D fn ops todo' n' Q (O.jump own p) a' w'):bN P main J R D fn ops todo n Q O a w:=by
 intro b k cs Stop m hb hk hc
 refine cD.jump rfl fun w₁ h₁=>J.mono ?_ (h b k cs hb hk w₁ h₁)
 rintro own p g' w' ⟨todo',a',n',rfl,h'⟩
 exact⟨_,h' b k cs Stop m hb hk hc⟩
end rules
end
section
open Go Go.Conc
section
variable (P:aB)(main:Bool)(J:Jm)(R:uA)(D:uB)(fn:ay)(ops:Array Oper)
def Aq(c i:Nat)(K:aI->Act->af->Prop)(O:aI)(a:Act)(w:af):Prop:=
 match ops[i]? with
 |none=>False
 |some o=>
  if Region.wanted o (yielded ops a.tmps)then
   (∀w₁,R O w w₁->uponK o a (fun a' w'=>D O w₁ w' (listed P fn a o w₁)/\K (O.grow w₁ w') a' w') ((execOp a.eval o).run P w₁))\/
   (∃f args ats nf,∃Post:aI->aj->af->Prop,nf+Du<=c/\o.op=.call {callee:=.value (.func f),args,argTypes:=ats}/\bE P main J R D f (args.map a.eval) nf O w Post/\∀O' v w',Post O' v w'->K O' (a.put o.dst v) w')
  else K O (a.put o.dst undef) w
def iC(O0:aI)(S:af->Prop)(o:Oper)(v:aj)(a:Act):Prop:=
 (Region.wanted o (yielded ops a.tmps)=true/\∀O w,(∀i,O0.own i->O.own i)->S w->(execOp a.eval o).run P w=.ok (.value v) w/\D O w w (listed P fn a o w))\/
 (Region.wanted o (yielded ops a.tmps)=false/\v=undef)
def jU(md:Region.Mode)(c:Nat)(Q:ep)(O0:aI)(S:af->Prop):Nat->Array Bool->aI->Act->af->Prop
 | 0,listed,O,a,w=>Region.ready md ops listed= []/\Q O .normal a w
 |fuel+1,listed,O,a,w=>
  (Region.ready md ops listed= []->Q O .normal a w)/\
  ∀i∈Region.ready md ops listed,Aq P main J R D fn ops c i (fun O' a' w'=>((∀i,O0.own i->O'.own i)/\S w')/\jU md c Q O0 S fuel (listed.setIfInBounds i true) O' a' w') O a w
end
section
variable {P:aB}{main:Bool}{J:Jm}{R:uA}{D:uB}{fn:ay}{ops:Array Oper}{Q:ep}{md:Region.Mode}{c:Nat}{O0:aI}{S:af->Prop}
def Fv{K K':Act->af->Prop}(h:∀a w,K a w->K' a w){r:Result Next}(hh:uponK o a K r):uponK o a K' r:=by
 cases r with
 |ok n w'=>cases n<;>first|exact h _ _ hh|exact hh
 |halt x w'=>exact hh
def Aq.mono{O:aI}{w:af}{K K':aI->Act->af->Prop}(h:∀O a w,K O a w->K' O a w)(hh:Aq P main J R D fn ops c i K O a w):Aq P main J R D fn ops c i K' O a w:=by
 unfold Aq at *;split
 ·simp_all
 ·rename_i o ho;simp only[ho]at hh;split
  ·rename_i hw;simp only[hw,if_true]at hh;rcases hh with hh|⟨f,args,ats,nf,Post,h1,h2,h3,h4⟩
   ·exact .inl fun w₁ h₁=>Fv (fun a' w' x=>⟨x.1,h _ _ _ x.2⟩) (hh w₁ h₁)
   ·exact .inr ⟨f,args,ats,nf,Post,h1,h2,h3,fun O' v w' x=>h _ _ _ (h4 O' v w' x)⟩
  ·rename_i hw;simp only[hw]at hh;exact h _ _ _ hh
def Aq.rely(T:bY R D){i:Nat}{O:aI}{a:Act}{w w₁:af}{K:aI->Act->af->Prop}(hK:∀a,K O a w->K O a w₁)(hh:Aq P main J R D fn ops c i K O a w)(r:R O w w₁):Aq P main J R D fn ops c i K O a w₁:=by
 unfold Aq at *;split
 ·simp_all
 ·rename_i o ho;simp only[ho]at hh;split
  ·rename_i hw;simp only[hw,if_true]at hh;rcases hh with hh|⟨f,args,ats,nf,Post,h1,h2,h3,h4⟩
   ·exact .inl fun w₂ h₂=>hh w₂ (T.trans _ _ _ _ r h₂)
   ·exact .inr ⟨f,args,ats,nf,Post,h1,h2,h3.rely T r,h4⟩
  ·rename_i hw;simp only[hw]at hh;exact hK _ hh
def Fw(T:bY R D)(hc:1<=c){rest:List Nat}{O:aI}{w:af}(h:Aq P main J R D fn ops c i (fun O' a' w'=>bN P main J R D fn ops rest n Q O' a' w') O a w):bN P main J R D fn ops (i :: rest) (n+c) Q O a w:=by
 unfold Aq at h;split at h
 ·exact h.elim
 ·rename_i o ho;split at h
  ·rename_i hw;rcases h with h|⟨f,args,ats,nf,Post,h1,h2,h3,h4⟩
   ·exact mU (jz ho hw h) (by omega)
   ·exact mU (bS T ho hw h2 h3 h4) (by omega)
  ·rename_i hw;exact mU (qN T ho (by simpa using hw) h) (by omega)
def jU.rely(T:bY R D)(hSR:∀O x y,(∀i,O0.own i->O.own i)->S x->R O x y->S y)(hQR:∀O a x y,Q O .normal a x->R O x y->Q O .normal a y):
 ∀(fuel:Nat) (listed:Array Bool) (O:aI) (a:Act) (w w₁:af),jU P main J R D fn ops md c Q O0 S fuel listed O a w->R O w w₁->jU P main J R D fn ops md c Q O0 S fuel listed O a w₁
 | 0,_,_,_,_,_,h,r=>⟨h.1,hQR _ _ _ _ h.2 r⟩
 |fuel+1,_,_,_,_,_,h,r=>⟨fun e=>hQR _ _ _ _ (h.1 e) r,fun i hi=>(h.2 i hi).rely T (fun _ x=>⟨⟨x.1.1,hSR _ _ _ x.1.1 x.1.2 r⟩,jU.rely T hSR hQR fuel _ _ _ _ _ x.2 r⟩) r⟩
def IB(T:bY R D)(hc:1<=c):∀(fuel t:Nat) (listed:Array Bool) (O:aI) (a:Act) (w:af),jU P main J R D fn ops md c Q O0 S fuel listed O a w->
 bN P main J R D fn ops (Region.linearise.go md ops fuel t listed []) (fuel*c+1) Q O a w:=by
 intro fuel;induction fuel with
 |zero=>intro t listed O a w h;simpa[Region.linearise.go]using zg T h.2
 |succ fuel ih=>
  intro t listed O a w h;obtain⟨h₀,h₁⟩:=h;simp only[Region.linearise.go];change bN P main J R D fn ops (match (Region.ready md ops listed)[t %(Region.ready md ops listed).length]? with
   |some i=>Region.linearise.go md ops fuel (t /(Region.ready md ops listed).length) (listed.setIfInBounds i true) [i]
   |none=> [].reverse) ((fuel+1)*c+1) Q O a w
  cases hi:(Region.ready md ops listed)[t %(Region.ready md ops listed).length]? with
  |none=>
   have hnil:Region.ready md ops listed= []:=by
    rcases Nat.eq_zero_or_pos (Region.ready md ops listed).length with h0|h0
    ·exact List.length_eq_zero_iff.1 h0
    ·have:=List.getElem?_eq_none_iff.1 hi;have:=Nat.mod_lt t h0;omega
   exact mU (by simpa using zg T (h₀ hnil)) (by omega)
  |some i=>
   simp only[];rw[linearise_go_acc,List.reverse_singleton,List.singleton_append];have:=Fw T hc (Aq.mono (fun O' a' w' x=>ih (t /(Region.ready md ops listed).length) (listed.setIfInBounds i true) O' a' w' x.2) (h₁ i (List.mem_of_getElem? hi)));exact mU this (by rw[Nat.succ_mul];omega)
def iC.same{v:aj}(hy:iC P D fn ops O0 S o v a)(he:execOp a'.eval o=execOp a.eval o)
 (hw:Region.wanted o (yielded ops a'.tmps)=Region.wanted o (yielded ops a.tmps)):iC P D fn ops O0 S o v a':=by unfold iC listed at *;rw[he,hw];exact hy
def iC.opX(hSR:∀O x y,(∀i,O0.own i->O.own i)->S x->R O x y->S y){v:aj}(hi:ops[i]?=some o)(hy:iC P D fn ops O0 S o v a)
 {K:aI->Act->af->Prop} {O:aI} (hK:∀a x y,K O a x->R O x y->K O a y) {w:af} (hO:∀i,O0.own i->O.own i) (hS:S w) (h:K O (a.put o.dst v) w):Aq P main J R D fn ops c i K O a w:=by
 unfold Aq;simp only[hi];rcases hy with⟨hw,hv⟩|⟨hw,rfl⟩
 ·simp only[hw,if_true];refine .inl fun w₁ h₁=>?_;have:=hv O w₁ hO (hSR _ _ _ hO hS h₁);rw[this.1];refine⟨this.2,?_⟩;rw[O.dz rfl];exact hK _ _ _ h h₁
 ·simp only[hw,Bool.false_eq_true,if_false];exact h
def QI{args:Array aD}{ats:Array az}(hop:o.op=.call {callee:=.value (.func f),args,argTypes:=ats})(a:Act)(dst:Option Tmp)(v:aj)(h:∀d,dst=some d->d ∉ o.looksAt ops):
 args.map (a.put dst v).eval=args.map a.eval:=by refine Array.map_congr_left fun x hx=>Act.eval_put fun d hd UD=>h d hd ?_;subst UD;exact List.mem_append_left _ (List.mem_filterMap.2 ⟨.tmp d,by rw[hop];simp[Op.operands,Call.operands];exact hx,rfl⟩)
def Aq.acA{oj:Oper}{v:aj}(hj:ops[j]?=some oj)(hap:oi.apart ops oj=true)
 (hsi:∀cs b,oi.op≠.select cs b) (hsj:∀cs b,oj.op≠.select cs b) {K:aI->Act->af->Prop} {O:aI} {a:Act} {w:af}
 (hy:iC P D fn ops O0 S oi v a) (h:Aq P main J R D fn ops c j K O (a.put oi.dst v) w):
 Aq P main J R D fn ops c j (fun O' a' w'=>iC P D fn ops O0 S oi v a'/\K O' (a'.put oi.dst v) w') O a w:=by
 obtain⟨h1,h2,h3⟩:=Oper.apart_spec hap;have keep:∀(a:Act),iC P D fn ops O0 S oi v a->∀u,iC P D fn ops O0 S oi v (a.put oj.dst u):=fun a hy u=>
  hy.same (execOp_put oi hsi a oj.dst u h3) (wanted_put oi a oj.dst u h3)
 unfold Aq at *;simp only[hj]at *;rw[wanted_put oj a oi.dst v h1]at h;split
 ·rename_i hw;simp only[hw,if_true]at h;rcases h with h|⟨f,args,ats,nf,Post,q1,q2,q3,q4⟩
  ·refine .inl fun w₁ h₁=>?_;have h:=h w₁ h₁;unfold listed at *;rw[execOp_put oj hsj a oi.dst v h1]at h;generalize (execOp a.eval oj).run P w₁=r at *;cases r with
   |ok n w'=>
    cases n<;>simp only[uponK]at h⊢;case value u=>exact⟨h.1,keep a hy u,by rw[<-Act.put_comm a v u h2];exact h.2⟩
    case skip=>exact⟨h.1,keep a hy _,by rw[<-Act.put_comm a v undef h2];exact h.2⟩
   |halt x w'=>simp only[uponK]at h
  ·rw[QI q2 a oi.dst v h1]at q3;exact .inr ⟨f,args,ats,nf,Post,q1,q2,q3,fun O' u w' x=>⟨keep a hy u,by rw[<-Act.put_comm a v u h2];exact q4 O' u w' x⟩⟩
 ·rename_i hw;simp only[hw]at h;exact⟨keep a hy _,by rw[<-Act.put_comm a v undef h2];exact h⟩
def IC(T:bY R D)(hSR:∀O x y,(∀i,O0.own i->O.own i)->S x->R O x y->S y)(hQR:∀O a x y,Q O .normal a x->R O x y->Q O .normal a y){v:aj}(hi:ops[i]?=some oi)
 (hsel:∀(j:Nat) (o:Oper) cs b,ops[j]?=some o->o.op≠.select cs b):
 ∀(fuel:Nat) (listed:Array Bool) (O:aI) (a:Act) (w:af),
  (∀j oj,ops[j]?=some oj->j≠i->listed.getD j true=false->(∀e∈oj.after,Region.binds md e=true->e.on≠i)->oi.apart ops oj=true)->
  i∈Region.ready md ops listed->iC P D fn ops O0 S oi v a->(∀i,O0.own i->O.own i)->S w->
  jU P main J R D fn ops md c Q O0 S fuel (listed.setIfInBounds i true) O (a.put oi.dst v) w->jU P main J R D fn ops md c Q O0 S (fuel+1) listed O a w:=by
 have hK:∀fuel listed O,∀a x y,(((∀i,O0.own i->O.own i)/\S x)/\jU P main J R D fn ops md c Q O0 S fuel listed O a x)->R O x y->(((∀i,O0.own i->O.own i)/\S y)/\jU P main J R D fn ops md c Q O0 S fuel listed O a y):=
  fun fuel listed O a x y h r=>⟨⟨h.1.1,hSR _ _ _ h.1.1 h.1.2 r⟩,jU.rely T hSR hQR fuel listed O a x y h.2 r⟩
 intro fuel
 induction fuel with
 |zero=>
  intro listed O a w _ hr hy hO hS H
  refine⟨fun h=>(by rw[h]at hr;cases hr),fun j hj=>?_⟩
  by_cases hji:j=i
  ·subst hji;exact hy.opX hSR hi (hK _ _ _) hO hS ⟨⟨hO,hS⟩,H⟩
  ·have:=ready_mono hj hji
   rw[H.1]at this
   cases this
 |succ fuel ih=>
  intro listed O a w hfree hr hy hO hS H
  refine⟨fun h=>(by rw[h]at hr;cases hr),fun j hj=>?_⟩
  by_cases hji:j=i
  ·subst hji;exact hy.opX hSR hi (hK _ _ _) hO hS ⟨⟨hO,hS⟩,H⟩
  ·have h1:=H.2 j (ready_mono hj hji)
   obtain⟨acB,oj,hoj,hall⟩:=mem_ready.1 hj
   have ahv:∀e∈oj.after,Region.binds md e=true->e.on≠i:=fun e he hb heq=>by
    have h1:=hall e he hb;have h0:=(mem_ready.1 hr).1;rw[heq]at h1;rcases Nat.lt_or_ge i listed.size with h'|h'
    ·simp[h']at h0 h1;rw[h0]at h1;cases h1
    ·simp[Array.getElem?_eq_none h']at h1
   have h2:=Aq.acA hoj (hfree j oj hoj hji acB ahv) (fun cs b=>hsel i oi cs b hi) (fun cs b=>hsel j oj cs b hoj) hy h1
   have Yf:∀k ok,ops[k]?=some ok->k≠i->(listed.setIfInBounds j true).getD k true=false->
    (∀e∈ok.after,Region.binds md e=true->e.on≠i)->oi.apart ops ok=true:=fun k ok hk hki hun hno=>by
    refine hfree k ok hk hki ?_ hno;by_cases hjk:j=k
    ·subst hjk;exact acB
    ·rw[getD_set_ne true hjk]at hun;exact hun
   refine Aq.mono (fun O' a' w' h3=>⟨h3.2.1,ih (listed.setIfInBounds j true) O' a' w' Yf (ready_mono hr (Ne.symm hji)) h3.1 h3.2.1.1 h3.2.1.2 ?_⟩) h2
   rw[Array.setIfInBounds_comm _ _ hji]
   exact h3.2.2
def uF(T:bY R D)(hSR:∀O x y,(∀i,O0.own i->O.own i)->S x->R O x y->S y)(hQR:∀O a x y,Q O .normal a x->R O x y->Q O .normal a y){v:aj}{fuel:Nat}{listed:Array Bool}{O:aI}{w:af}(hi:ops[i]?=some oi)
 (hs:Region.noSelect ops=true) (hf:Region.free md ops listed i=true) (hr:(Region.ready md ops listed).contains i=true)
 (hy:iC P D fn ops O0 S oi v a) (hO:∀i,O0.own i->O.own i) (hS:S w) (h:jU P main J R D fn ops md c Q O0 S fuel (listed.setIfInBounds i true) O (a.put oi.dst v) w):jU P main J R D fn ops md c Q O0 S (fuel+1) listed O a w:=
 IC T hSR hQR hi (Region.noSelect_spec hs) fuel listed O a w (Region.free_spec hi hf) (by simpa using hr) hy hO hS h
def jN{rs:List Nat}{fuel:Nat}{listed:Array Bool}{O:aI}{w:af}(hr:Region.ready md ops listed=rs)(hne:rs≠ [])
 (h:∀i∈rs,Aq P main J R D fn ops c i (fun O' a' w'=>((∀i,O0.own i->O'.own i)/\S w')/\jU P main J R D fn ops md c Q O0 S fuel (listed.setIfInBounds i true) O' a' w') O a w):jU P main J R D fn ops md c Q O0 S (fuel+1) listed O a w:=
 ⟨fun h0=>absurd (hr▸h0) hne,hr▸h⟩
def ko{listed:Array Bool}{O:aI}{w:af}(hr:Region.ready md ops listed= [])(h:Q O .normal a w):∀fuel,jU P main J R D fn ops md c Q O0 S fuel listed O a w
 | 0=>⟨hr,h⟩
 |_+1=>⟨fun _=>h,fun i hi=>by rw[hr]at hi;cases hi⟩
def gi(T:bY R D)(hd:∀O w,D O w {w with drawn:=w.drawn+1} #[])(hc:1<=c){id:Nat}{O:aI}{w:af}(hm:P.follows .mixedOrders=true)
 (h:∀w₁,R O w w₁->jU P main J R D fn ops .any c Q O0 S ops.size (Array.replicate ops.size false) O a {w₁ with drawn:=w₁.drawn+1}):cR P main J R D fn (.region id ops true) (ops.size*c+1+1) Q O a w:=
 wz hd fun w₁ h₁ t=>by simp only[Region.schedule,hm,Bool.true_or,if_true];exact IB T hc ops.size t _ O a _ (h w₁ h₁)
end
end
section
open Go Go.Conc
structure dY where
 Fx:Nat->Prop
 ny:aA->Prop
 Mn:aA->Prop
 Sh:Nat->Prop
 Wg:Nat
 tw:az
 N:Nat
 low:∀a,ny a->a.block<N
 ID:∀a,Mn a->a.block<N
def Dt(tw:az)(Wg:Nat)(w:af):Prop:=∃st sm,w.heap[Wg]?=some (.cells #[.int .u64 st,.int .u32 sm] tw)
structure RX(L:dY)(O:aI)(w w₁:af):Prop where
 le:w.heap.size<=w₁.heap.size
 blk:∀i,i<w.heap.size->O.own i\/L.Fx i->w₁.heap[i]?=w.heap[i]?
 GB:∀a,L.ny a->w₁.cell? a=w.cell? a
 mn:∀a,L.Mn a->w₁.cell? a=w.cell? a/\w₁.frozen? a=w.frozen? a
 sh:∀i c e f,L.Sh i->w.heap[i]?=some (.cells c e f)->∃c',w₁.heap[i]?=some (.cells c' e f)/\c'.size=c.size
 live:Dt L.tw L.Wg w->Dt L.tw L.Wg w₁
def Dv(L:dY)(O:aI)(e:aC):Prop:=
 e.sync=false/\((∃a,e.loc=.cell a/\(O.own a.block\/L.Mn a\/((L.Fx a.block\/L.ny a)/\e.write=false)))\/(∃r,e.loc=.obj r/\(O.own r\/(L.Fx r/\e.write=false))))
structure DX(L:dY)(O:aI)(w w':af)(es:Array aC):Prop where
 tape:w'.tape=w.tape
 os:w'.os=w.os
 out:w'.output=w.output
 le:w.heap.size<=w'.heap.size
 blk:∀i,i<w.heap.size->¬O.own i->w'.heap[i]?=w.heap[i]? \/
  ∃c c' e f,w.heap[i]?=some (.cells c e f)/\w'.heap[i]?=some (.cells c' e f)/\c'.size=c.size/\∀j,¬L.Mn ⟨i,j,none⟩->c'[j]?=c[j]?
 ev:∀e∈es,Dv L O e
variable {L:dY}{O O':aI}{w w₁ w₂:af}
def RX.refl(O:aI)(w:af):RX L O w w:=⟨zay _,fun _ _ _=>rfl,fun _ _=>rfl,fun _ _=>⟨rfl,rfl⟩,fun _ c _ _ _ h=>⟨c,h,rfl⟩,id⟩
def RX.trans(h:RX L O w w₁)(h':RX L O w₁ w₂):RX L O w w₂:=
 ⟨zaz h.le h'.le,fun i hi ho=>(h'.blk i (Nat.lt_of_lt_of_le hi h.le) ho).trans (h.blk i hi ho),fun a ha=>(h'.GB a ha).trans (h.GB a ha),fun a ha=>⟨(h'.mn a ha).1.trans (h.mn a ha).1,(h'.mn a ha).2.trans (h.mn a ha).2⟩,fun i c e f hi hc=>by obtain⟨c1,h1,e1⟩:=h.sh i c e f hi hc;obtain⟨c2,h2,e2⟩:=h'.sh i c1 e f hi h1;exact⟨c2,h2,e2.trans e1⟩,h'.live ∘ h.live⟩
def RX.anti(h:RX L O' w w₁)(hO:∀i,O.own i->O'.own i):RX L O w w₁:=⟨h.le,fun i hi ho=>h.blk i hi (ho.imp (hO i) id),h.GB,h.mn,h.sh,h.live⟩
def DX.idle(O:aI)(w:af):DX L O w w #[]:=⟨rfl,rfl,rfl,zay _,fun _ _ _=>.inl rfl,fun _ h=>by simp at h⟩
def DX.still(O:aI)(w:af)(h:∀e∈es,Dv L O e):DX L O w w es:=⟨rfl,rfl,rfl,zay _,fun _ _ _=>.inl rfl,h⟩
def DX.draw(O:aI)(w:af):DX L O w {w with drawn:=w.drawn+1} #[]:=⟨rfl,rfl,rfl,zay _,fun _ _ _=>.inl rfl,fun _ h=>by simp at h⟩
def RX.draw(O:aI)(w:af):RX L O w {w with drawn:=w.drawn+1}:=⟨zay _,fun _ _ _=>rfl,fun _ _=>rfl,fun _ _=>⟨rfl,rfl⟩,fun _ c _ _ _ h=>⟨c,h,rfl⟩,id⟩
def aF(L:dY):bY (RX L) (DX L):=⟨RX.refl,fun _ _ _ _=>RX.trans,DX.idle⟩
structure bG(L:dY)(O0:aI)(w0:af)(O:aI)(w:af):Prop where
 base:L.N<=w0.heap.size
 own:∀i,O0.own i->O.own i
 rel:RX L O0 w0 w
 gh:O.pos=O0.pos/\O.fu=O0.fu
 new:∀i,O.own i->O0.own i\/w0.heap.size<=i
def bG.refl(h:L.N<=w.heap.size):bG L O w O w:=⟨h,fun _ h=>h,RX.refl _ _,⟨rfl,rfl⟩,fun _ h=>.inl h⟩
def bG.rely{O0:aI}(h:bG L O0 w0 O w)(r:RX L O w w₁):bG L O0 w0 O w₁:=⟨h.base,h.own,h.rel.trans (r.anti h.own),h.gh,h.new⟩
def bG.trans{O0 O1 O2:aI}{w0:af}(h:bG L O0 w0 O1 w₁)(r:bG L O1 w₁ O2 w₂):bG L O0 w0 O2 w₂:=⟨h.base,fun i hi=>r.own i (h.own i hi),h.rel.trans (r.rel.anti h.own),⟨r.gh.1.trans h.gh.1,r.gh.2.trans h.gh.2⟩,fun i hi=>(r.new i hi).elim (h.new i) fun x=>.inr (zaz h.rel.le x)⟩
def bG.top{O0:aI}(h:bG L O0 w0 O w):L.N<=w.heap.size:=zaz h.base h.rel.le
structure qn(L:dY)(O0:aI)(w0:af)(O:aI)(w:af):Prop where
 base:L.N<=w0.heap.size
 own:∀i,O0.own i->O.own i
 rel:RX L O0 w0 w
 new:∀i,O.own i->O0.own i\/w0.heap.size<=i
def bG.Rk{O0:aI}(h:bG L O0 w0 O w):qn L O0 w0 O w:=⟨h.base,h.own,h.rel,h.new⟩
def qn.refl(h:L.N<=w.heap.size):qn L O w O w:=⟨h,fun _ h=>h,RX.refl _ _,fun _ h=>.inl h⟩
def qn.rely{O0:aI}(h:qn L O0 w0 O w)(r:RX L O w w₁):qn L O0 w0 O w₁:=⟨h.base,h.own,h.rel.trans (r.anti h.own),h.new⟩
def qn.trans{O0 O1 O2:aI}{w0:af}(h:qn L O0 w0 O1 w₁)(r:qn L O1 w₁ O2 w₂):qn L O0 w0 O2 w₂:=⟨h.base,fun i hi=>r.own i (h.own i hi),h.rel.trans (r.rel.anti h.own),fun i hi=>(r.new i hi).elim (h.new i) fun x=>.inr (zaz h.rel.le x)⟩
def qn.top{O0:aI}(h:qn L O0 w0 O w):L.N<=w.heap.size:=zaz h.base h.rel.le
def qn.nj{O0:aI}(h:qn L O0 w0 O w)(hi:¬O0.own i)(hl:i<w0.heap.size):¬O.own i:=fun x=>(h.new i x).elim hi (by omega)
def bG.nj{O0:aI}{w0:af}(h:bG L O0 w0 O w){i:Nat}(hi:¬O0.own i)(hl:i<w0.heap.size):¬O.own i:=h.Rk.nj hi hl
structure OB(r:Nat)(o:Obj)(O:aI)(w:af):Prop where
 own:O.own r
 heap:w.heap[r]?=some o
def OB.lt{o:Obj}(h:OB r o O w):r<w.heap.size:=by
 rcases Nat.lt_or_ge r w.heap.size with hl|hl
 ·exact hl
 ·have:=h.heap;rw[Array.getElem?_eq_none hl]at this;cases this
def OB.rely{o:Obj}(h:OB r o O w)(x:RX L O w w₁):OB r o O w₁:=⟨h.own,(x.blk r h.lt (.inl h.own)).trans h.heap⟩
def OB.wN{o:Obj}(h:OB r o O w)(x:bG L O w O' w₁):OB r o O' w₁:=⟨x.own _ h.own,(x.rel.blk r h.lt (.inl h.own)).trans h.heap⟩
def wQ(w:af)(o:Obj):(w.alloc o).heap.size=w.heap.size+1:=Array.size_push ..
def zj(w:af)(o:Obj)(h:i<w.heap.size):(w.alloc o).heap[i]?=w.heap[i]? :=by show (w.heap.push o)[i]?=_;rw[Array.getElem?_push,if_neg (by omega)]
def Oy(w:af)(o:Obj):(w.alloc o).heap[w.heap.size]?=some o:=by show (w.heap.push o)[w.heap.size]?=_;rw[Array.getElem?_push,if_pos rfl]
def DX.alloc(O:aI)(w:af)(o:Obj):DX L O w (w.alloc o) #[]:=
 ⟨rfl,rfl,rfl,by rw[wQ];omega,fun i hi _=>.inl (zj w o hi),fun _ h=>by simp at h⟩
def RX.alloc(O:aI)(h:L.N<=w.heap.size)(o:Obj):RX L O w (w.alloc o):=
 ⟨by rw[wQ];omega,fun i hi _=>zj w o hi,fun a ha=>by have:=L.low a ha;unfold World.cell?;rw[zj w o (show a.block<w.heap.size by omega)],fun a ha=>by have:=L.ID a ha;unfold World.cell? World.frozen?;rw[zj w o (show a.block<w.heap.size by omega)];exact⟨rfl,rfl⟩,fun i c e f _ h=>⟨c,by rw[zj w o (za0.1 h).1];exact h,rfl⟩,fun⟨st,sm,h⟩=>⟨st,sm,by rw[zj w o (za0.1 h).1];exact h⟩⟩
def OB.new(O:aI)(w:af)(o:Obj):OB w.heap.size o (O.grow w (w.alloc o)) (w.alloc o):=⟨.inr ⟨zay _,by rw[wQ];omega⟩,Oy w o⟩
def bG.alloc{O0:aI}{w0:af}(h:bG L O0 w0 O w)(o:Obj):bG L O0 w0 (O.grow w (w.alloc o)) (w.alloc o):=⟨h.base,fun i hi=>.inl (h.own i hi),h.rel.trans ((RX.alloc _ h.top o)),h.gh,fun i hi=>hi.elim (h.new i) fun x=>.inr (zaz h.rel.le x.1)⟩
def OB.alloc{r:Nat}{o:Obj}(h:OB r o O w)(o':Obj):OB r o (O.grow w (w.alloc o')) (w.alloc o'):=⟨.inl h.own,(zj w o' h.lt).trans h.heap⟩
structure dO(r:Nat)(w w':af):Prop where
 tape:w'.tape=w.tape
 os:w'.os=w.os
 out:w'.output=w.output
 size:w'.heap.size=w.heap.size
 other:∀i,i≠r->w'.heap[i]?=w.heap[i]?
def DX.own{r:Nat}{es:Array aC}(h:O.own r)(t:dO r w w₁)(he:∀e∈es,Dv L O e):DX L O w w₁ es:=
 ⟨t.tape,t.os,t.out,Nat.le_of_eq t.size.symm,fun i _ hi=>.inl (t.other i fun e=>hi (e▸h)),he⟩
def dO.wN{O0:aI}(t:dO r w w₁)(h:bG L O0 w0 O w)(hr:w0.heap.size<=r):bG L O0 w0 O w₁:=
 ⟨h.base,h.own,⟨by have:=h.rel.le;rw[t.size];exact this,fun i hi ho=>(t.other i (by omega)).trans (h.rel.blk i hi ho),fun a ha=>by
   rw[<-h.rel.GB a ha];have:=L.low a ha;have:=h.base;simp only[World.cell?,t.other a.block (by omega)],fun a ha=>by
   rw[<-(h.rel.mn a ha).1,<-(h.rel.mn a ha).2];have:=L.ID a ha;have:=h.base;simp only[World.cell?,World.frozen?,t.other a.block (by omega)];exact⟨trivial,trivial⟩,fun i c e f hi hc=>by
   obtain⟨c1,h1,e1⟩:=h.rel.sh i c e f hi hc;have:=(za0.1 hc).1;exact⟨c1,(t.other i (by omega)).trans h1,e1⟩,fun hl=>by have hlt:=(za0.1 hl.choose_spec.choose_spec).1;obtain⟨st,sm,h1⟩:=h.rel.live hl;exact⟨st,sm,(t.other L.Wg (by omega)).trans h1⟩⟩,h.gh,h.new⟩
def dO.ob{r':Nat}{o:Obj}(t:dO r w w₁)(h:OB r' o O w)(hr:r'≠r):OB r' o O w₁:=⟨h.own,(t.other r' hr).trans h.heap⟩
section
variable {P:aB}{main:Bool}{J:Jm}{R:uA}{D:uB}{fn:ay}{Q:ep}{a:Act}
def oQ(T:bY R D){x:Code}(h:cR P main J R D fn x n₁ (bh (fun O' a' w'=>cR P main J R D fn y n₂ Q O' a' w') Q) O a w):cR P main J R D fn (.seq x y) (n₁+n₂+1) Q O a w:=
 aK T _ h fun _ _ _ h=>h
def aN{rest:List Nat}(ho:ops[i]?=some o)(hw:Region.wanted o (yielded ops a.tmps)=true)
 (h:∀w₁,R O w w₁->∀K:Act->af->Prop,(∀a',D O w₁ w₁ (listed P fn a o w₁)/\bN P main J R D fn ops rest n Q O a' w₁->K a' w₁)->uponK o a K ((execOp a.eval o).run P w₁)):bN P main J R D fn ops (i :: rest) (n+1) Q O a w:=
 jz ho hw fun w₁ h₁=>h w₁ h₁ _ fun _ x=>⟨x.1,by rw[O.dz rfl];exact x.2⟩
def bJ{rest:List Nat}(ho:ops[i]?=some o)(hw:Region.wanted o (yielded ops a.tmps)=true)
 (h:∀w₁,R O w w₁->∀K:Act->af->Prop,(∀a' w',D O w₁ w' (listed P fn a o w₁)/\bN P main J R D fn ops rest n Q (O.grow w₁ w') a' w'->K a' w')->uponK o a K ((execOp a.eval o).run P w₁)):bN P main J R D fn ops (i :: rest) (n+1) Q O a w:=
 jz ho hw fun w₁ h₁=>h w₁ h₁ _ fun _ _ x=>x
def aU(T:bY R D){c:aD}{x:Code}(hc:a.eval c=.bool t)(ht:t=true->cR P main J R D fn x n₁ Q O a w)(hf:t=false->cR P main J R D fn y n₂ Q O a w):
 cR P main J R D fn (.cond c x y) (max n₁ n₂+1) Q O a w:=by
 refine sU T hc ?_;cases t with
 |true=>exact oO (ht rfl) (Nat.le_max_left _ _)
 |false=>exact oO (hf rfl) (Nat.le_max_right _ _)
def xI{x:Code}(h:cR P main J (RX L) (DX L) fn x n₁ (bh (fun O' a' w'=>cR P main J (RX L) (DX L) fn y n₂ Q O' a' w') Q) O a w):cR P main J (RX L) (DX L) fn (.seq x y) (n₁+n₂+1) Q O a w:=oQ (aF L) h
def SP{id:Nat}{c:Code}(h:cR P main J (RX L) (DX L) fn c n (iU id Q) O a w):cR P main J (RX L) (DX L) fn (.block id c) (n+2) Q O a w:=fE (aF L) h
def F0(h:Q O .normal a w):cR P main J (RX L) (DX L) fn .skip 1 Q O a w:=iT (aF L) h
def xLb{l:Nat}(h:Q O .normal a w):cR P main J (RX L) (DX L) fn (.label l) 1 Q O a w:=Mb (aF L) h
def xJ(h:Q O .ret a w):cR P main J (RX L) (DX L) fn .ret 1 Q O a w:=TZ (aF L) h
def SQ{id:Nat}(h:Q O (.exit id) a w):cR P main J (RX L) (DX L) fn (.exit id) 1 Q O a w:=sV (aF L) h
def wO(h:Q O .normal a w):bN P main J (RX L) (DX L) fn ops [] 1 Q O a w:=zg (aF L) h
def AO{id:Nat}(h:bN P main J (RX L) (DX L) fn ops (List.range' 0 ops.size) n Q O a w):cR P main J (RX L) (DX L) fn (.region id ops false) (n+1) Q O a w:=
 Ix (aF L) (by rw[List.range_eq_range'];exact h)
def SV{rest:List Nat}(ho:ops[i]?=some o:=by rfl)(hw:Region.wanted o (yielded ops a.tmps)=false:=by rfl)
 (h:bN P main J (RX L) (DX L) fn ops rest n Q O (a.put o.dst undef) w):bN P main J (RX L) (DX L) fn ops (i :: rest) (n+1) Q O a w:=qN (aF L) ho hw h
def xCt{c:aD}{x:Code}(hc:a.eval c=.bool true:=by rfl)(h:cR P main J (RX L) (DX L) fn x n Q O a w):cR P main J (RX L) (DX L) fn (.cond c x y) (n+1) Q O a w:=sU (aF L) hc h
def xCf{c:aD}{x:Code}(hc:a.eval c=.bool false:=by rfl)(h:cR P main J (RX L) (DX L) fn y n Q O a w):cR P main J (RX L) (DX L) fn (.cond c x y) (n+1) Q O a w:=sU (aF L) hc h
def uE{rest:List Nat}(ho:ops[i]?=some o:=by rfl)(hw:Region.wanted o (yielded ops a.tmps)=true:=by rfl)
 (h:∀w₁,RX L O w w₁->(execOp a.eval o).events P w₁ #[]=#[]/\∀K:Act->af->Prop,(∀a',bN P main J (RX L) (DX L) fn ops rest n Q O a' w₁->K a' w₁)->uponK o a K ((execOp a.eval o).run P w₁)):bN P main J (RX L) (DX L) fn ops (i :: rest) (n+1) Q O a w:=
 aN ho hw fun w₁ r K hK=>(h w₁ r).2 K fun a' x=>hK a' ⟨by rw[listed_nil (h w₁ r).1];exact DX.idle _ _,x⟩
def Rx(p:Prop):Prop:=p
def gJ(c:C1)(h:Rx C1->G1:=by intro c;(repeat(first|co_apply AO|((first|co_apply xI|co_apply SP|co_apply F0|co_apply xLb|co_apply xJ|co_apply SQ|co_apply wO);try co_then)));exact c):G1:=h c
def jy(c:C1)(h:Rx C1->G1:=by intro c;(repeat(first|co_apply AO|((first|co_apply xI|co_apply SP|co_apply F0|co_apply xLb|co_apply xJ|co_apply SQ|co_apply wO);try co_then)|(co_apply (SV);try walk_nrm)|(first|co_apply (xCt)|co_apply (xCf))));exact c):G1:=h c
def dX(c:C1)(h:Rx C1->G1:=by intro c;(repeat(first|co_apply AO|(co_apply (uE);intro w1 hR;replace hS:=hS.rely hR;clear hR;refine⟨by first|(simp[go_sem];done)|simp[*,go_sem],fun K z=>?_⟩;go_simp;refine z _ ?_;clear z K;try walk_nrm)|(co_apply (SV);try walk_nrm)|((first|co_apply xI|co_apply SP|co_apply F0|co_apply xLb|co_apply xJ|co_apply SQ|co_apply wO);try co_then)|(first|co_apply (xCt)|co_apply (xCf))));revert hS;revert w1;exact c):G1:=h c
def YP(c:C1)(h:Rx C1->G1:=by intro c;(repeat(first|co_apply AO|(co_apply (uE);intro w1 hR;replace gI:=gI.rely hR;clear hR;refine⟨by first|(simp[go_sem];done)|simp[*,go_sem],fun K z=>?_⟩;go_simp;refine z _ ?_;clear z K;try walk_nrm)|(co_apply (SV);try walk_nrm)|((first|co_apply xI|co_apply SP|co_apply F0|co_apply xLb|co_apply xJ|co_apply SQ|co_apply wO);try co_then)|(first|co_apply (xCt)|co_apply (xCf))));revert gI;revert w1;exact c):G1:=h c
def xH(c:C1)(h:Rx C1->G1:=by intro c;(repeat(first|co_apply AO|(co_apply (uE);intro w1 hR;replace hF:=hF.rely hR;clear hR;refine⟨by first|(simp[go_sem];done)|simp[*,go_sem],fun K z=>?_⟩;go_simp;refine z _ ?_;clear z K;try walk_nrm)|(co_apply (SV);try walk_nrm)|((first|co_apply xI|co_apply SP|co_apply F0|co_apply xLb|co_apply xJ|co_apply SQ|co_apply wO);try co_then)|(first|co_apply (xCt)|co_apply (xCf))));revert hF;revert w1;exact c):G1:=h c
def jY(c:C1)(h:Rx C1->G1:=by intro c;(co_apply (uE);intro w1 hR;replace hF:=hF.rely hR;clear hR;refine⟨by first|(simp[go_sem];done)|simp[*,go_sem],fun K z=>?_⟩;go_simp;refine z _ ?_;clear z K;try walk_nrm);revert hF;revert w1;exact c):G1:=h c
def SM(c:C1)(h:Rx C1->G1:=by intro c;(co_apply (uE);intro w1 hR;replace hS:=hS.rely hR;clear hR;refine⟨by first|(simp[go_sem];done)|simp[*,go_sem],fun K z=>?_⟩;go_simp;refine z _ ?_;clear z K;try walk_nrm);revert hS;revert w1;exact c):G1:=h c
def ox(c:C1)(h:Rx C1->G1:=by intro c;(co_apply (uE);intro w1 hR;replace hG:=rl hG hR;clear hR;refine⟨by first|(simp[go_sem];done)|simp[*,go_sem],fun K z=>?_⟩;go_simp;refine z _ ?_;clear z K;try walk_nrm);revert hG;revert w1;exact c):G1:=h c
def K2(c:C1)(h:Rx C1->G1:=by intro c;obtain⟨fv,hT,aL⟩:=B8 hl.d hl.size;rw[hT];simp only[aL 0 _ hl.g0,aL 2 _ hl.g2,aL 3 _ hl.g3,aL 4 _ hl.g4,aL 5 _ hl.g5,aL 6 _ hl.g6];clear hT aL;revert fv;exact c):G1:=h c
def wlM(c:C1)(h:Rx C1->G1:=by intro c;obtain⟨fv,hT,aL⟩:=B8 hl.d hl.size;rw[hT];simp only[aL 0 _ hl.g0,aL 2 _ hl.g2,aL 3 _ hl.g3,aL 4 _ hl.g4,aL 5 _ hl.g5,aL 6 _ hl.g6,aL 7 _ h7];clear hT aL;revert fv;exact c):G1:=h c
structure Tks(L:dY)(O0:aI)(S:af->Prop)(Q:ep)(O:aI)(w:af):Prop where
 sr:∀O x y,(∀i,O0.own i->O.own i)->S x->RX L O x y->S y
 qr:∀O a x y,Q O .normal a x->RX L O x y->Q O .normal a y
 ow:∀i,O0.own i->O.own i
 st:S w
variable {ops:Array Oper}{md:Region.Mode}{c fuel i:Nat}{O0:aI}{S:af->Prop}{listed:Array Bool}{oi:Oper}{v:aj}
def Rn(h1:∀O x y,(∀i,O0.own i->O.own i)->S x->RX L O x y->S y)(h2:∀O a x y,Q O .normal a x->RX L O x y->Q O .normal a y)(h3:∀i,O0.own i->O.own i)(h4:S w)
 (h:Tks L O0 S Q O w->jU P main J (RX L) (DX L) fn ops md c Q O0 S fuel listed O a w):jU P main J (RX L) (DX L) fn ops md c Q O0 S fuel listed O a w:=h ⟨h1,h2,h3,h4⟩
def AR(hb:Tks L O0 S Q O w)(hi:ops[i]?=some oi)(hk:(Region.noSelect ops && Region.free md ops listed i &&(Region.ready md ops listed).contains i)=true)(hw:Region.wanted oi (yielded ops a.tmps)=true)
 (hy:∀O w,(∀i,O0.own i->O.own i)->S w->(∀K:Result Next->Prop,K (.ok (.value v) w)->K ((execOp a.eval oi).run P w))/\DX L O w w (Go.Conc.listed P fn a oi w))
 (h:jU P main J (RX L) (DX L) fn ops md c Q O0 S fuel (listed.setIfInBounds i true) O (a.put oi.dst v) w):jU P main J (RX L) (DX L) fn ops md c Q O0 S (fuel+1) listed O a w:=by simp only[Bool.and_eq_true]at hk;exact uF (aF L) hb.sr hb.qr hi hk.1.1 hk.1.2 hk.2 (.inl ⟨hw,fun O w x y=>⟨run_eq_of (hy O w x y).1,(hy O w x y).2⟩⟩) hb.ow hb.st h
def pX(hb:Tks L O0 S Q O w)(hi:ops[i]?=some oi:=by rfl)(hk:(Region.noSelect ops && Region.free md ops listed i &&(Region.ready md ops listed).contains i)=true:=by kernel_rfl)(hw:Region.wanted oi (yielded ops a.tmps)=true:=by rfl)
 (hy:∀w,S w->(execOp a.eval oi).events P w #[]=#[]/\∀K:Result Next->Prop,K (.ok (.value v) w)->K ((execOp a.eval oi).run P w):=by intro _ hw;refine⟨by first|(simp[go_sem];done)|simp[*,go_sem],fun K hK=>?_⟩;go_simp;exact hK)
 (h:jU P main J (RX L) (DX L) fn ops md c Q O0 S fuel (listed.setIfInBounds i true) O (a.put oi.dst v) w):jU P main J (RX L) (DX L) fn ops md c Q O0 S (fuel+1) listed O a w:=
 AR hb hi hk hw (fun O w _ y=>⟨(hy w y).2,by rw[listed_nil (hy w y).1];exact DX.idle _ _⟩) h
def YR(hb:Tks L O0 S Q O w)(hi:ops[i]?=some oi)(hk:(Region.noSelect ops && Region.free md ops listed i &&(Region.ready md ops listed).contains i)=true)(hw:Region.wanted oi (yielded ops a.tmps)=false)
 (h:jU P main J (RX L) (DX L) fn ops md c Q O0 S fuel (listed.setIfInBounds i true) O (a.put oi.dst undef) w):jU P main J (RX L) (DX L) fn ops md c Q O0 S (fuel+1) listed O a w:=by simp only[Bool.and_eq_true]at hk;exact uF (aF L) hb.sr hb.qr hi hk.1.1 hk.1.2 hk.2 (.inr ⟨hw,rfl⟩) hb.ow hb.st h
end
end
section
open Go Go.Conc
section
variable {P:aB}{main:Bool}{J:Jm}{R:uA}{D:uB}{fn:ay}{Q:ep}{O:aI}{a:Act}{w:af}{n:Nat}
def Mc{args:Array aD}{ats:Array az}(hop:o.op=.call {callee:=.value x,args,argTypes:=ats})(hx:a.eval x=.func (.func f) #[] cap)
 (hf:P.funcs[f]?=some fn') (hname:(fn'.name == "runtime.NumGoroutine")=false) (hb:fn'.body.isNone=false) (w:af):
 (execOp a.eval o).run P w=.ok (.enter f (args.map a.eval++cap)) w/\(execOp a.eval o).events P w #[]=#[]:=by
 have h1:¬fn'.name= "runtime.NumGoroutine" :=by simpa using hname
 have h2:¬fn'.body=none:=fun e=>by rw[e]at hb;cases hb
 unfold execOp;simp[hop,resolve,Deferred.ofValue,hx,invoke,callFunc,hf,h1,h2]
def Gy(T:bY R D){rest:List Nat}{args:Array aD}{ats:Array az}{Post:aI->aj->af->Prop}
 (ho:ops[i]?=some o) (hw:Region.wanted o (yielded ops a.tmps)=true) (hop:o.op=.call {callee:=.value x,args,argTypes:=ats}) (hx:a.eval x=.func (.func f) #[] cap)
 (hcall:bE P main J R D f (args.map a.eval++cap) nf O w Post) (hnext:∀O' v w',Post O' v w'->bN P main J R D fn ops rest n Q O' (a.put o.dst v) w'):bN P main J R D fn ops (i :: rest) (n+nf+Du) Q O a w:=by
 intro b k cs Stop m hb hk hc;obtain⟨fn',c,n₀,dn,hle,hf,hname,hbody,hwp⟩:=hcall;have jh:∀v,(b.at a (.inRegion ops (i :: rest):: k)).finish v=b.at (a.put o.dst v) (.inRegion ops rest :: k):=fun v=>by rw[Frame.finish_at,ho];rfl
 have e:(m O.fu+n+n₀+dn+5)+1<=m O.fu+(n+nf+Du):=by unfold Du;omega
 refine cD.mono ?_ e;have hbn:fn'.body.isNone=false:=by rw[hbody];rfl
 refine cD.step rfl fun w₁ h₁=>?_;obtain⟨hr,hev⟩:=Mc (P:=P) hop hx hf hname hbn w₁;rw[stepG_enter ho hw hk hr,enter_at _ hf hbody];have hl:listed P b.fn a o w₁=#[]:=listed_nil hev;rw[hl];refine⟨T.idle _ _,?_⟩;rw[O.dz rfl];refine cD.rely T (cD.body (m:=fun j=>m j+n) T hf hwp fun O' v w' hp=>?_) h₁;rw[jh];exact hnext O' v w' hp b k cs Stop m hb hk hc
end
end
section
open Go Go.Conc Go.ConcM
def wK:Lk->Nat->Nat
 |.uy,m=>if m=1 then 0 else 1
 |.hold,m=>if m=5\/m=1 then 1 else 0
 |.out,m=>if m=1 then 1 else 0
 |_,_=>1
def gD:Lk->Nat
 |.hold=>5
 |.out=>1
 |_=>0
def gf(T:Lk)(m:Nat)(x:Wd)(v:Nat):List ((Lk×Nat)×Wd×Nat):=
 if T=.uy/\m=1 then [((.uy,0),x,v)]
 else if T=.hold/\2<=m then [((.hold,m-1),x,v)]
 else if T=.out/\m=1 then [((.out,0),x,v)]
 else(gH T x v).map fun r=>((r.1,gD r.1),r.2)
structure dU(pb:Nat)(x:Wd)(v:Nat)(w:af):Prop where
 word:w.cell? ⟨pb,0,none⟩=some (.int .i32 (x.val:Nat))
 sema:w.cell? ⟨pb,1,none⟩=some (.int .u32 (v:Nat))
 thaw:∀o,w.frozen? ⟨pb,o,none⟩=false
structure bu(pb:Nat)(w w':af):Prop where
 tape:w'.tape=w.tape
 output:w'.output=w.output
 os:OsLater w.os w'.os
 size:w'.heap.size=w.heap.size
 other:∀i,i≠pb->w'.heap[i]?=w.heap[i]?
 here:∀c e f,w.heap[pb]?=some (.cells c e f)->∃c',w'.heap[pb]?=some (.cells c' e f)/\c'.size=c.size/\∀j,2<=j->c'[j]?=c[j]?
def bu.refl(pb:Nat)(w:af):bu pb w w:=⟨rfl,rfl,.refl _,rfl,fun _ _=>rfl,fun c _ _ h=>⟨c,h,rfl,fun _ _=>rfl⟩⟩
def bu.later(pb:Nat)(w:af):bu pb w w.later:=⟨rfl,rfl,⟨w.tick,rfl⟩,rfl,fun _ _=>rfl,fun c _ _ h=>⟨c,h,rfl,fun _ _=>rfl⟩⟩
def bu.asked(pb:Nat)(w:af):bu pb w w.asked:=⟨rfl,rfl,.refl _,rfl,fun _ _=>rfl,fun c _ _ h=>⟨c,h,rfl,fun _ _=>rfl⟩⟩
def bu.set(pb:Nat)(w:af)(o:Nat)(v:aj)(ho:o<2):bu pb w (w.setCell ⟨pb,o,none⟩ v):=by have A:=aside_setCell w ⟨pb,o,none⟩ v;refine⟨A.tape,A.output,by rw[A.os];exact .refl _,A.size,fun i hi=>A.block i hi,fun c e f h=>?_⟩;refine⟨c.setIfInBounds o v,by simp[World.setCell,Array.getElem?_modify,h],by simp,fun j hj=>?_⟩;rw[Array.getElem?_setIfInBounds_ne (by omega)]
def dU.m9{x y:Wd}{v:Nat}{w:af}(h:dU pb x v w):dU pb y v (w.setCell ⟨pb,0,none⟩ (.int .i32 (y.val:Nat))):=
 ⟨World.cell?_setCell_same _ _ _ h.word,by rw[World.cell?_setCell_other _ _ _ _ (by simp)];exact h.sema,fun o=>by rw[World.frozen?_setCell];exact h.thaw o⟩
def dU.sO{x:Wd}{v:Nat}{w:af}(h:dU pb x v w):dU pb x u (w.setCell ⟨pb,1,none⟩ (.int .u32 (u:Nat))):=
 ⟨by rw[World.cell?_setCell_other _ _ _ _ (by simp)];exact h.word,World.cell?_setCell_same _ _ _ h.sema,fun o=>by rw[World.frozen?_setCell];exact h.thaw o⟩
def Bk2(pb:Nat)(e:aC):Prop:=
 e.loc=.mark .disable\/e.loc=.mark .enable\/(∃a,(e.loc=.mark (.acquire a)\/e.loc=.mark (.releaseMerge a))/\a.block=pb)\/(∃a wr,e=⟨.cell a,wr,true⟩/\a.block=pb/\a.off<2/\a.spot=none)
structure WK(P:aB)(pb:Nat)(T:Lk)(m:Nat)(g g':au)(w w':af)(es:Array aC)(r:(Lk×Nat)×Wd×Nat):Prop where
 rep:dU pb r.2.1 r.2.2 w'
 Jl:bu pb w w'
 bk:∀e∈es,Bk2 pb e
 deaf:deafBehind (wK T m) es=wK r.1.1 r.1.2
 run:g'.status=.running
 aeQ:T=.tok\/T=.hand->mayWake P g=true
def iR(P:aB)(main:Bool)(pb:Nat):Jm where
 to O g w K:=∀T m x v,O.pos=.lk T m->dU pb x v w->x.c<=1000->v<=1000->(∀r∈gf T m x v,r.1.1≠.bad)->
  (gf T m x v= []->(∃sv ws,T=.gV sv ws)/\g.offers=none/\stepG P main g w=.go {g with status:=.blocked} w #[])/\
  (gf T m x v≠ []->∃g' w' es,stepG P main g w=.go g' w' es/\∃r∈gf T m x v,WK P pb T m g g' w w' es r/\K O.own (.lk r.1.1 r.1.2) g' w')
 mono:=by intro O g w K K' hK h T m x v h1 h2 h3 h4 h5;refine⟨(h T m x v h1 h2 h3 h4 h5).1,fun hne=>?_⟩;obtain⟨g',w',es,h6,r,h7,h8,h9⟩:=(h T m x v h1 h2 h3 h4 h5).2 hne;exact⟨g',w',es,h6,r,h7,h8,hK _ _ _ _ h9⟩
section
variable {P:aB}{main:Bool}{L:dY}{pb:Nat}{fn:ay}{Q:ep}{O:aI}{a:Act}{w:af}{n:Nat}{ops:Array Oper}{i:Nat}{rest:List Nat}{o:Oper}{T:Lk}{m:Nat}
def lz(hp:O.pos=.lk T m)
 (h:∀(b:ak) (k:List Item) (cs:List ak),b.fn=fn->b.kind≠.early->∀w₁ x v,RX L O w w₁->dU pb x v w₁->x.c<=1000->v<=1000->(∀r∈gf T m x v,r.1.1≠.bad)->
   (gf T m x v= []->(∃sv ws,T=.gV sv ws)/\stepG P main (G (b.at a (.inRegion ops (i :: rest):: k)) cs) w₁=.go {G (b.at a (.inRegion ops (i :: rest):: k)) cs with status:=.blocked} w₁ #[])/\
   (gf T m x v≠ []->∃a' w' es r n',stepG P main (G (b.at a (.inRegion ops (i :: rest):: k)) cs) w₁=.go (G (b.at a' (.inRegion ops rest :: k)) cs) w' es/\r∈gf T m x v/\dU pb r.2.1 r.2.2 w'/\bu pb w₁ w'/\(∀e∈es,Bk2 pb e)/\deafBehind (wK T m) es=wK r.1.1 r.1.2/\
     (T=.tok\/T=.hand->mayWake P (G (b.at a (.inRegion ops (i :: rest):: k)) cs)=true)/\bN P main (iR P main pb) (RX L) (DX L) fn ops rest n' Q (O.jump O.own (.lk r.1.1 r.1.2)) a' w')):
 bN P main (iR P main pb) (RX L) (DX L) fn ops (i :: rest) n Q O a w:=by refine pV fun b k cs hb hk w₁ h₁ T' m' x v ru h2 h3 h4 h5=>?_;rw[hp]at ru;cases ru;obtain⟨q1,q2⟩:=h b k cs hb hk w₁ x v h₁ h2 h3 h4 h5;refine⟨fun e=>⟨(q1 e).1,rfl,(q1 e).2⟩,fun e=>?_⟩;obtain⟨a',w',es,r,n',e1,e2,e3,e4,e5,e6,e7,e8⟩:=q2 e;exact⟨_,w',es,e1,r,e2,⟨e3,e4,e5,e6,rfl,e7⟩,rest,a',n',rfl,e8⟩
def jL(hp:O.pos=.lk T m){T':Lk}(wL:∀x v,gf T m x v= [((T',m'),x,v)])(hT:T≠.tok/\T≠.hand)
 (hs:∀(b:ak) (k:List Item) (cs:List ak),b.fn=fn->b.kind≠.early->∀w₁,stepG P main (G (b.at a (.inRegion ops (i :: rest):: k)) cs) w₁=.go (G (b.at a' (.inRegion ops rest :: k)) cs) w₁ es)
 (hes:∀e∈es,Bk2 pb e) (hd:deafBehind (wK T m) es=wK T' m') {n':Nat}
 (h:∀w₁,RX L O w w₁->bN P main (iR P main pb) (RX L) (DX L) fn ops rest n' Q (O.jump O.own (.lk T' m')) a' w₁):
 bN P main (iR P main pb) (RX L) (DX L) fn ops (i :: rest) n Q O a w:=by refine lz hp fun b k cs hb hk w₁ x v hR hM h3 h4 h5=>?_;rw[wL];refine⟨by simp,fun _=>⟨a',w₁,es,((T',m'),x,v),n',hs b k cs hb hk w₁,by simp,hM,bu.refl _ _,hes,hd,fun h=>(h.elim hT.1 hT.2).elim,h w₁ hR⟩⟩
def bk_dis(pb:Nat):∀e∈#[(⟨.mark .disable,false,true⟩:aC)],Bk2 pb e:=by intro e he;simp at he;subst he;exact .inl rfl
def bk_en(pb:Nat):∀e∈#[(⟨.mark .enable,false,true⟩:aC)],Bk2 pb e:=by intro e he;simp at he;subst he;exact .inr (.inl rfl)
def Ol(pb:Nat):∀e∈#[(⟨.mark (.acquire ⟨pb,0,none⟩),false,true⟩:aC)],Bk2 pb e:=by intro e he;simp at he;subst he;exact .inr (.inr (.inl ⟨_,.inl rfl,rfl⟩))
def WL(pb:Nat):∀e∈#[(⟨.mark (.releaseMerge ⟨pb,0,none⟩),false,true⟩:aC)],Bk2 pb e:=by intro e he;simp at he;subst he;exact .inr (.inr (.inl ⟨_,.inr rfl,rfl⟩))
def aeR(pb o:Nat)(ho:o<2):∀e∈#[(⟨.cell ⟨pb,o,none⟩,false,true⟩:aC)],Bk2 pb e:=by intro e he;simp at he;subst he;exact .inr (.inr (.inr ⟨_,_,rfl,rfl,ho,rfl⟩))
def bk_rw(pb o:Nat)(ho:o<2):∀e∈#[(⟨.cell ⟨pb,o,none⟩,false,true⟩:aC),⟨.cell ⟨pb,o,none⟩,true,true⟩],Bk2 pb e:=by intro e he;simp at he;rcases he with rfl|rfl<;>exact .inr (.inr (.inr ⟨_,_,rfl,rfl,ho,rfl⟩))
def bk_sem(pb o:Nat)(ho:o<2):∀e∈semEvents ⟨pb,o,none⟩,Bk2 pb e:=by
 intro e he;simp[semEvents]at he;rcases he with rfl|rfl|rfl|rfl
 ·exact .inl rfl
 ·exact .inr (.inr (.inr ⟨_,_,rfl,rfl,ho,rfl⟩))
 ·exact .inr (.inr (.inr ⟨_,_,rfl,rfl,ho,rfl⟩))
 ·exact .inr (.inl rfl)
def sP(hp:O.pos=.lk T m)(hT:T≠.tok/\T≠.hand)(Jc:wK T m=1){ats:Array az}{y z:aD}(ho:ops[i]?=some o)(hw:Region.wanted o (yielded ops a.tmps)=true)(hop:o.op=.call {callee:=.value (.func f),args:=#[x,y,z],argTypes:=ats})
 (hf:P.funcs[f]?=some fn') (hname:(fn'.name == "runtime.NumGoroutine")=false) (hb:fn'.body.isNone=true) (hn:Extern.findNext fn'=none) (he:Extern.find fn'=some (Extern.Atomic.casT (.int .i32)))
 {old nw:Wd} (hx:a.eval x=.pointer (some ⟨pb,0,none⟩)) (hy:a.eval y=.int .i32 (old.val:Nat)) (hz:a.eval z=.int .i32 (nw.val:Nat)) {T1 T2:Lk} {n1 n2:Nat}
 (aeS:∀v,(∀r∈gf T m old v,r.1.1≠.bad)->gf T m old v= [((T1,gD T1),nw,v)]) (aeT:∀x' v,x'≠old->(∀r∈gf T m x' v,r.1.1≠.bad)->gf T m x' v= [((T2,gD T2),x',v)]) (h1:wK T1 (gD T1)=1) (h2:wK T2 (gD T2)=1)
 (k1:∀w₁,RX L O w w₁->(∀v,dU pb old v w₁->(∀r∈gf T m old v,r.1.1≠.bad)->bN P main (iR P main pb) (RX L) (DX L) fn ops rest n1 Q (O.jump O.own (.lk T1 (gD T1))) (a.put o.dst (.bool true)) (w₁.setCell ⟨pb,0,none⟩ (.int .i32 (nw.val:Nat)))))
 (k2:∀w₁,RX L O w w₁->(∀x' v,x'≠old->dU pb x' v w₁->(∀r∈gf T m x' v,r.1.1≠.bad)->bN P main (iR P main pb) (RX L) (DX L) fn ops rest n2 Q (O.jump O.own (.lk T2 (gD T2))) (a.put o.dst (.bool false)) w₁)):
 bN P main (iR P main pb) (RX L) (DX L) fn ops (i :: rest) n Q O a w:=by
 refine lz hp fun b k cs hb' hk w₁ x' v hR hM h3 h4 h5=>?_;by_cases e:x'=old
 ·subst e;rw[aeS v h5];refine⟨by simp,fun _=>⟨_,_,_,((T1,gD T1),nw,v),n1,stepG_cas_hit ho hw hk hop hf hname hb hn .i32 he hx hy hz hM.word (hM.thaw 0),by simp,hM.m9,bu.set _ _ _ _ (by omega),bk_rw pb 0 (by omega),?_,fun h=>(h.elim hT.1 hT.2).elim,k1 w₁ hR v hM h5⟩⟩;rw[Jc,h1];rfl
 ·rw[aeT x' v e h5];refine⟨by simp,fun _=>⟨_,_,_,((T2,gD T2),x',v),n2,stepG_cas_miss ho hw hk hop hf hname hb hn .i32 he hx hy hz hM.word (hM.thaw 0) (fun q=>e (Wd.val_inj (by exact_mod_cast q))),by simp,hM,bu.refl _ _,aeR pb 0 (by omega),?_,fun h=>(h.elim hT.1 hT.2).elim,k2 w₁ hR x' v e hM h5⟩⟩;rw[Jc,h2];rfl
def pW(hp:O.pos=.lk T m)(hT:T≠.tok/\T≠.hand)(Jc:wK T m=1){ats:Array az}{y:aD}(ho:ops[i]?=some o)(hw:Region.wanted o (yielded ops a.tmps)=true)(hop:o.op=.call {callee:=.value (.func f),args:=#[x,y],argTypes:=ats})
 (hf:P.funcs[f]?=some fn') (hname:(fn'.name == "runtime.NumGoroutine")=false) (hb:fn'.body.isNone=true) (hn:Extern.findNext fn'=none) (he:Extern.find fn'=some (Extern.Atomic.update (Op.intArith .add) .i32 true))
 {d:Int} (hx:a.eval x=.pointer (some ⟨pb,0,none⟩)) (hy:a.eval y=.int .i32 d) {F:Wd->Lk} {G':Wd->Wd} {n1:Nat}
 (wL:∀x' v,x'.c<=1000->(∀r∈gf T m x' v,r.1.1≠.bad)->gf T m x' v= [((F x',gD (F x')),G' x',v)]/\IntKind.i32.wrap ((x'.val:Nat)+d)=((G' x').val:Nat)) (h1:∀x',wK (F x') (gD (F x'))=1)
 (k1:∀w₁,RX L O w w₁->(∀x' v,dU pb x' v w₁->x'.c<=1000->(∀r∈gf T m x' v,r.1.1≠.bad)->bN P main (iR P main pb) (RX L) (DX L) fn ops rest n1 Q (O.jump O.own (.lk (F x') (gD (F x')))) (a.put o.dst (.int .i32 ((G' x').val:Nat))) (w₁.setCell ⟨pb,0,none⟩ (.int .i32 ((G' x').val:Nat))))):
 bN P main (iR P main pb) (RX L) (DX L) fn ops (i :: rest) n Q O a w:=by refine lz hp fun b k cs hb' hk w₁ x' v hR hM h3 h4 h5=>?_;obtain⟨e1,e2⟩:=wL x' v h3 h5;rw[e1];have hst:=stepG_add_atomic (main:=main) (b:=b) (kk:=k) (cs:=cs) (rest:=rest) ho hw hk hop hf hname hb hn .i32 he hx hy hM.word (hM.thaw 0);rw[e2]at hst;refine⟨by simp,fun _=>⟨_,_,_,((F x',gD (F x')),G' x',v),n1,hst,by simp,hM.m9,bu.set _ _ _ _ (by omega),bk_rw pb 0 (by omega),?_,fun h=>(h.elim hT.1 hT.2).elim,k1 w₁ hR x' v hM h3 h5⟩⟩;rw[Jc,h1];rfl
def uz(hp:O.pos=.lk T m)(hT:T≠.tok/\T≠.hand)(ho:ops[i]?=some o)(hw:Region.wanted o (yielded ops a.tmps)=true)
 (hrun:∀w₁ x',w₁.cell? ⟨pb,0,none⟩=some (.int .i32 x')->(execOp a.eval o).run P w₁=.ok (.value (.int .i32 x')) w₁) (hev:∀w₁ x',w₁.cell? ⟨pb,0,none⟩=some (.int .i32 x')->listed P fn a o w₁=#[]) {F:Wd->Lk} {n1:Nat} {mm:Wd->Nat}
 (wL:∀x' v,x'.c<=1000->(∀r∈gf T m x' v,r.1.1≠.bad)->gf T m x' v= [((F x',mm x'),x',v)]) (h1:∀x',wK (F x') (mm x')=wK T m)
 (k1:∀w₁,RX L O w w₁->(∀x' v,dU pb x' v w₁->x'.c<=1000->(∀r∈gf T m x' v,r.1.1≠.bad)->bN P main (iR P main pb) (RX L) (DX L) fn ops rest n1 Q (O.jump O.own (.lk (F x') (mm x'))) (a.put o.dst (.int .i32 (x'.val:Nat))) w₁)):
 bN P main (iR P main pb) (RX L) (DX L) fn ops (i :: rest) n Q O a w:=by refine lz hp fun b k cs hb' hk w₁ x' v hR hM h3 h4 h5=>?_;rw[wL x' v h3 h5];have hst:=stepG_value (main:=main) (b:=b) (k:=k) (cs:=cs) (rest:=rest) ho hw hk (hrun w₁ _ hM.word);rw[hb',hev w₁ _ hM.word]at hst;refine⟨by simp,fun _=>⟨_,_,_,((F x',mm x'),x',v),n1,hst,by simp,hM,bu.refl _ _,by simp,?_,fun h=>(h.elim hT.1 hT.2).elim,k1 w₁ hR x' v hM h3 h5⟩⟩;rw[h1];rfl
def KE(hp:O.pos=.lk T m)(hT:T=.gV sv ws)(hm:m=0){ats:Array az}(ho:ops[i]?=some o)(hw:Region.wanted o (yielded ops a.tmps)=true)(hop:o.op=.call {callee:=.value (.func f),args:=as,argTypes:=ats})
 (hf:P.funcs[f]?=some fn') (hname:(fn'.name == "runtime.NumGoroutine")=false) (hb:fn'.body.isNone=true) (hn:Extern.findNext fn'=none) (he:Extern.find fn'=some Extern.Sync.semacquire)
 (hx:(as.map a.eval)[0]?=some (.pointer (some ⟨pb,1,none⟩))) {n1:Nat}
 (k1:∀w₁,RX L O w w₁->(∀x' v,dU pb x' (v+1) w₁->bN P main (iR P main pb) (RX L) (DX L) fn ops rest n1 Q (O.jump O.own (.lk (if sv then .wk true ws else .t2 ws) 0)) (a.put o.dst (.tuple #[])) (w₁.setCell ⟨pb,1,none⟩ (.int .u32 (v:Nat))))):
 bN P main (iR P main pb) (RX L) (DX L) fn ops (i :: rest) n Q O a w:=by
 subst hT hm;refine lz hp fun b k cs hb' hk w₁ x' v hR hM h3 h4 h5=>?_;cases v with
 |zero=>exact⟨fun _=>⟨⟨_,_,rfl⟩,stepG_semacquire_wait ho hw hop hf hname hb hn he hx hM.sema⟩,fun h=>by simp[gf,gH]at h⟩
 |succ v=>
  refine⟨fun h=>by simp[gf,gH]at h,fun _=>?_⟩;have hst:=stepG_semacquire (main:=main) (b:=b) (kk:=k) (cs:=cs) (rest:=rest) ho hw hk hop hf hname hb hn he hx hM.sema (by simp;omega) (hM.thaw 1);have e:(((v+1:Nat):Int)-1)=((v:Nat):Int):=by omega
  rw[e]at hst;refine⟨_,_,_,((if sv then .wk true ws else .t2 ws,0),x',v),n1,hst,by cases sv<;>simp[gf,gH,gD],hM.sO,bu.set _ _ _ _ (by omega),bk_sem pb 1 (by omega),?_,fun h=>by simp at h,k1 w₁ hR x' v hM⟩;cases sv<;>rfl
def AL(hp:O.pos=.lk T m)(hT:T=.tok\/T=.hand)(hm:m=0){ats:Array az}(ho:ops[i]?=some o)(hw:Region.wanted o (yielded ops a.tmps)=true)(hop:o.op=.call {callee:=.value (.func f),args:=as,argTypes:=ats})
 (hf:P.funcs[f]?=some fn') (hname:(fn'.name == "runtime.NumGoroutine")=false) (hb:fn'.body.isNone=true) (hn:Extern.findNext fn'=none) (he:Extern.find fn'=some Extern.Sync.semrelease)
 (hx:(as.map a.eval)[0]?=some (.pointer (some ⟨pb,1,none⟩))) {n1:Nat}
 (k1:∀w₁,RX L O w w₁->(∀x' v,dU pb x' v w₁->bN P main (iR P main pb) (RX L) (DX L) fn ops rest n1 Q (O.jump O.own (.lk .out 1)) (a.put o.dst (.tuple #[])) (w₁.setCell ⟨pb,1,none⟩ (.int .u32 (v+1:Nat))))):
 bN P main (iR P main pb) (RX L) (DX L) fn ops (i :: rest) n Q O a w:=by
 subst hm;refine lz hp fun b k cs hb' hk w₁ x' v hR hM h3 h4 h5=>?_;have e1:gf T 0 x' v= [((.out,1),x',v+1)]:=by rcases hT with rfl|rfl<;>simp[gf,gH,gD]
 rw[e1];have hst:=stepG_semrelease (main:=main) (b:=b) (kk:=k) (cs:=cs) (rest:=rest) ho hw hk hop hf hname hb hn he hx hM.sema (hM.thaw 1);have e:IntKind.u32.wrap (((v:Nat):Int)+1)=((v+1:Nat):Int):=by have WM:IntKind.u32.bits=32:=rfl;simp[IntKind.wrap,WM];omega
 rw[e]at hst;refine⟨by simp,fun _=>⟨_,_,_,((.out,1),x',v+1),n1,hst,by simp,hM.sO,bu.set _ _ _ _ (by omega),bk_sem pb 1 (by omega),by rcases hT with rfl|rfl<;>rfl,fun _=>?_,k1 w₁ hR x' v hM⟩⟩;have ef:(b.at a (.inRegion ops (i :: rest):: k)).eval (.func f)=.func (.func f) #[] #[]:=rfl;have j9:fn'.body=none:=by simpa using hb
 simp[mayWake,G,Frame.at,ho,hop]at ef⊢;simp[ef,hf,j9]
def AM(hp:O.pos=.lk T m)(hT:T≠.tok/\T≠.hand){ats:Array az}(ho:ops[i]?=some o)(hw:Region.wanted o (yielded ops a.tmps)=true)(hop:o.op=.call {callee:=.value (.func f),args:=as,argTypes:=ats})
 (hf:P.funcs[f]?=some fn') (hname:(fn'.name == "runtime.NumGoroutine")=false) (hb:fn'.body.isNone=true) (hn:Extern.findNext fn'=none) (he:Extern.find fn'=some Extern.OsHooks.nano) (hq:fn'.norace=true)
 {F:Int->Lk} (wL:∀x' v t,((F t,0),x',v)∈gf T m x' v) (h1:∀t,wK (F t) 0=wK T m) {n1:Nat}
 (k1:∀w₁,RX L O w w₁->∀t:Int,bN P main (iR P main pb) (RX L) (DX L) fn ops rest n1 Q (O.jump O.own (.lk (F t) 0)) (a.put o.dst (.int .i64 t)) w₁.later):
 bN P main (iR P main pb) (RX L) (DX L) fn ops (i :: rest) n Q O a w:=by refine lz hp fun b k cs hb' hk w₁ x' v hR hM h3 h4 h5=>?_;refine⟨fun e=>absurd (wL x' v 0) (by rw[e];simp),fun _=>?_⟩;refine⟨_,_,_,((F ((w₁.os.mono+w₁.tick:Nat):Int),0),x',v),n1,stepG_nanotime ho hw hk hop hf hname hb hn he hq,wL x' v _,⟨hM.word,hM.sema,hM.thaw⟩,bu.later _ _,by simp,?_,fun h=>(h.elim hT.1 hT.2).elim,k1 w₁ hR _⟩;rw[h1];rfl
end
end
section
open Go
def or8(n m:Nat)(hm:m<8):n |||m=8*(n / 8)+(n % 8 |||m):=by
 have h1:(n |||m)/ 2 ^ 3=n / 2 ^ 3 |||m / 2 ^ 3:=Nat.or_div_two_pow;have h2:(n |||m)% 2 ^ 3=n % 2 ^ 3 |||m % 2 ^ 3:=Nat.or_mod_two_pow;have h3:m / 2 ^ 3=0:=by omega
 have h4:m % 2 ^ 3=m:=by omega
 rw[h3,Nat.or_zero]at h1;rw[h4]at h2;have:=Nat.div_add_mod (n |||m) (2 ^ 3);simp only[show (2:Nat)^ 3=8 from rfl]at *;omega
def aeP(n m:Nat)(hm:m<8):n &&& m=(n % 8)&&& m:=by
 have h1:(n &&& m)/ 2 ^ 3=n / 2 ^ 3 &&& m / 2 ^ 3:=Nat.and_div_two_pow;have h2:(n &&& m)% 2 ^ 3=n % 2 ^ 3 &&& m % 2 ^ 3:=Nat.and_mod_two_pow;have h3:m / 2 ^ 3=0:=by omega
 have h4:m % 2 ^ 3=m:=by omega
 rw[h3,Nat.and_zero]at h1;rw[h4]at h2;have:=Nat.div_add_mod (n &&& m) (2 ^ 3);simp only[show (2:Nat)^ 3=8 from rfl]at *;omega
def wrap32(h:n<2147483648):IntKind.i32.wrap (n:Int)=(n:Int):=by have hb:IntKind.i32.bits=32:=rfl;simp[IntKind.wrap,hb];omega
def ofInt32(n:Nat):BitVec.ofInt 32 (n:Int)=BitVec.ofNat 32 n:=by simp
def SG(hn:n<1073741824)(hm:m<8):bits .or .i32 (n:Int) (m:Int)=((8*(n / 8)+(n % 8 |||m):Nat):Int):=by
 show IntKind.i32.wrap (((BitVec.ofInt 32 (n:Int)|||BitVec.ofInt 32 (m:Int)).toNat:Nat):Int)=_;have e:(BitVec.ofInt 32 (n:Int)|||BitVec.ofInt 32 (m:Int)).toNat=n |||m:=by rw[ofInt32,ofInt32,BitVec.toNat_or,BitVec.toNat_ofNat,BitVec.toNat_ofNat,za2 (by omega),za2 (by omega)]
 rw[e,or8 n m hm];have:n % 8 |||m<8:=Nat.or_lt_two_pow (n:=3) (by omega) (by omega);exact wrap32 (by omega)
def Oi(hn:n<1073741824)(hm:m<8):bits .and .i32 (n:Int) (m:Int)=((n % 8 &&& m:Nat):Int):=by
 show IntKind.i32.wrap (((BitVec.ofInt 32 (n:Int)&&& BitVec.ofInt 32 (m:Int)).toNat:Nat):Int)=_;have e:(BitVec.ofInt 32 (n:Int)&&& BitVec.ofInt 32 (m:Int)).toNat=n &&& m:=by rw[ofInt32,ofInt32,BitVec.toNat_and,BitVec.toNat_ofNat,BitVec.toNat_ofNat,za2 (by omega),za2 (by omega)]
 rw[e,aeP n m hm];have:n % 8 &&& m<=m:=Nat.and_le_right;exact wrap32 (by omega)
def B1(hn:n<1073741824):bits .andNot .i32 (n:Int) 2=((8*(n / 8)+(n % 8 &&& 5):Nat):Int):=by
 show IntKind.i32.wrap (((BitVec.ofInt 32 (n:Int)&&& ~~~ BitVec.ofInt 32 (2:Int)).toNat:Nat):Int)=_;have e2:BitVec.ofInt 32 (2:Int)=BitVec.ofNat 32 2:=ofInt32 2;have e:(BitVec.ofInt 32 (n:Int)&&& ~~~ BitVec.ofInt 32 (2:Int)).toNat=n &&& 4294967293:=by rw[ofInt32,e2,BitVec.toNat_and,BitVec.toNat_not,BitVec.toNat_ofNat,BitVec.toNat_ofNat,za2 (by omega)]
 rw[e];have h1:(n &&& 4294967293)/ 2 ^ 3=n / 2 ^ 3 &&& 4294967293 / 2 ^ 3:=Nat.and_div_two_pow;have h2:(n &&& 4294967293)% 2 ^ 3=n % 2 ^ 3 &&& 4294967293 % 2 ^ 3:=Nat.and_mod_two_pow;have h3:4294967293 / 2 ^ 3=2 ^ 29-1:=by decide
 have h4:4294967293 % 2 ^ 3=5:=by decide
 rw[h3,Nat.and_two_pow_sub_one_eq_mod,za2 (by omega)]at h1;rw[h4]at h2;have h5:=Nat.div_add_mod (n &&& 4294967293) (2 ^ 3);have h6:n % 8 &&& 5<=5:=Nat.and_le_right;simp only[show (2:Nat)^ 3=8 from rfl]at h1 h2 h5;have h7:n &&& 4294967293=8*(n / 8)+(n % 8 &&& 5):=by omega
 rw[h7];exact wrap32 (by omega)
def Wd.B2(x:Wd):x.val / 8=x.c:=by obtain⟨l,w,s,c⟩:=x;cases l<;>cases w<;>cases s<;>simp[Wd.val,b1]<;>omega
def Wd.val_mod(x:Wd):x.val % 8=b1 x.l+2*b1 x.w+4*b1 x.s:=by obtain⟨l,w,s,c⟩:=x;cases l<;>cases w<;>cases s<;>simp[Wd.val,b1]<;>omega
def Wd.rj{x:Wd}(h:x.c<=1002):x.val<8100:=by obtain⟨l,w,s,c⟩:=x;cases l<;>cases w<;>cases s<;>simp[Wd.val,b1]at*<;>omega
def AK{x:Wd}(h:x.c<=1002)(m:Nat)(hm:m<8):bits .and .i32 (x.val:Nat) (m:Nat)=(((b1 x.l+2*b1 x.w+4*b1 x.s)&&& m:Nat):Int):=by rw[Oi (by have:=Wd.rj h;omega) hm,x.val_mod]
def Oj{x:Wd}(h:x.c<=1002):bits .and .i32 (x.val:Nat) 1=((b1 x.l:Nat):Int):=by have:=AK h 1 (by omega);obtain⟨l,w,s,c⟩:=x;cases l<;>cases w<;>cases s<;>simpa[b1]using this
def Ok{x:Wd}(h:x.c<=1002):bits .and .i32 (x.val:Nat) 2=((2*b1 x.w:Nat):Int):=by have:=AK h 2 (by omega);obtain⟨l,w,s,c⟩:=x;cases l<;>cases w<;>cases s<;>simpa[b1]using this
def WC{x:Wd}(h:x.c<=1002):bits .and .i32 (x.val:Nat) 3=((b1 x.l+2*b1 x.w:Nat):Int):=by have:=AK h 3 (by omega);obtain⟨l,w,s,c⟩:=x;cases l<;>cases w<;>cases s<;>simpa[b1]using this
def Gu{x:Wd}(h:x.c<=1002):bits .and .i32 (x.val:Nat) 4=((4*b1 x.s:Nat):Int):=by have:=AK h 4 (by omega);obtain⟨l,w,s,c⟩:=x;cases l<;>cases w<;>cases s<;>simpa[b1]using this
def Gv{x:Wd}(h:x.c<=1002):bits .and .i32 (x.val:Nat) 5=((b1 x.l+4*b1 x.s:Nat):Int):=by have:=AK h 5 (by omega);obtain⟨l,w,s,c⟩:=x;cases l<;>cases w<;>cases s<;>simpa[b1]using this
def WE{x:Wd}(h:x.c<=1002):bits .and .i32 (x.val:Nat) 7=((b1 x.l+2*b1 x.w+4*b1 x.s:Nat):Int):=by have:=AK h 7 (by omega);obtain⟨l,w,s,c⟩:=x;cases l<;>cases w<;>cases s<;>simpa[b1]using this
def WG{x:Wd}(h:x.c<=1002)(m:Nat)(hm:m<8):bits .or .i32 (x.val:Nat) (m:Nat)=((8*x.c+((b1 x.l+2*b1 x.w+4*b1 x.s)|||m):Nat):Int):=by rw[SG (by have:=Wd.rj h;omega) hm,x.val_mod,x.B2]
def Z3{x:Wd}(h:x.c<=1002):bits .or .i32 (x.val:Nat) 1=((({x with l:=true}:Wd).val:Nat):Int):=by have:=WG h 1 (by omega);obtain⟨l,w,s,c⟩:=x;cases l<;>cases w<;>cases s<;>simp[b1,Wd.val]at this⊢<;>rw[this]<;>omega
def UW{x:Wd}(h:x.c<=1002):bits .or .i32 (x.val:Nat) 2=((({x with w:=true}:Wd).val:Nat):Int):=by have:=WG h 2 (by omega);obtain⟨l,w,s,c⟩:=x;cases l<;>cases w<;>cases s<;>simp[b1,Wd.val]at this⊢<;>rw[this]<;>omega
def Z4{x:Wd}(h:x.c<=1002):bits .or .i32 (x.val:Nat) 4=((({x with s:=true}:Wd).val:Nat):Int):=by have:=WG h 4 (by omega);obtain⟨l,w,s,c⟩:=x;cases l<;>cases w<;>cases s<;>simp[b1,Wd.val]at this⊢<;>rw[this]<;>omega
def WH{x:Wd}(h:x.c<=1002):bits .andNot .i32 (x.val:Nat) 2=((({x with w:=false}:Wd).val:Nat):Int):=by rw[B1 (by have:=Wd.rj h;omega),x.val_mod,x.B2];obtain⟨l,w,s,c⟩:=x;cases l<;>cases w<;>cases s<;>simp[b1,Wd.val]<;>omega
def WI{x:Wd}(h:x.c<=1002):IntKind.i32.wrap ((x.val:Nat)+8)=((({x with c:=x.c+1}:Wd).val:Nat):Int):=by
 have h1:=Wd.rj h;have h2:=wrap32 (n:=x.val+8) (by omega);have h3:({x with c:=x.c+1}:Wd).val=x.val+8:=by simp[Wd.val];omega
 rw[h3];push_cast at h2⊢;exact h2
def Ec(x:Wd):((x.val:Nat):Int)/ 2 ^(3:Int).toNat=((x.c:Nat):Int):=by have:=x.B2;show ((x.val:Nat):Int)/ 8=_;omega
end
section
open Go Go.Conc Go.ConcM
structure SS(L:dY)(pb:Nat):Prop where
 fx:¬L.Fx pb
 fc:∀a,L.ny a->a.block=pb->2<=a.off
 mn:∀a,L.Mn a->a.block≠pb
 sh:L.Sh pb
 lo:pb<L.N
 wg:L.Wg≠pb
section
variable {P:aB}{main:Bool}{L:dY}{pb:Nat}{O O0:aI}{w w0 w₁ w':af}
def RX.SU(hL:SS L pb)(hO:¬O.own pb)(hb:∃c t f,w.heap[pb]?=some (.cells c t f))(e:bu pb w w'):RX L O w w':=by
 obtain⟨c,t,f,hb⟩:=hb;obtain⟨c',h1,h2,h3⟩:=e.here c t f hb;have GB:∀a:aA,(a.block=pb->2<=a.off)->w'.cell? a=w.cell? a:=fun a ha=>by
  by_cases h:a.block=pb
  ·simp[World.cell?,h,hb,h1,h3 a.off (ha h)]
  ·simp[World.cell?,e.other a.block h]
 refine⟨Nat.le_of_eq e.size.symm,fun i _ hi=>e.other i fun h=>?_,fun a ha=>GB a (hL.fc a ha),fun a ha=>?_,fun i c t f hi hc=>?_,fun⟨st,sm,h⟩=>⟨st,sm,(e.other _ hL.wg).trans h⟩⟩
 ·subst h;exact hi.elim hO hL.fx
 ·have:=hL.mn a ha;exact⟨GB a fun h=>absurd h this,by simp[World.frozen?,e.other a.block this]⟩
 ·by_cases h:i=pb
  ·subst h;obtain⟨c',h1,h2,_⟩:=e.here c t f hc;exact⟨c',h1,h2⟩
  ·exact⟨c,(e.other i h).trans hc,rfl⟩
structure dB(L:dY)(O0:aI)(w0:af)(pb k:Nat)(T:Lk)(m:Nat)(O:aI)(w:af):Prop where
 fr:qn L O0 w0 O w
 ok:SS L pb
 pos:O.pos=.lk T m
 no:¬O.own pb
 fu:O.fu<=k
 sh:∃c t f,w.heap[pb]?=some (.cells c t f)/\0<c.size
def dB.rely{k:Nat}{T:Lk}{m:Nat}(h:dB L O0 w0 pb k T m O w)(r:RX L O w w₁):dB L O0 w0 pb k T m O w₁:=
 ⟨h.fr.rely r,h.ok,h.pos,h.no,h.fu,by obtain⟨c,t,f,h1,h2⟩:=h.sh;obtain⟨c',h3,h4⟩:=r.sh pb c t f h.ok.sh h1;exact⟨c',t,f,h3,by omega⟩⟩
def dB.jump{k:Nat}{T T':Lk}{m m':Nat}(h:dB L O0 w0 pb k T m O w)(e:bu pb w w'):dB L O0 w0 pb (k-1) T' m' (O.jump O.own (.lk T' m')) w':=by obtain⟨c,t,f,h1,h2⟩:=h.sh;have r:=RX.SU h.ok h.no ⟨c,t,f,h1⟩ e;obtain⟨c',h3,h4,_⟩:=e.here c t f h1;have q:=h.fr.rely r;refine⟨⟨q.base,q.own,q.rel,q.new⟩,h.ok,rfl,h.no,?_,c',t,f,h3,by omega⟩;have:=h.fu;simp only[aI.jump];omega
def dB.weak{k:Nat}{T:Lk}(h:dB L O0 w0 pb k T m O w)(hk:k<=k'):dB L O0 w0 pb k' T m O w:=⟨h.fr,h.ok,h.pos,h.no,zaz h.fu hk,h.sh⟩
def dB.cell{k:Nat}{T:Lk}{m:Nat}(h:dB L O0 w0 pb k T m O w):∃v,w.cell? ⟨pb,0,none⟩=some v:=by obtain⟨c,t,f,h1,h2⟩:=h.sh;exact⟨c[0],by simp[World.cell?,h1,h2]⟩
end
section
variable {P:aB}{main:Bool}{L:dY}{pb:Nat}{fn:ay}{Q:ep}{O:aI}{a:Act}{w:af}{n:Nat}{ops:Array Oper}{i:Nat}{rest:List Nat}{o:Oper}
def KR{old:Wd}{aw:Bool}(hp:O.pos=.lk (.zL old aw sv it ws) 0){ats:Array az}(ho:ops[i]?=some o)(hw:Region.wanted o (yielded ops a.tmps)=true)(hop:o.op=.call {callee:=.value (.func f),args:=as,argTypes:=ats})
 (hf:P.funcs[f]?=some fn') (hname:(fn'.name == "runtime.NumGoroutine")=false) (hb:fn'.body.isNone=true) (hn:Extern.findNext fn'=none) (he:Extern.find fn'=some Extern.Sync.canSpin)
 (hx:as.map a.eval=#[.int .i64 (it:Nat)]) {n1:Nat}
 (k1:∀w₁ w',RX L O w w₁->bu pb w₁ w'->∀b:Bool,(b=true->it<4)->bN P main (iR P main pb) (RX L) (DX L) fn ops rest n1 Q (O.jump O.own (.lk (if b then(if aw=false/\old.w=false/\old.c≠0 then .cw old sv it ws else .rd aw sv (it+1) ws)else .rz old aw sv it ws) 0)) (a.put o.dst (.bool b)) w'):
 bN P main (iR P main pb) (RX L) (DX L) fn ops (i :: rest) n Q O a w:=by
 refine lz hp fun b k cs hb' hk w₁ x' v hR hM h3 h4 h5=>⟨fun h=>by simp[gf,gH]at h,fun _=>?_⟩
 have hin:∀b:Bool,(b=true->it<4)->(((if b then(if aw=false/\old.w=false/\old.c≠0 then Lk.cw old sv it ws else .rd aw sv (it+1) ws)else .rz old aw sv it ws,0),x',v):(Lk×Nat)×Wd×Nat)∈gf (.zL old aw sv it ws) 0 x' v:=by
  intro b hb;cases b with
  |false=>simp[gf,gH,gD]
  |true=>
   have h4:=hb rfl;by_cases hc:aw=false/\old.w=false/\old.c≠0
   ·simp[gf,gH,gD,h4,hc]
   ·simp[gf,gH,gD,h4,hc]
 have Jc:∀b:Bool,wK (if b then(if aw=false/\old.w=false/\old.c≠0 then Lk.cw old sv it ws else .rd aw sv (it+1) ws)else .rz old aw sv it ws) 0=1:=by intro b;by_cases hc:aw=false/\old.w=false/\old.c≠0<;>cases b<;>simp[hc,wK]
 by_cases hit:it<4
 ·refine⟨_,_,_,_,n1,stepG_canSpin_ask ho hw hk hop hf hname hb hn he hx (by omega),hin w₁.spins fun _=>hit,⟨hM.word,hM.sema,hM.thaw⟩,bu.asked _ _,by simp,?_,fun h=>by simp at h,k1 w₁ _ hR (bu.asked _ _) _ fun _=>hit⟩;rw[Jc];rfl
 ·refine⟨_,_,_,_,n1,stepG_canSpin_no ho hw hk hop hf hname hb hn he hx (by omega),hin false (by simp),hM,bu.refl _ _,by simp,?_,fun h=>by simp at h,k1 w₁ _ hR (bu.refl _ _) false (by simp)⟩;rw[Jc];rfl
def eT{J:Jm}{R:uA}{D:uB}{c:Code}(p:Prop)(h:p->cR P main J R D fn c n₁ Q O a w)(h':¬p->cR P main J R D fn c n₂ Q O a w):cR P main J R D fn c (max n₁ n₂) Q O a w:=by
 by_cases hp:p
 ·exact oO (h hp) (Nat.le_max_left _ _)
 ·exact oO (h' hp) (Nat.le_max_right _ _)
def OA{todo:List Nat}{T:Lk}(hp:O.pos=.lk T m)(hb:∀x v,∃r∈gf T m x v,r.1.1=.bad):bN P main (iR P main pb) (RX L) (DX L) fn ops todo n Q O a w:=by refine pV fun b k cs _ _ w₁ _ T' m' x v ru _ _ _ h5=>?_;rw[hp]at ru;cases ru;obtain⟨r,h1,h2⟩:=hb x v;exact absurd h2 (h5 r h1)
end
def oK(T:Array aj)(n:Nat)(h:T.size=n):T=((List.range n).map fun i=>T.toList.getD i undef).toArray:=by
 apply Array.ext';apply List.ext_getElem
 ·simp[h]
 ·intro i h1 h2;simp at h1;simp[h1]
def uC{l:(Nat->aj)->Array aj}(hd:a.defers=ds)(h:a.tmps=l fun i=>a.tmps.toList.getD i undef):∃f:Nat->aj,a=⟨l f,ds⟩/\∀i v,a.tmps[i]?=some v->f i=v:=
 ⟨_,by rw[<-h,<-hd],fun i v hv=>by simp[hv]⟩
def B8(hd:a.defers=ds)(h:a.tmps.size=139):∃f:Nat->aj,a=⟨#[f 0,f 1,f 2,f 3,f 4,f 5,f 6,f 7,f 8,f 9,f 10,f 11,f 12,f 13,f 14,f 15,f 16,f 17,f 18,f 19,f 20,f 21,f 22,f 23,f 24,f 25,f 26,f 27,f 28,f 29,f 30,f 31,f 32,f 33,f 34,f 35,f 36,f 37,f 38,f 39,f 40,f 41,f 42,f 43,f 44,f 45,f 46,f 47,f 48,f 49,f 50,f 51,f 52,f 53,f 54,f 55,f 56,f 57,f 58,f 59,f 60,f 61,f 62,f 63,f 64,f 65,f 66,f 67,f 68,f 69,f 70,f 71,f 72,f 73,f 74,f 75,f 76,f 77,f 78,f 79,f 80,f 81,f 82,f 83,f 84,f 85,f 86,f 87,f 88,f 89,f 90,f 91,f 92,f 93,f 94,f 95,f 96,f 97,f 98,f 99,f 100,f 101,f 102,f 103,f 104,f 105,f 106,f 107,f 108,f 109,f 110,f 111,f 112,f 113,f 114,f 115,f 116,f 117,f 118,f 119,f 120,f 121,f 122,f 123,f 124,f 125,f 126,f 127,f 128,f 129,f 130,f 131,f 132,f 133,f 134,f 135,f 136,f 137,f 138],ds⟩/\∀i v,a.tmps[i]?=some v->f i=v:=uC hd (oK a.tmps 139 h)
def vm(hd:a.defers=ds)(h:a.tmps.size=43):∃f:Nat->aj,a=⟨#[f 0,f 1,f 2,f 3,f 4,f 5,f 6,f 7,f 8,f 9,f 10,f 11,f 12,f 13,f 14,f 15,f 16,f 17,f 18,f 19,f 20,f 21,f 22,f 23,f 24,f 25,f 26,f 27,f 28,f 29,f 30,f 31,f 32,f 33,f 34,f 35,f 36,f 37,f 38,f 39,f 40,f 41,f 42],ds⟩/\∀i v,a.tmps[i]?=some v->f i=v:=uC hd (oK a.tmps 43 h)
end
section
open Go Go.Conc Go.ConcM
def bU(tw:az)(Wg:Nat)(x:Gw)(w:af):Prop:=w.heap[Wg]?=some (.cells #[.int .u64 ((x.v*4294967296+b1 x.wt:Nat):Int),.int .u32 ((x.sm:Nat):Int)] tw)
def KG:Ct->Nat
 |.sp _|.go _|.aq|.rt=>0
 |_=>1
def KH(Wg:Nat)(e:aC):Prop:=
 e.loc=.mark .disable\/e.loc=.mark .enable\/e.loc=.mark (.acquire ⟨Wg,0,none⟩)\/e.loc=.mark (.read ⟨Wg,1,none⟩)\/e.loc=.mark (.write ⟨Wg,1,none⟩)\/∃a wr,e=⟨.cell a,wr,true⟩/\a.block=Wg
structure Z8(tw:az)(Wg:Nat)(c:Ct)(g':au)(w w':af)(es:Array aC)(r:Ct×Gw):Prop where
 rep:bU tw Wg r.2 w'
 Jl:bu Wg w w'
 bk:∀e∈es,KH Wg e
 deaf:deafBehind (KG c) es=KG r.1
 run:g'.status=.running
 acq:c=.aq->es=#[⟨.mark (.acquire ⟨Wg,0,none⟩),false,true⟩]
def iG(P:aB)(tw:az)(Wg:Nat)(bO:Nat->au->af->(Nat->Prop)->(Nat->Prop)->Prop):Jm where
 to O g w K:=∀c x,O.pos=.mn c->bU tw Wg x w->x.v<=1000->x.sm<=1000->(c.open=true->x.wt=false)->c≠.rt/\
  (∀r,c=.go r->∃g' child gy,stepG P true g w=.spawn g' child w #[]/\g'.status=.running/\bO r child w O.own gy/\K gy (.mn (.sp (r-1))) g' w)/\
  (c=.w3->x.sm=0->g.offers=none/\stepG P true g w=.go {g with status:=.blocked} w #[])/\
  (∀r,oM c x=some r->∃g' w' es,stepG P true g w=.go g' w' es/\Z8 tw Wg c g' w w' es r/\K O.own (.mn r.1) g' w')
 mono:=by
  intro O g w K K' hK h c x h1 h2 h3 h4 h5;obtain⟨q0,q1,q2,q3⟩:=h c x h1 h2 h3 h4 h5;refine⟨q0,fun r hr=>?_,q2,fun r hr=>?_⟩
  ·obtain⟨g',child,gy,p1,p2,p3,p4⟩:=q1 r hr;exact⟨g',child,gy,p1,p2,p3,hK _ _ _ _ p4⟩
  ·obtain⟨g',w',es,p1,p2,p3⟩:=q3 r hr;exact⟨g',w',es,p1,p2,hK _ _ _ _ p3⟩
structure SJ(L:dY):Prop where
 fx:¬L.Fx L.Wg
 fc:∀a,L.ny a->a.block≠L.Wg
 mn:∀a,L.Mn a->a.block≠L.Wg
 sh:L.Sh L.Wg
 lo:L.Wg<L.N
section
variable {P:aB}{L:dY}{O O0:aI}{w w0 w₁ w':af}
def bU.live{tw:az}{Wg:Nat}{x:Gw}(h:bU tw Wg x w):Dt tw Wg w:=⟨_,_,h⟩
def bU.word{tw:az}{Wg:Nat}{x:Gw}(h:bU tw Wg x w):w.cell? ⟨Wg,0,none⟩=some (.int .u64 ((x.v*4294967296+b1 x.wt:Nat):Int)):=by unfold bU at h;simp[World.cell?,h]
def bU.sema{tw:az}{Wg:Nat}{x:Gw}(h:bU tw Wg x w):w.cell? ⟨Wg,1,none⟩=some (.int .u32 ((x.sm:Nat):Int)):=by unfold bU at h;simp[World.cell?,h]
def bU.thaw{tw:az}{Wg:Nat}{x:Gw}(h:bU tw Wg x w)(o:Nat):w.frozen? ⟨Wg,o,none⟩=false:=by unfold bU at h;simp[World.frozen?,h]
def bU.m9{tw:az}{Wg:Nat}{x y:Gw}(h:bU tw Wg x w)(hs:y.sm=x.sm):bU tw Wg y (w.setCell ⟨Wg,0,none⟩ (.int .u64 ((y.v*4294967296+b1 y.wt:Nat):Int))):=by unfold bU at h⊢;simp[World.setCell,Array.getElem?_modify,h,hs]
def bU.sO{tw:az}{Wg:Nat}{x y:Gw}(h:bU tw Wg x w)(hv:y.v=x.v)(hw:y.wt=x.wt):bU tw Wg y (w.setCell ⟨Wg,1,none⟩ (.int .u32 ((y.sm:Nat):Int))):=by unfold bU at h⊢;simp[World.setCell,Array.getElem?_modify,h,hv,hw]
def RX.of_wg(hL:SJ L)(hO:¬O.own L.Wg)(hb':Dt L.tw L.Wg w')(e:bu L.Wg w w'):RX L O w w':=by
 refine⟨Nat.le_of_eq e.size.symm,fun i _ hi=>e.other i fun h=>?_,fun a ha=>?_,fun a ha=>?_,fun i c t f hi hc=>?_,fun _=>hb'⟩
 ·subst h;exact hi.elim hO hL.fx
 ·simp[World.cell?,e.other a.block (hL.fc a ha)]
 ·have:=hL.mn a ha;exact⟨by simp[World.cell?,e.other a.block this],by simp[World.frozen?,e.other a.block this]⟩
 ·by_cases h:i=L.Wg
  ·subst h;obtain⟨c',h1,h2,_⟩:=e.here c t f hc;exact⟨c',h1,h2⟩
  ·exact⟨c,(e.other i h).trans hc,rfl⟩
structure dM(L:dY)(O0:aI)(w0:af)(k:Nat)(c:Ct)(O:aI)(w:af):Prop where
 fr:qn L O0 w0 O w
 ok:SJ L
 pos:O.pos=.mn c
 no:¬O.own L.Wg
 fu:O.fu<=k
 live:Dt L.tw L.Wg w
def dM.rely{k:Nat}{c:Ct}(h:dM L O0 w0 k c O w)(r:RX L O w w₁):dM L O0 w0 k c O w₁:=⟨h.fr.rely r,h.ok,h.pos,h.no,h.fu,r.live h.live⟩
def dM.jump{k:Nat}{c c':Ct}{x:Gw}(h:dM L O0 w0 k c O w)(e:bu L.Wg w w')(hr:bU L.tw L.Wg x w'):dM L O0 w0 (k-1) c' (O.jump O.own (.mn c')) w':=by have r:=RX.of_wg h.ok h.no hr.live e;have q:=h.fr.rely r;refine⟨⟨q.base,q.own,q.rel,q.new⟩,h.ok,rfl,h.no,?_,hr.live⟩;have:=h.fu;simp only[aI.jump];omega
def dM.weak{k:Nat}{c:Ct}(h:dM L O0 w0 k c O w)(hk:k<=k'):dM L O0 w0 k' c O w:=⟨h.fr,h.ok,h.pos,h.no,zaz h.fu hk,h.live⟩
def dM.cell{k:Nat}{c:Ct}(h:dM L O0 w0 k c O w):(∃v,w.cell? ⟨L.Wg,0,none⟩=some v)/\∃v,w.cell? ⟨L.Wg,1,none⟩=some v:=by obtain⟨st,sm,hb⟩:=h.live;exact⟨⟨.int .u64 st,by simp[World.cell?,hb]⟩,⟨.int .u32 sm,by simp[World.cell?,hb]⟩⟩
end
section
variable {P:aB}{L:dY}{bO:Nat->au->af->(Nat->Prop)->(Nat->Prop)->Prop}{fn:ay}{Q:ep}{O:aI}{a:Act}{w:af}{n:Nat}{ops:Array Oper}{i:Nat}{rest:List Nat}{o:Oper}{c:Ct}
def sR(hp:O.pos=.mn c)(hgo:∀r,c≠.go r)(RR:c≠.rt)
 (h:∀(b:ak) (k:List Item) (cs:List ak),b.fn=fn->b.kind≠.early->∀w₁ x,RX L O w w₁->bU L.tw L.Wg x w₁->x.v<=1000->x.sm<=1000->(c.open=true->x.wt=false)->
   (c=.w3->x.sm=0->stepG P true (G (b.at a (.inRegion ops (i :: rest):: k)) cs) w₁=.go {G (b.at a (.inRegion ops (i :: rest):: k)) cs with status:=.blocked} w₁ #[])/\
   (∀r,oM c x=some r->∃a' w' es n',stepG P true (G (b.at a (.inRegion ops (i :: rest):: k)) cs) w₁=.go (G (b.at a' (.inRegion ops rest :: k)) cs) w' es/\bU L.tw L.Wg r.2 w'/\bu L.Wg w₁ w'/\(∀e∈es,KH L.Wg e)/\deafBehind (KG c) es=KG r.1/\(c=.aq->es=#[⟨.mark (.acquire ⟨L.Wg,0,none⟩),false,true⟩])/\
     bN P true (iG P L.tw L.Wg bO) (RX L) (DX L) fn ops rest n' Q (O.jump O.own (.mn r.1)) a' w')):
 bN P true (iG P L.tw L.Wg bO) (RX L) (DX L) fn ops (i :: rest) n Q O a w:=by refine pV fun b k cs hb hk w₁ h₁ c' x ru h2 h3 h4 h5=>?_;rw[hp]at ru;cases ru;obtain⟨q1,q2⟩:=h b k cs hb hk w₁ x h₁ h2 h3 h4 h5;refine⟨RR,fun r hr=>absurd hr (hgo r),fun e1 e2=>⟨rfl,q1 e1 e2⟩,fun r hr=>?_⟩;obtain⟨a',w',es,n',e1,e2,e3,e4,e5,e6,e7⟩:=q2 r hr;exact⟨_,w',es,e1,⟨e2,e3,e4,e5,rfl,e6⟩,rest,a',n',rfl,e7⟩
def jM(hp:O.pos=.mn c){c':Ct}(hgo:∀r,c≠.go r)(xf:c≠.w3)(wL:∀x,oM c x=some (c',x))
 (hs:∀(b:ak) (k:List Item) (cs:List ak),b.fn=fn->b.kind≠.early->∀w₁,stepG P true (G (b.at a (.inRegion ops (i :: rest):: k)) cs) w₁=.go (G (b.at a' (.inRegion ops rest :: k)) cs) w₁ es)
 (hes:∀e∈es,KH L.Wg e) (hd:deafBehind (KG c) es=KG c') (hacq:c=.aq->es=#[⟨.mark (.acquire ⟨L.Wg,0,none⟩),false,true⟩]) {n':Nat}
 (h:∀w₁ x,RX L O w w₁->bU L.tw L.Wg x w₁->bN P true (iG P L.tw L.Wg bO) (RX L) (DX L) fn ops rest n' Q (O.jump O.own (.mn c')) a' w₁):
 bN P true (iG P L.tw L.Wg bO) (RX L) (DX L) fn ops (i :: rest) n Q O a w:=by
 refine sR hp hgo (fun e=>by subst e;have:=wL ⟨0,false,0⟩;simp[oM]at this) fun b k cs hb hk w₁ x hR hM h3 h4 _=>⟨fun e=>absurd e xf,fun r hr=>?_⟩
 rw[wL x]at hr;cases hr;exact⟨a',w₁,es,n',hs b k cs hb hk w₁,hM,bu.refl _ _,hes,hd,hacq,h w₁ x hR hM⟩
def Jp(Wg:Nat):∀e∈#[(⟨.mark .disable,false,true⟩:aC)],KH Wg e:=by intro e he;simp at he;subst he;exact .inl rfl
def Gz(Wg:Nat):∀e∈#[(⟨.mark .enable,false,true⟩:aC)],KH Wg e:=by intro e he;simp at he;subst he;exact .inr (.inl rfl)
def Jq(Wg:Nat):∀e∈#[(⟨.mark (.acquire ⟨Wg,0,none⟩),false,true⟩:aC)],KH Wg e:=by intro e he;simp at he;subst he;exact .inr (.inr (.inl rfl))
def Ot(Wg:Nat):∀e∈#[(⟨.mark (.read ⟨Wg,1,none⟩),false,true⟩:aC)],KH Wg e:=by intro e he;simp at he;subst he;exact .inr (.inr (.inr (.inl rfl)))
def KI(Wg:Nat):∀e∈#[(⟨.mark (.write ⟨Wg,1,none⟩),false,true⟩:aC)],KH Wg e:=by intro e he;simp at he;subst he;exact .inr (.inr (.inr (.inr (.inl rfl))))
def UY(Wg o:Nat):∀e∈#[(⟨.cell ⟨Wg,o,none⟩,false,true⟩:aC)],KH Wg e:=by intro e he;simp at he;subst he;exact .inr (.inr (.inr (.inr (.inr ⟨_,_,rfl,rfl⟩))))
def Ou(Wg o:Nat):∀e∈#[(⟨.cell ⟨Wg,o,none⟩,false,true⟩:aC),⟨.cell ⟨Wg,o,none⟩,true,true⟩],KH Wg e:=by intro e he;simp at he;rcases he with rfl|rfl<;>exact .inr (.inr (.inr (.inr (.inr ⟨_,_,rfl,rfl⟩))))
def SK(Wg o:Nat):∀e∈semEvents ⟨Wg,o,none⟩,KH Wg e:=by
 intro e he;simp[semEvents]at he;rcases he with rfl|rfl|rfl|rfl
 ·exact .inl rfl
 ·exact .inr (.inr (.inr (.inr (.inr ⟨_,_,rfl,rfl⟩))))
 ·exact .inr (.inr (.inr (.inr (.inr ⟨_,_,rfl,rfl⟩))))
 ·exact .inr (.inl rfl)
def wrap_u64(hm:m<18446744073709551616):IntKind.u64.wrap (m:Int)=(m:Int):=by have aeV:IntKind.u64.bits=64:=rfl;simp only[IntKind.wrap,aeV];have:((m:Int)% 18446744073709551616)=(m:Int):=Int.emod_eq_of_lt (Int.natCast_nonneg m) (Int.ofNat_lt.2 hm);simp[IntKind.signed,this]
def WS{v:Nat}(h:v<=1001)(d:Nat)(hd:d<=1):IntKind.u64.wrap (((v*4294967296+d:Nat):Int)+4294967296)=(((v+1)*4294967296+d:Nat):Int):=by
 have e:(((v*4294967296+d:Nat):Int)+4294967296)=(((v+1)*4294967296+d:Nat):Int):=by omega
 rw[e];exact wrap_u64 (by omega)
def KJ(hp:O.pos=.mn (.a1 r)){ats:Array az}{y:aD}(ho:ops[i]?=some o)(hw:Region.wanted o (yielded ops a.tmps)=true)(hop:o.op=.call {callee:=.value (.func f),args:=#[x,y],argTypes:=ats})
 (hf:P.funcs[f]?=some fn') (hname:(fn'.name == "runtime.NumGoroutine")=false) (hb:fn'.body.isNone=true) (hn:Extern.findNext fn'=none) (he:Extern.find fn'=some (Extern.Atomic.update (Op.intArith .add) .u64 true))
 (hx:a.eval x=.pointer (some ⟨L.Wg,0,none⟩)) (hy:a.eval y=.int .u64 4294967296) {n1:Nat}
 (k1:∀w₁,RX L O w w₁->∀(v s:Nat),v<=1000->∀w',bU L.tw L.Wg ⟨v+1,false,s⟩ w'->bu L.Wg w₁ w'->bN P true (iG P L.tw L.Wg bO) (RX L) (DX L) fn ops rest n1 Q (O.jump O.own (.mn (if v=0 then .ar r else .ae r))) (a.put o.dst (.int .u64 (((v+1)*4294967296+b1 false:Nat):Int))) w'):
 bN P true (iG P L.tw L.Wg bO) (RX L) (DX L) fn ops (i :: rest) n Q O a w:=by
 refine sR hp (by simp) (by simp) fun b k cs hb' hk w₁ z hR hM h3 h4 h5=>⟨by simp,fun q hq=>?_⟩
 simp only[oM,Option.some.injEq]at hq;subst hq;have z1:=h5 rfl;obtain⟨v,wt,s⟩:=z;simp only at z1 h3;subst z1;have hst:=stepG_add_atomic (main:=true) (b:=b) (kk:=k) (cs:=cs) (rest:=rest) ho hw hk hop hf hname hb hn .u64 he hx hy hM.word (hM.thaw 0);simp only at hst;rw[WS (by omega) (b1 false) (by simp[b1])]at hst;have hG:bU L.tw L.Wg ⟨v+1,false,s⟩ (w₁.setCell ⟨L.Wg,0,none⟩ (.int .u64 (((v+1)*4294967296+b1 false:Nat):Int))):=hM.m9 (y:=⟨v+1,false,s⟩) rfl;refine⟨_,_,_,n1,hst,hG,bu.set _ _ _ _ (by omega),Ou _ 0,?_,by simp,k1 w₁ hR v s h3 _ hG (bu.set _ _ _ _ (by omega))⟩;by_cases hv:v=0<;>simp[hv]<;>rfl
end
end
end Go.Proofs.YteoahlieielcdaaGreat
