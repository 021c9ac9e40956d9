import Derived.Test.YteoahlieielcdaaGreatM1
import Derived.Test.YteoahlieielcdaaGreatProg
import Derived.Conc.MuData
import Derived.Conc.MuLone
import Derived.Conc.WgGenN2
import Derived.Conc.Beside
set_option linter.all false
set_option maxRecDepth 100000
namespace Go.Proofs.YteoahlieielcdaaGreat
open Go.Proofs.Tryz
abbrev zaa:=@Nat.lt_or_ge
abbrev zab:=@Option.map_eq_some_iff
variable{Wg k i₀ qt i r:Nat}{a:aA}{HY:Nat->Loc->Prop}
abbrev Tryz.XC:Go.Conc.Locks.MuLink:={lock:=37,unlock:=38,ilock:=70,iunlock:=71,lockSlow:=111,unlockSlow:=114,disable:=107,enable:=109,acquire:=110,relMerge:=112,cas32:=108,add32:=113,tMutex:=101,tIMutex:=99,tPMutex:=133,tPIMutex:=204,tPI32:=206,tUP:=208,tNoCopy:=96,tU32:=97}
def Tryz.bA:Go.Conc.Locks.MuLib prog Tryz.XC:=
 ⟨func37,func38,func70,func71,func107,func109,func110,func112,func108,func113,
  underlying99,Tryz.runUnderlying99,Tryz.sizeOf99,Tryz.isAgg99,Tryz.zeroValue99,
  underlying101,Tryz.runUnderlying101,Tryz.sizeOf101,Tryz.isAgg101,Tryz.zeroValue101,
  underlying133,Tryz.runUnderlying133,Tryz.sizeOf133,Tryz.isAgg133,Tryz.zeroValue133,
  underlying204,Tryz.runUnderlying204,Tryz.sizeOf204,Tryz.isAgg204,Tryz.zeroValue204,
  underlying206,Tryz.runUnderlying206,Tryz.sizeOf206,Tryz.isAgg206,Tryz.zeroValue206,
  underlying208,Tryz.runUnderlying208,Tryz.sizeOf208,Tryz.isAgg208,Tryz.zeroValue208,
  underlying96,Tryz.runUnderlying96,Tryz.sizeOf96,Tryz.isAgg96,Tryz.zeroValue96,
  underlying21,Tryz.runUnderlying21,Tryz.sizeOf21,Tryz.isAgg21,Tryz.zeroValue21,(by kernel_rfl)⟩
abbrev Tryz.Oq:Go.Conc.Lib.WgLink:={add:=117,done:=120,wait:=82,relMerge:=112,disable:=107,enable:=109,inBubble:=126,associate:=141,fatal:=142,uOr:=143,uAdd:=144,raceRead:=145,uLoad:=121,uStore:=146,disassociate:=124,semrelease:=147,acquire:=110,isAssociated:=122,uCas:=123,raceWrite:=125,semacquire:=127,orU64:=151,addU64:=152,loadU64:=148,storeU64:=153,casU64:=149,tWgP:=215,tUP:=208,tAssoc:=234,tWg:=155,tAU:=153,tU64:=151,tUint:=217,tU32:=97,tPU32:=221,tPAU:=238,tPU64:=240,tNoCopy:=96,tANoCopy:=149,tAlign64:=150}
def Tryz.sQ:Go.Conc.Lib.WgLib prog Tryz.Oq:=
 ⟨func117,func120,func82,func112,func107,func109,func126,func141,func142,func143,func144,func145,func121,func146,func124,func147,func110,func122,func123,func125,func127,func151,func152,func148,func153,func149,
  underlying215,Tryz.runUnderlying215,Tryz.sizeOf215,Tryz.isAgg215,Tryz.zeroValue215,
  underlying208,Tryz.runUnderlying208,Tryz.sizeOf208,Tryz.isAgg208,Tryz.zeroValue208,
  underlying234,Tryz.runUnderlying234,Tryz.sizeOf234,Tryz.isAgg234,Tryz.zeroValue234,
  underlying155,Tryz.runUnderlying155,Tryz.sizeOf155,Tryz.isAgg155,Tryz.zeroValue155,
  underlying153,Tryz.runUnderlying153,Tryz.sizeOf153,Tryz.isAgg153,Tryz.zeroValue153,
  underlying151,Tryz.runUnderlying151,Tryz.sizeOf151,Tryz.isAgg151,Tryz.zeroValue151,
  underlying217,Tryz.runUnderlying217,Tryz.sizeOf217,Tryz.isAgg217,Tryz.zeroValue217,
  underlying97,Tryz.runUnderlying97,Tryz.sizeOf97,Tryz.isAgg97,Tryz.zeroValue97,
  underlying221,Tryz.runUnderlying221,Tryz.sizeOf221,Tryz.isAgg221,Tryz.zeroValue221,
  underlying238,Tryz.runUnderlying238,Tryz.sizeOf238,Tryz.isAgg238,Tryz.zeroValue238,
  underlying240,Tryz.runUnderlying240,Tryz.sizeOf240,Tryz.isAgg240,Tryz.zeroValue240,
  underlying0,Tryz.runUnderlying0,Tryz.sizeOf0,Tryz.isAgg0,Tryz.zeroValue0,
  underlying3,Tryz.runUnderlying3,Tryz.sizeOf3,Tryz.isAgg3,Tryz.zeroValue3,
  underlying4,Tryz.runUnderlying4,Tryz.sizeOf4,Tryz.isAgg4,Tryz.zeroValue4,
  underlying9,Tryz.runUnderlying9,Tryz.sizeOf9,Tryz.isAgg9,Tryz.zeroValue9,
  underlying20,Tryz.runUnderlying20,Tryz.sizeOf20,Tryz.isAgg20,Tryz.zeroValue20,
  underlying21,Tryz.runUnderlying21,Tryz.sizeOf21,Tryz.isAgg21,Tryz.zeroValue21,
  (by kernel_rfl),(by kernel_rfl)⟩
section
open Go Go.Conc Go.ConcN Go.RowKit Go.Conc.Lib Go.ConcR.Gen Go.ConcN.Gen
open Go.ConcR (KK wgBlock WgAt stA smA rd wr mk Payload Aside2 DC0)
def KF [Payload]{P:aB}{L:WgLink}(H:WgLib P L){Own Rd:Nat->Loc->Prop}{C n Low:Nat}{val:aj}{b₀:ak}{a₀:Act}{ops₀:Array Oper}{rest₀:List Nat}{k₀:List Item}{cs:List ak}{o:Oper}{xs:Array aD}{ats:Array az}
 (ho:ops₀[i₀]?=some o) (hw:Region.wanted o (yielded ops₀ a₀.tmps)=true) (hk:b₀.kind≠.early) (hop:o.op=.call {callee:=.value (.func L.done),args:=xs,argTypes:=ats}) (hx:xs.map a₀.eval=#[.pointer (some ⟨Wg,0,none⟩)])
 (hT:QuitsD P qt 0 (G (b₀.at (a₀.put ((ops₀[i₀]?).bind (·.dst)) (.tuple #[])) (.inRegion ops₀ rest₀ :: k₀)) cs)) (w:af) (hK:WgLive L.tWg Wg w/\Has C (k-1) val w):
 Goes P false (RW L.tWg Wg C n Low (k-1)) (DWs Wg Own Rd C n k) (AtR0 P L.tWg Wg C n Low k val) 24 (G (b₀.at a₀ (.inRegion ops₀ (i₀ :: rest₀):: k₀)) cs) w:=by lib_facts;have hA:=@addNegN _ L P H Own Rd Wg C n Low k val;simp only[body_add,addFn,Option.getD_some]at hA;u_in kn_rely hK;refine goes_call ho hw hk hop H.f_done (nm_done L) rfl ⟨by u_nil,?_⟩;rw[hx];walk_nrmf doneFn;u_reg kn_rely hK;u_op kn_rely hK;u_in kn_rely hK;refine goes_call rfl rfl (by k_ne) rfl H.f_add (nm_add L) rfl ⟨by u_nil,?_⟩;walk_nrmf addFn;refine hA (qt:=qt+3) ?_ _ hK;q_c stepG_region_end;q_c stepG_end;exact QuitsD.leave0 rfl rfl H.f_done rfl hT
end
section
open Go Go.Conc Go.ConcN
structure td(Shun:Loc->Prop)(t:Trace):Prop where
 clean:∀said,¬Race said t
 known:∀i a,touchAt t i=some a->a.loc.isMemory=true->Knows t 0 i\/(Shun a.loc/\a.kind=.atomic)
 over:t.HandedOver
 hears:Deaf t 0=0
def EW(N0:Nat)(t:Trace)(g:Nat)(l:Loc):Prop:=∀i a,N0<=i->touchAt t i=some a->a.loc=l->Knows t g i
def yB(N0:Nat)(t:Trace)(g:Nat)(l:Loc):Prop:=∀i a,N0<=i->touchAt t i=some a->a.loc=l->a.write=true->Knows t g i
def EW.app{N0:Nat}{t u:Trace}{g:Nat}{l:Loc}(h:EW N0 t g l)(hu:∀op∈u,∀b,op.act.touch?=some b->b.loc=l->op.g=g):EW N0 (t++u) g l:=by
 intro i a hi ha hl;obtain⟨x,hx,Qf⟩:=touch_of ha;rcases getElem?_append_cases hx with⟨_,hx'⟩|⟨_,St⟩
 ·exact(h i a hi (by rw[touchAt_of hx'];exact Qf) hl).app u
 ·have:=knows_own hx;rwa [hu x St a Qf hl]at this
def yB.app{N0:Nat}{t u:Trace}{g:Nat}{l:Loc}(h:yB N0 t g l)(hu:∀op∈u,∀b,op.act.touch?=some b->b.loc=l->b.write=true->op.g=g):yB N0 (t++u) g l:=by
 intro i a hi ha hl hw;obtain⟨x,hx,Qf⟩:=touch_of ha;rcases getElem?_append_cases hx with⟨_,hx'⟩|⟨_,St⟩
 ·exact(h i a hi (by rw[touchAt_of hx'];exact Qf) hl hw).app u
 ·have:=knows_own hx;rwa [hu x St a Qf hl hw]at this
def TJ(off j g:Nat):Prop:=g=0\/(off<g/\g<=off+j)
section
variable (Sh Shun:Loc->Prop)(Own Rd:Nat->Loc->Prop)(off N0:Nat)
structure z8(t:Trace)(j:Nat):Prop where
 size:N0<=t.size
 old:∀i a,i<N0->touchAt t i=some a->a.loc.isMemory=true->(∀g,TJ off j g->Knows t g i)\/(Shun a.loc/\a.kind=.atomic)
 quiet:∀(i:Nat) (op:MemOp) (x:Touch),N0<=i->t[i]?=some op->op.act.touch?=some x->Sh x.loc->x.kind≠.plain/\(x.kind=.said->op.g=0)
 own:∀k,off<k->k<=off+j->∀l,Own k l->EW N0 t k l
 rd:∀k,off<k->k<=off+j->∀l,Rd k l->yB N0 t k l
 free:∀l,¬Sh l->(∀k,off<k->k<=off+j->¬Own k l/\¬Rd k l)->EW N0 t 0 l
 mine:∀l,¬Sh l->(∀k,off<k->k<=off+j->¬Own k l)->yB N0 t 0 l
 nr:∀said,¬Race said t
 gs:∀(i:Nat) (op:MemOp),t[i]?=some op->op.g<=off+j
 rG:∀(i:Nat) (op:MemOp),N0<=i->t[i]?=some op->op.g≠0->op.g<=off->op.act.touch?=none
 over:∀i g,i<N0->t.g? i=some g->g≠0->t.counts i->∃q,t.g? q=some 0/\HappensBefore t i q
structure CI:Prop where
 own:∀k k' l,Own k l->Own k' l->k=k'
 ownRd:∀k k' l,Own k l->¬Rd k' l
 ownSh:∀k l,Own k l->¬Sh l
 rdSh:∀k l,Rd k l->¬Sh l
def TK(j:Nat)(op:MemOp):Prop:=
 op.g=0/\∀x,op.act.touch?=some x->¬Shun x.loc/\((Sh x.loc/\x.kind≠.plain)\/(¬Sh x.loc/\(∀k,off<k->k<=off+j->¬Own k x.loc)/\(x.write=true->∀k,off<k->k<=off+j->¬Rd k x.loc)))
def LM(k:Nat)(op:MemOp):Prop:=
 op.g=k/\∀x,op.act.touch?=some x->¬Shun x.loc/\((Sh x.loc/\x.kind≠.plain/\x.kind≠.said)\/Own k x.loc\/(Rd k x.loc/\x.write=false))
end
section
variable {Sh Shun:Loc->Prop}{Own Rd:Nat->Loc->Prop}{off N0:Nat}{t u:Trace}{j:Nat}
def JK{said:Bool}{a b:Touch}(hc:a.conflicts said b)(hk:b.kind≠.plain)(ha:a.kind≠.plain):a.kind=.said/\b.kind=.said:=by
 obtain⟨_,_,_,h⟩:=hc;rcases h with h|h|⟨_,h1,h2⟩
 ·exact absurd h ha
 ·exact absurd h hk
 ·exact⟨h1,h2⟩
def z8.acj(h:z8 Sh Shun Own Rd off N0 t j){g:Nat}(hg:TJ off j g){said:Bool}{a b:Touch}(hi:i<N0)(ha:touchAt t i=some a)(hs:¬Shun b.loc)(hc:a.conflicts said b):Knows t g i:=by
 rcases h.old i a hi ha hc.2.1 with hk|⟨h1,_⟩
 ·exact hk g hg
 ·exact absurd (hc.1▸h1) hs
def CJ(hsz:N0<=t.size)(h:∀i a,i<N0->touchAt t i=some a->a.loc.isMemory=true->(∀g,TJ off j g->Knows t g i)\/(Shun a.loc/\a.kind=.atomic))(u:Trace):
 ∀i a,i<N0->touchAt (t++u) i=some a->a.loc.isMemory=true->(∀g,TJ off j g->Knows (t++u) g i)\/(Shun a.loc/\a.kind=.atomic):=by intro i a hi ha hm;rw[touchAt_old (by omega)]at ha;exact(h i a hi ha hm).imp (fun hk g hg=>(hk g hg).app u) id
def tG(h:∀(i:Nat) (op:MemOp),N0<=i->t[i]?=some op->op.g≠0->op.g<=off->op.act.touch?=none)(hu:∀op∈u,op.g≠0->op.g<=off->op.act.touch?=none):
 ∀(i:Nat) (op:MemOp),N0<=i->(t++u)[i]?=some op->op.g≠0->op.g<=off->op.act.touch?=none:=by
 intro i op hi hop h1 h2;rcases getElem?_append_cases hop with⟨_,h3⟩|⟨_,h3⟩
 ·exact h i op hi h3 h1 h2
 ·exact hu op h3 h1 h2
def tH(hsz:N0<=t.size)(h:∀i g,i<N0->t.g? i=some g->g≠0->t.counts i->∃q,t.g? q=some 0/\HappensBefore t i q)(u:Trace):
 ∀i g,i<N0->(t++u).g? i=some g->g≠0->(t++u).counts i->∃q,(t++u).g? q=some 0/\HappensBefore (t++u) i q:=by
 intro i g hi hg hne hc;have hit:i<t.size:=by omega
 obtain⟨q,hq,hb⟩:=h i g hi (by rw[<-g?_old (u:=u) hit];exact hg) hne ((counts_old hit).1 hc);have hql:q<t.size:=by unfold Trace.g? at hq;obtain⟨z,hz,_⟩:=zab.1 hq;exact lt_size_of_getElem? hz
 exact⟨q,by rw[g?_old hql];exact hq,hb_app u hb⟩
def z8.app0(A:CI Sh Own Rd)(h:z8 Sh Shun Own Rd off N0 t j)(hu:∀op∈u,TK Sh Shun Own Rd off j op):z8 Sh Shun Own Rd off N0 (t++u) j:=by
 refine⟨by have:=h.size;simp;omega,CJ h.size h.old u,fun i op x hi hop hx hs=>?_,fun k k1 kj l hl=>(h.own k k1 kj l hl).app fun op hop b hb e=>?_,fun k k1 kj l hl=>(h.rd k k1 kj l hl).app fun op hop b hb e hw=>?_,
  fun l hs hl=>(h.free l hs hl).app fun op hop _ _ _=>(hu op hop).1,fun l hs hl=>(h.mine l hs hl).app fun op hop _ _ _ _=>(hu op hop).1,fun said=>?_,fun i op hi=>?_,?_,?_⟩
 ·rcases getElem?_append_cases hop with⟨_,h1⟩|⟨_,h1⟩
  ·exact h.quiet i op x hi h1 hx hs
  ·rcases((hu op h1).2 x hx).2 with⟨_,hk⟩|⟨hn,_⟩
   ·exact⟨hk,fun _=>(hu op h1).1⟩
   ·exact absurd hs hn
 ·rcases((hu op hop).2 b hb).2 with⟨hs,_⟩|⟨_,hn,_⟩
  ·exact absurd (e▸hs) (A.ownSh k l hl)
  ·exact absurd (e▸hl) (hn k k1 kj)
 ·rcases((hu op hop).2 b hb).2 with⟨hs,_⟩|⟨_,_,hn⟩
  ·exact absurd (e▸hs) (A.rdSh k l hl)
  ·exact absurd (e▸hl) (hn hw k k1 kj)
 ·refine noRace_append (h.nr said) (fun op hop=>(hu op hop).1) (fun i a ha op hop b hb hc=>?_);obtain⟨Vo,jm⟩:=(hu op hop).2 b hb;rcases zaa i N0 with hi|hi
  ·exact h.acj (.inl rfl) hi ha Vo hc
  ·obtain⟨y,hy,hya⟩:=touch_of ha;rcases jm with⟨hs,hk⟩|⟨hs,hno,hnr⟩
   ·obtain⟨q1,q2⟩:=h.quiet i y a hi hy hya (hc.1▸hs);have h0:=q2 (JK hc hk q1).1;have:=knows_own hy;rwa [h0]at this
   ·cases hbw:b.write with
    |true=>exact h.free b.loc hs (fun k k1 kj=>⟨hno k k1 kj,hnr hbw k k1 kj⟩) i a hi ha hc.1
    |false=>exact h.mine b.loc hs hno i a hi ha hc.1 (hc.2.2.1.resolve_right (by simp[hbw]))
 ·rcases getElem?_append_cases hi with⟨_,hi'⟩|⟨_,hiu⟩
  ·exact h.gs i op hi'
  ·rw[(hu op hiu).1];exact Nat.zero_le _
 ·exact tG h.rG (fun op hop h1 _=>absurd (hu op hop).1 h1)
 ·exact tH h.size h.over u
def z8.appW(A:CI Sh Own Rd)(h:z8 Sh Shun Own Rd off N0 t j)(k1:off<k)(kj:k<=off+j)(hu:∀op∈u,LM Sh Shun Own Rd k op):z8 Sh Shun Own Rd off N0 (t++u) j:=by
 refine⟨by have:=h.size;simp;omega,CJ h.size h.old u,fun i op x hi hop hx hs=>?_,fun k' YI kj' l hl=>(h.own k' YI kj' l hl).app fun op hop b hb e=>?_,fun k' YI kj' l hl=>(h.rd k' YI kj' l hl).app fun op hop b hb e hw=>?_,
  fun l hs hl=>(h.free l hs hl).app fun op hop b hb e=>?_,fun l hs hl=>(h.mine l hs hl).app fun op hop b hb e hw=>?_,fun said=>?_,fun i op hi=>?_,?_,?_⟩
 ·rcases getElem?_append_cases hop with⟨_,h1⟩|⟨_,h1⟩
  ·exact h.quiet i op x hi h1 hx hs
  ·rcases((hu op h1).2 x hx).2 with⟨_,hk,hn⟩|ho|⟨hr,_⟩
   ·exact⟨hk,fun e=>absurd e hn⟩
   ·exact absurd hs (A.ownSh k _ ho)
   ·exact absurd hs (A.rdSh k _ hr)
 ·rcases((hu op hop).2 b hb).2 with⟨hs,_⟩|ho|⟨hr,_⟩
  ·exact absurd (e▸hs) (A.ownSh k' l hl)
  ·rw[(hu op hop).1];exact A.own k k' l (e▸ho) hl
  ·exact absurd (e▸hr) (A.ownRd k' k l hl)
 ·rcases((hu op hop).2 b hb).2 with⟨hs,_⟩|ho|⟨_,hr⟩
  ·exact absurd (e▸hs) (A.rdSh k' l hl)
  ·exact absurd hl (A.ownRd k k' l (e▸ho))
  ·rw[hr]at hw;cases hw
 ·rcases((hu op hop).2 b hb).2 with⟨hs',_⟩|ho|⟨hr,_⟩
  ·exact absurd (e▸hs') hs
  ·exact absurd (e▸ho) (hl k k1 kj).1
  ·exact absurd (e▸hr) (hl k k1 kj).2
 ·rcases((hu op hop).2 b hb).2 with⟨hs',_⟩|ho|⟨_,hr⟩
  ·exact absurd (e▸hs') hs
  ·exact absurd (e▸ho) (hl k k1 kj)
  ·rw[hr]at hw;cases hw
 ·refine noRace_append (h.nr said) (fun op hop=>(hu op hop).1) (fun i a ha op hop b hb hc=>?_);obtain⟨Vo,jm⟩:=(hu op hop).2 b hb;rcases zaa i N0 with hi|hi
  ·exact h.acj (.inr ⟨k1,kj⟩) hi ha Vo hc
  ·obtain⟨y,hy,hya⟩:=touch_of ha;rcases jm with⟨hs,hk,hn⟩|ho|⟨hr,hbw⟩
   ·obtain⟨q1,_⟩:=h.quiet i y a hi hy hya (hc.1▸hs);exact absurd (JK hc hk q1).2 hn
   ·exact h.own k k1 kj b.loc ho i a hi ha hc.1
   ·exact h.rd k k1 kj b.loc hr i a hi ha hc.1 (hc.2.2.1.resolve_right (by simp[hbw]))
 ·rcases getElem?_append_cases hi with⟨_,hi'⟩|⟨_,hiu⟩
  ·exact h.gs i op hi'
  ·rw[(hu op hiu).1];exact kj
 ·exact tG h.rG (fun op hop _ h2=>by have:=(hu op hop).1;omega)
 ·exact tH h.size h.over u
def z8.appMute(h:z8 Sh Shun Own Rd off N0 t j){g:Nat}(hg:g<=off+j)(hu:∀op∈u,op.g=g)(hn:∀op∈u,op.act.touch?=none):z8 Sh Shun Own Rd off N0 (t++u) j:=by
 have no:∀{op:MemOp} {b:Touch},op∈u->op.act.touch?=some b->False:=fun hop hb=>by rw[hn _ hop]at hb;cases hb
 refine⟨by have:=h.size;simp;omega,CJ h.size h.old u,fun i op x hi hop hx hs=>?_,fun k k1 kj l hl=>(h.own k k1 kj l hl).app fun op hop b hb _=>(no hop hb).elim,fun k k1 kj l hl=>(h.rd k k1 kj l hl).app fun op hop b hb _ _=>(no hop hb).elim,
  fun l hs hl=>(h.free l hs hl).app fun op hop b hb _=>(no hop hb).elim,fun l hs hl=>(h.mine l hs hl).app fun op hop b hb _ _=>(no hop hb).elim,fun said=>noRace_append (h.nr said) hu (fun i a ha op hop b hb hc=>(no hop hb).elim),fun i op hi=>?_,tG h.rG (fun op hop _ _=>hn op hop),tH h.size h.over u⟩
 ·rcases getElem?_append_cases hop with⟨_,h1⟩|⟨_,h1⟩
  ·exact h.quiet i op x hi h1 hx hs
  ·exact(no h1 hx).elim
 ·rcases getElem?_append_cases hi with⟨_,hi'⟩|⟨_,hiu⟩
  ·exact h.gs i op hi'
  ·rw[hu op hiu];exact hg
def z8.fork{Rd':Nat->Loc->Prop}(A:CI Sh HY Rd')(hO:∀k,k<=off+j->HY k=Own k)(hR:∀k,k<=off+j->Rd' k=Rd k)(h:z8 Sh Shun Own Rd off N0 t j){x y:MemOp}(hx:x.g=0/\x.act=.go (off+j+1))(hy:y.g=off+j+1/\y.act=.start)(h0:Deaf t 0=0):
 z8 Sh Shun HY Rd' off N0 (t++#[x,y]) (j+1):=by
 have hk:Deaf t (off+j+1)=0:=Deaf_absent fun i op hi e=>by have:=h.gs i op hi;omega
 have hm:∀op∈#[x,y],op=x\/op=y:=by intro op hop;simpa using hop
 have hnt:∀op∈#[x,y],∀b,op.act.touch?=some b->False:=by
  intro op hop b hb;rcases hm op hop with rfl|rfl
  ·rw[hx.2]at hb;cases hb
  ·rw[hy.2]at hb;cases hb
 have old:∀{i:Nat} {a:Touch},touchAt (t++#[x,y]) i=some a->touchAt t i=some a:=by
  intro i a ha;obtain⟨z,hz,hza⟩:=touch_of ha;rcases getElem?_append_cases hz with⟨_,hz'⟩|⟨_,hzu⟩
  ·rw[touchAt_of hz'];exact hza
  ·exact(hnt z hzu a hza).elim
 have fk:∀{i:Nat},Knows t 0 i->Knows (t++#[x,y]) (off+j+1) i:=fun h=>fork_knows hx hy h0 hk h;refine⟨by have:=h.size;simp;omega,fun i a hi ha hm=>?_,fun i op z hi hop hz hs=>?_,fun k k1 kj l hl=>?_,fun k k1 kj l hl=>?_,fun l hs hl=>?_,fun l hs hl=>?_,fun said=>?_,fun i op hi=>?_,tG h.rG (fun op hop _ _=>by rcases hm op hop with e|e<;>rw[e]<;>first|(rw[hx.2];rfl)|(rw[hy.2];rfl)),tH h.size h.over _⟩
 ·rcases h.old i a hi (old ha) hm with hk|hk
  ·refine .inl fun g hg=>?_;rcases hg with rfl|⟨g1,g2⟩
   ·exact(hk 0 (.inl rfl)).app _
   ·rcases zaa (off+j) g with hlt|hge
    ·obtain rfl:g=off+j+1:=by omega
     exact fk (hk 0 (.inl rfl))
    ·exact(hk g (.inr ⟨g1,hge⟩)).app _
  ·exact .inr hk
 ·rcases getElem?_append_cases hop with⟨_,h1⟩|⟨_,h1⟩
  ·exact h.quiet i op z hi h1 hz hs
  ·exact(hnt op h1 z hz).elim
 ·rcases zaa (off+j) k with hlt|hge
  ·obtain rfl:k=off+j+1:=by omega
   exact fun i a hi ha e=>fk (h.free l (A.ownSh _ l hl) (fun k' _ k'j=>⟨fun ho=>by have:=A.own _ _ l (by rw[hO k' k'j];exact ho) hl;omega,fun hr=>A.ownRd _ k' l hl (by rw[hR k' k'j];exact hr)⟩) i a hi (old ha) e)
  ·rw[hO k hge]at hl;exact(h.own k k1 hge l hl).app fun op hop b hb _=>(hnt op hop b hb).elim
 ·rcases zaa (off+j) k with hlt|hge
  ·obtain rfl:k=off+j+1:=by omega
   exact fun i a hi ha e hw=>fk (h.mine l (A.rdSh _ l hl) (fun k' _ k'j ho=>A.ownRd k' _ l (by rw[hO k' k'j];exact ho) hl) i a hi (old ha) e hw)
  ·rw[hR k hge]at hl;exact(h.rd k k1 hge l hl).app fun op hop b hb _ _=>(hnt op hop b hb).elim
 ·exact(h.free l hs fun k k1 kj=>by have:=hl k k1 (by omega);rw[hO k kj,hR k kj]at this;exact this).app fun op hop b hb _=>(hnt op hop b hb).elim
 ·exact(h.mine l hs fun k k1 kj=>by have:=hl k k1 (by omega);rw[hO k kj]at this;exact this).app fun op hop b hb _ _=>(hnt op hop b hb).elim
 ·have e:t++#[x,y]=(t++#[x])++#[y]:=by apply Array.ext';simp
  rw[e];refine noRace_append (g:=off+j+1) (noRace_append (g:=0) (h.nr said) (fun op hop=>by simp at hop;rw[hop];exact hx.1) (fun i a _ op hop b hb _=>(hnt op (by simp at hop⊢;exact .inl hop) b hb).elim))
   (fun op hop=>by simp at hop;rw[hop];exact hy.1) (fun i a _ op hop b hb _=>(hnt op (by simp at hop⊢;exact .inr hop) b hb).elim)
 ·rcases getElem?_append_cases hi with⟨_,hi'⟩|⟨_,hiu⟩
  ·exact Nat.le_succ_of_le (h.gs i op hi')
  ·rcases hm op hiu with rfl|rfl
   ·rw[hx.1];exact Nat.zero_le _
   ·rw[hy.1];exact Nat.le_refl _
def z8.grow(h:z8 Sh Shun Own Rd off N0 t j)(hO:∀k l,Own k l->HY k l)(hnew:∀k l,HY k l->Own k l\/∀i a,N0<=i->touchAt t i=some a->a.loc≠l):z8 Sh Shun HY Rd off N0 t j:=by
 refine⟨h.size,h.old,h.quiet,fun k k1 kj l hl=>?_,h.rd,fun l hs hl=>h.free l hs fun k k1 kj=>⟨fun ho=>(hl k k1 kj).1 (hO k l ho),(hl k k1 kj).2⟩,fun l hs hl=>h.mine l hs fun k k1 kj ho=>hl k k1 kj (hO k l ho),h.nr,h.gs,h.rG,h.over⟩;rcases hnew k l hl with h1|h1
 ·exact h.own k k1 kj l h1
 ·exact fun i a hi ha e=>absurd e (h1 i a hi ha)
def LN(h:td Shun t)(hg:∀(i:Nat) (op:MemOp),t[i]?=some op->op.g<=off):z8 Sh Shun Own Rd off t.size t 0:=by
 have no:∀{i:Nat} {a:Touch},t.size<=i->touchAt t i=some a->False:=fun hi ha=>by obtain⟨x,hx,_⟩:=touch_of ha;have:=lt_size_of_getElem? hx;omega
 refine⟨Nat.le_refl _,fun i a hi ha hm=>?_,fun i op x hi hop=>by have:=lt_size_of_getElem? hop;omega,fun k k1 kj=>by omega,fun k k1 kj=>by omega,fun l _ _ i a hi ha=>(no hi ha).elim,fun l _ _ i a hi ha=>(no hi ha).elim,h.clean,fun i op hi=>by have:=hg i op hi;omega,fun i op hi hop=>by have:=lt_size_of_getElem? hop;omega,fun i g hi hg hne hc=>h.over i g hg hne hc⟩;rcases h.known i a ha hm with hk|hk
 ·refine .inl fun g hg=>?_;rcases hg with rfl|⟨g1,g2⟩
  ·exact hk
  ·omega
 ·exact .inr hk
end
def EX(Wg:Nat)(l:Loc):Prop:=∃a,l=.cell a/\a.block=Wg
structure ji(a:aA)(Wg:Nat)(t:Trace)(k r:Nat):Prop where
 act:t.act? r=some (.mark (.releaseMerge a))
 g:t.g? r=some k
 heard:t.heard r
 after:∀i x,r<i->t.g? i=some k->touchAt t i=some x->EX Wg x.loc/\x.kind=.atomic/\¬t.heard i
section
variable {Sh Shun:Loc->Prop}{Own Rd:Nat->Loc->Prop}{off N0:Nat}{t u:Trace}{j:Nat}
def ji.app(h:ji a Wg t k r)(hu:∀i x,t.size<=i->(t++u).g? i=some k->touchAt (t++u) i=some x->EX Wg x.loc/\x.kind=.atomic/\¬(t++u).heard i):ji a Wg (t++u) k r:=by
 have hr:r<t.size:=lt_of_act? h.act;refine⟨by rw[act?_old hr];exact h.act,by rw[g?_old hr];exact h.g,(heard_old hr).2 h.heard,fun i x hi hg hx=>?_⟩;rcases zaa i t.size with hlt|hge
 ·rw[g?_old hlt]at hg;rw[touchAt_old hlt]at hx;obtain⟨h1,h2,h3⟩:=h.after i x hi hg hx;exact⟨h1,h2,fun hh=>h3 ((heard_old hlt).1 hh)⟩
 ·exact hu i x hge hg hx
def ji.appOther{g:Nat}(h:ji a Wg t k r)(hu:∀op∈u,op.g=g)(hg:g≠k):ji a Wg (t++u) k r:=
 h.app fun i x hi F4 _=>by
   obtain⟨op,ho,hog⟩:=zab.1 F4;rcases getElem?_append_cases ho with⟨hlt,_⟩|⟨_,hou⟩
   ·omega
   ·rw[hu op hou]at hog;exact absurd hog hg
def ji.appMute(h:ji a Wg t k r)(hu:∀op∈u,op.act.touch?=none):ji a Wg (t++u) k r:=
 h.app fun i x hi _ hx=>by
   obtain⟨op,ho,LO⟩:=touch_of hx;rcases getElem?_append_cases ho with⟨hlt,_⟩|⟨_,hou⟩
   ·omega
   ·rw[hu op hou]at LO;cases LO
def z8.join{q:Nat}(h:z8 Sh Shun Own Rd off N0 t j)(hrel:∀k,off<k->k<=off+j->∃r,(ji a Wg t k r/\N0<=r)/\r<q)(hno:∀k,N0<=k->t.act? k≠some (.mark (.release a)))
 (hq:t.act? q=some (.mark (.acquire a))) (hg:t.g? q=some 0) (hh:t.heard q) (hd:Deaf t 0=0):td (fun l=>Shun l\/EX Wg l) t:=by
 have hzq:∃z,t[q]?=some z/\z.g=0:=by obtain⟨z,hz,hz0⟩:=zab.1 hg;exact⟨z,hz,hz0⟩
 obtain⟨z,hz,hz0⟩:=hzq;have ack:∀{k r:Nat},ji a Wg t k r->N0<=r->r<q->HappensBefore t r q:=fun hr BK hrq=>.single (.inr ⟨.marked hrq (.inr hr.act) hq (fun k hk _=>hno k (by omega)),hr.heard,hh⟩);have hb:∀{i k r:Nat},ji a Wg t k r->N0<=r->r<q->t.g? i=some k->i<=r->HappensBefore t i q:=fun{i k r} hr BK hrq F4 hle=>by
  rcases zaa i r with hlt|hge
  ·exact .trans (.single (.inl ⟨hlt,k,F4,hr.g⟩)) (ack hr BK hrq)
  ·obtain rfl:i=r:=by omega
   exact ack hr BK hrq
 refine⟨h.nr,fun i x hx hm=>?_,fun i g F4 hne hc=>?_,hd⟩
 ·rcases zaa i N0 with hi|hi
  ·rcases h.old i x hi hx hm with hk|⟨h1,h2⟩
   ·exact .inl (hk 0 (.inl rfl))
   ·exact .inr ⟨.inl h1,h2⟩
  ·obtain⟨op,ho,LO⟩:=touch_of hx;by_cases h0:op.g=0
   ·have:=knows_own ho;rw[h0]at this;exact .inl this
   ·rcases zaa off op.g with hlt|hge
    ·obtain⟨r,⟨hr,BK⟩,hrq⟩:=hrel op.g hlt (h.gs i op ho);have F4:t.g? i=some op.g:=by simp[Trace.g?,ho]
     rcases zaa r i with Sg|Sg
     ·obtain⟨h1,h2,_⟩:=hr.after i x Sg F4 hx;exact .inr ⟨.inr h1,h2⟩
     ·exact .inl ⟨q,z,hz,hz0,.inr (hb hr BK hrq F4 Sg)⟩
    ·have:=h.rG i op hi ho h0 hge;rw[this]at LO;cases LO
 ·rcases zaa i N0 with hi|hi
  ·exact h.over i g hi F4 hne hc
  ·obtain⟨op,ho,hog⟩:=zab.1 F4;obtain⟨x,hx,DW,MV⟩:=hc;have hx':touchAt t i=some x:=hx;obtain⟨op',ho',LO⟩:=touch_of hx;rw[ho]at ho';cases ho';subst hog;rcases zaa off op.g with hlt|hge
   ·obtain⟨r,⟨hr,BK⟩,hrq⟩:=hrel op.g hlt (h.gs i op ho);rcases zaa r i with Sg|Sg
    ·obtain⟨_,h2,h3⟩:=hr.after i x Sg F4 hx';rcases MV with MV|MV
     ·exact absurd h2 MV
     ·exact absurd MV h3
    ·exact⟨q,hg,hb hr BK hrq F4 Sg⟩
   ·have:=h.rG i op hi ho hne hge;rw[this]at LO;cases LO
end
end
end Go.Proofs.YteoahlieielcdaaGreat
