import Derived.Conc.Beside
import Derived.Test.YteoahlieielcdaaGreatRows
import Derived.Conc.HoldsTime
set_option linter.all false
namespace Go.Proofs.YteoahlieielcdaaGreat
open Go.Proofs.Tryz
abbrev zbd:=@Nat.lt_or_ge
abbrev zbe:=@Option.map_eq_some_iff
variable{a:Addr}{i k Wg r:Nat}{IW:Nat->Loc->Prop}
section
open Go Go.Conc Go.ConcN
structure tE(Shun:Loc->Prop)(t:Trace):Prop where
 clean:∀said,¬Race said t
 known:∀i a,touchAt t i=some a->a.loc.isMemory=true->Knows t 0 i\/(Shun a.loc/\a.kind=.atomic)
 over:t.HandedOver
 hears:Deaf t 0=0
def FG(N0:Nat)(t:Trace)(g:Nat)(l:Loc):Prop:=∀i a,N0<=i->touchAt t i=some a->a.loc=l->Knows t g i
def zj(N0:Nat)(t:Trace)(g:Nat)(l:Loc):Prop:=∀i a,N0<=i->touchAt t i=some a->a.loc=l->a.write=true->Knows t g i
theorem FG.app{N0:Nat}{t u:Trace}{g:Nat}{l:Loc}(h:FG N0 t g l)(hu:∀op∈u,∀b,op.act.touch?=some b->b.loc=l->op.g=g):FG N0 (t++u) g l:=by
 intro i a hi ha hl;obtain⟨x,hx,PR⟩:=touch_of ha;rcases getElem?_append_cases hx with⟨_,hx'⟩|⟨_,WG⟩
 ·exact(h i a hi (by rw[touchAt_of hx'];exact PR) hl).app u
 ·have:=knows_own hx;rwa [hu x WG a PR hl]at this
theorem zj.app{N0:Nat}{t u:Trace}{g:Nat}{l:Loc}(h:zj N0 t g l)(hu:∀op∈u,∀b,op.act.touch?=some b->b.loc=l->b.write=true->op.g=g):zj N0 (t++u) g l:=by
 intro i a hi ha hl hw;obtain⟨x,hx,PR⟩:=touch_of ha;rcases getElem?_append_cases hx with⟨_,hx'⟩|⟨_,WG⟩
 ·exact(h i a hi (by rw[touchAt_of hx'];exact PR) hl hw).app u
 ·have:=knows_own hx;rwa [hu x WG a PR hl hw]at this
def SU(off j g:Nat):Prop:=g=0\/(off<g/\g<=off+j)
section
variable (Sh Shun:Loc->Prop)(Own Rd:Nat->Loc->Prop)(off N0:Nat)
structure AX(t:Trace)(j:Nat):Prop where
 size:N0<=t.size
 old:∀i a,i<N0->touchAt t i=some a->a.loc.isMemory=true->(∀g,SU off j g->Knows t g i)\/(Shun a.loc/\a.kind=.atomic)
 quiet:∀(i:Nat) (op:MemOp) (x:Touch),N0<=i->t[i]?=some op->op.act.touch?=some x->Sh x.loc->x.kind≠.plain/\(x.kind=.said->op.g=0)
 own:∀k,off<k->k<=off+j->∀l,Own k l->FG N0 t k l
 rd:∀k,off<k->k<=off+j->∀l,Rd k l->zj N0 t k l
 free:∀l,¬Sh l->(∀k,off<k->k<=off+j->¬Own k l/\¬Rd k l)->FG N0 t 0 l
 mine:∀l,¬Sh l->(∀k,off<k->k<=off+j->¬Own k l)->zj N0 t 0 l
 nr:∀said,¬Race said t
 gs:∀(i:Nat) (op:MemOp),t[i]?=some op->op.g<=off+j
 sE:∀(i:Nat) (op:MemOp),N0<=i->t[i]?=some op->op.g≠0->op.g<=off->op.act.touch?=none
 over:∀i g,i<N0->t.g? i=some g->g≠0->t.counts i->∃q,t.g? q=some 0/\HappensBefore t i q
structure Dg:Prop where
 own:∀k k' l,Own k l->Own k' l->k=k'
 ownRd:∀k k' l,Own k l->¬Rd k' l
 ownSh:∀k l,Own k l->¬Sh l
 rdSh:∀k l,Rd k l->¬Sh l
def SV(j:Nat)(op:MemOp):Prop:=
 op.g=0/\∀x,op.act.touch?=some x->¬Shun x.loc/\((Sh x.loc/\x.kind≠.plain)\/(¬Sh x.loc/\(∀k,off<k->k<=off+j->¬Own k x.loc)/\(x.write=true->∀k,off<k->k<=off+j->¬Rd k x.loc)))
def Mg(k:Nat)(op:MemOp):Prop:=
 op.g=k/\∀x,op.act.touch?=some x->¬Shun x.loc/\((Sh x.loc/\x.kind≠.plain/\x.kind≠.said)\/Own k x.loc\/(Rd k x.loc/\x.write=false))
end
section
variable {Sh Shun:Loc->Prop}{Own Rd:Nat->Loc->Prop}{off N0:Nat}{t u:Trace}{j:Nat}
theorem Kl{said:Bool}{a b:Touch}(hc:a.conflicts said b)(hk:b.kind≠.plain)(ha:a.kind≠.plain):a.kind=.said/\b.kind=.said:=by
 obtain⟨_,_,_,h⟩:=hc;rcases h with h|h|⟨_,h1,h2⟩
 ·exact absurd h ha
 ·exact absurd h hk
 ·exact⟨h1,h2⟩
theorem AX.aaQ(h:AX Sh Shun Own Rd off N0 t j){g:Nat}(hg:SU off j g){said:Bool}{a b:Touch}(hi:i<N0)(ha:touchAt t i=some a)(hs:¬Shun b.loc)(hc:a.conflicts said b):Knows t g i:=by
 rcases h.old i a hi ha hc.2.1 with hk|⟨h1,_⟩
 ·exact hk g hg
 ·exact absurd (hc.1▸h1) hs
theorem Dh(hsz:N0<=t.size)(h:∀i a,i<N0->touchAt t i=some a->a.loc.isMemory=true->(∀g,SU off j g->Knows t g i)\/(Shun a.loc/\a.kind=.atomic))(u:Trace):
 ∀i a,i<N0->touchAt (t++u) i=some a->a.loc.isMemory=true->(∀g,SU off j g->Knows (t++u) g i)\/(Shun a.loc/\a.kind=.atomic):=by intro i a hi ha hm;rw[touchAt_old (by omega)]at ha;exact(h i a hi ha hm).imp (fun hk g hg=>(hk g hg).app u) id
theorem tP(h:∀(i:Nat) (op:MemOp),N0<=i->t[i]?=some op->op.g≠0->op.g<=off->op.act.touch?=none)(hu:∀op∈u,op.g≠0->op.g<=off->op.act.touch?=none):
 ∀(i:Nat) (op:MemOp),N0<=i->(t++u)[i]?=some op->op.g≠0->op.g<=off->op.act.touch?=none:=by
 intro i op hi hop h1 h2;rcases getElem?_append_cases hop with⟨_,h3⟩|⟨_,h3⟩
 ·exact h i op hi h3 h1 h2
 ·exact hu op h3 h1 h2
theorem tQ(hsz:N0<=t.size)(h:∀i g,i<N0->t.g? i=some g->g≠0->t.counts i->∃q,t.g? q=some 0/\HappensBefore t i q)(u:Trace):
 ∀i g,i<N0->(t++u).g? i=some g->g≠0->(t++u).counts i->∃q,(t++u).g? q=some 0/\HappensBefore (t++u) i q:=by
 intro i g hi hg hne hc;have hit:i<t.size:=by omega
 obtain⟨q,hq,hb⟩:=h i g hi (by rw[<-g?_old (u:=u) hit];exact hg) hne ((counts_old hit).1 hc);have Uh:q<t.size:=by unfold Trace.g? at hq;obtain⟨z,hz,_⟩:=zbe.1 hq;exact lt_size_of_getElem? hz
 exact⟨q,by rw[g?_old Uh];exact hq,hb_app u hb⟩
theorem AX.app0(A:Dg Sh Own Rd)(h:AX Sh Shun Own Rd off N0 t j)(hu:∀op∈u,SV Sh Shun Own Rd off j op):AX Sh Shun Own Rd off N0 (t++u) j:=by
 refine⟨by have:=h.size;simp;omega,Dh h.size h.old u,fun i op x hi hop hx hs=>?_,fun k k1 kj l hl=>(h.own k k1 kj l hl).app fun op hop b hb e=>?_,fun k k1 kj l hl=>(h.rd k k1 kj l hl).app fun op hop b hb e hw=>?_,
  fun l hs hl=>(h.free l hs hl).app fun op hop _ _ _=>(hu op hop).1,fun l hs hl=>(h.mine l hs hl).app fun op hop _ _ _ _=>(hu op hop).1,fun said=>?_,fun i op hi=>?_,?_,?_⟩
 ·rcases getElem?_append_cases hop with⟨_,h1⟩|⟨_,h1⟩
  ·exact h.quiet i op x hi h1 hx hs
  ·rcases((hu op h1).2 x hx).2 with⟨_,hk⟩|⟨hn,_⟩
   ·exact⟨hk,fun _=>(hu op h1).1⟩
   ·exact absurd hs hn
 ·rcases((hu op hop).2 b hb).2 with⟨hs,_⟩|⟨_,hn,_⟩
  ·exact absurd (e▸hs) (A.ownSh k l hl)
  ·exact absurd (e▸hl) (hn k k1 kj)
 ·rcases((hu op hop).2 b hb).2 with⟨hs,_⟩|⟨_,_,hn⟩
  ·exact absurd (e▸hs) (A.rdSh k l hl)
  ·exact absurd (e▸hl) (hn hw k k1 kj)
 ·refine noRace_append (h.nr said) (fun op hop=>(hu op hop).1) (fun i a ha op hop b hb hc=>?_);obtain⟨Uy,iF⟩:=(hu op hop).2 b hb;rcases zbd i N0 with hi|hi
  ·exact h.aaQ (.inl rfl) hi ha Uy hc
  ·obtain⟨y,hy,hya⟩:=touch_of ha;rcases iF with⟨hs,hk⟩|⟨hs,hno,hnr⟩
   ·obtain⟨q1,q2⟩:=h.quiet i y a hi hy hya (hc.1▸hs);have h0:=q2 (Kl hc hk q1).1;have:=knows_own hy;rwa [h0]at this
   ·cases YR:b.write with
    |true=>exact h.free b.loc hs (fun k k1 kj=>⟨hno k k1 kj,hnr YR k k1 kj⟩) i a hi ha hc.1
    |false=>exact h.mine b.loc hs hno i a hi ha hc.1 (hc.2.2.1.resolve_right (by simp[YR]))
 ·rcases getElem?_append_cases hi with⟨_,hi'⟩|⟨_,hiu⟩
  ·exact h.gs i op hi'
  ·rw[(hu op hiu).1];exact Nat.zero_le _
 ·exact tP h.sE (fun op hop h1 _=>absurd (hu op hop).1 h1)
 ·exact tQ h.size h.over u
theorem AX.appW(A:Dg Sh Own Rd)(h:AX Sh Shun Own Rd off N0 t j)(k1:off<k)(kj:k<=off+j)(hu:∀op∈u,Mg Sh Shun Own Rd k op):AX Sh Shun Own Rd off N0 (t++u) j:=by
 refine⟨by have:=h.size;simp;omega,Dh h.size h.old u,fun i op x hi hop hx hs=>?_,fun k' k1' kj' l hl=>(h.own k' k1' kj' l hl).app fun op hop b hb e=>?_,fun k' k1' kj' l hl=>(h.rd k' k1' kj' l hl).app fun op hop b hb e hw=>?_,
  fun l hs hl=>(h.free l hs hl).app fun op hop b hb e=>?_,fun l hs hl=>(h.mine l hs hl).app fun op hop b hb e hw=>?_,fun said=>?_,fun i op hi=>?_,?_,?_⟩
 ·rcases getElem?_append_cases hop with⟨_,h1⟩|⟨_,h1⟩
  ·exact h.quiet i op x hi h1 hx hs
  ·rcases((hu op h1).2 x hx).2 with⟨_,hk,hn⟩|ho|⟨hr,_⟩
   ·exact⟨hk,fun e=>absurd e hn⟩
   ·exact absurd hs (A.ownSh k _ ho)
   ·exact absurd hs (A.rdSh k _ hr)
 ·rcases((hu op hop).2 b hb).2 with⟨hs,_⟩|ho|⟨hr,_⟩
  ·exact absurd (e▸hs) (A.ownSh k' l hl)
  ·rw[(hu op hop).1];exact A.own k k' l (e▸ho) hl
  ·exact absurd (e▸hr) (A.ownRd k' k l hl)
 ·rcases((hu op hop).2 b hb).2 with⟨hs,_⟩|ho|⟨_,hr⟩
  ·exact absurd (e▸hs) (A.rdSh k' l hl)
  ·exact absurd hl (A.ownRd k k' l (e▸ho))
  ·rw[hr]at hw;cases hw
 ·rcases((hu op hop).2 b hb).2 with⟨hs',_⟩|ho|⟨hr,_⟩
  ·exact absurd (e▸hs') hs
  ·exact absurd (e▸ho) (hl k k1 kj).1
  ·exact absurd (e▸hr) (hl k k1 kj).2
 ·rcases((hu op hop).2 b hb).2 with⟨hs',_⟩|ho|⟨_,hr⟩
  ·exact absurd (e▸hs') hs
  ·exact absurd (e▸ho) (hl k k1 kj)
  ·rw[hr]at hw;cases hw
 ·refine noRace_append (h.nr said) (fun op hop=>(hu op hop).1) (fun i a ha op hop b hb hc=>?_);obtain⟨Uy,iF⟩:=(hu op hop).2 b hb;rcases zbd i N0 with hi|hi
  ·exact h.aaQ (.inr ⟨k1,kj⟩) hi ha Uy hc
  ·obtain⟨y,hy,hya⟩:=touch_of ha;rcases iF with⟨hs,hk,hn⟩|ho|⟨hr,YR⟩
   ·obtain⟨q1,_⟩:=h.quiet i y a hi hy hya (hc.1▸hs);exact absurd (Kl hc hk q1).2 hn
   ·exact h.own k k1 kj b.loc ho i a hi ha hc.1
   ·exact h.rd k k1 kj b.loc hr i a hi ha hc.1 (hc.2.2.1.resolve_right (by simp[YR]))
 ·rcases getElem?_append_cases hi with⟨_,hi'⟩|⟨_,hiu⟩
  ·exact h.gs i op hi'
  ·rw[(hu op hiu).1];exact kj
 ·exact tP h.sE (fun op hop _ h2=>by have:=(hu op hop).1;omega)
 ·exact tQ h.size h.over u
theorem AX.appMute(h:AX Sh Shun Own Rd off N0 t j){g:Nat}(hg:g<=off+j)(hu:∀op∈u,op.g=g)(hn:∀op∈u,op.act.touch?=none):AX Sh Shun Own Rd off N0 (t++u) j:=by
 have no:∀{op:MemOp} {b:Touch},op∈u->op.act.touch?=some b->False:=fun hop hb=>by rw[hn _ hop]at hb;cases hb
 refine⟨by have:=h.size;simp;omega,Dh h.size h.old u,fun i op x hi hop hx hs=>?_,fun k k1 kj l hl=>(h.own k k1 kj l hl).app fun op hop b hb _=>(no hop hb).elim,fun k k1 kj l hl=>(h.rd k k1 kj l hl).app fun op hop b hb _ _=>(no hop hb).elim,
  fun l hs hl=>(h.free l hs hl).app fun op hop b hb _=>(no hop hb).elim,fun l hs hl=>(h.mine l hs hl).app fun op hop b hb _ _=>(no hop hb).elim,fun said=>noRace_append (h.nr said) hu (fun i a ha op hop b hb hc=>(no hop hb).elim),fun i op hi=>?_,tP h.sE (fun op hop _ _=>hn op hop),tQ h.size h.over u⟩
 ·rcases getElem?_append_cases hop with⟨_,h1⟩|⟨_,h1⟩
  ·exact h.quiet i op x hi h1 hx hs
  ·exact(no h1 hx).elim
 ·rcases getElem?_append_cases hi with⟨_,hi'⟩|⟨_,hiu⟩
  ·exact h.gs i op hi'
  ·rw[hu op hiu];exact hg
theorem AX.fork{Rd':Nat->Loc->Prop}(A:Dg Sh IW Rd')(hO:∀k,k<=off+j->IW k=Own k)(hR:∀k,k<=off+j->Rd' k=Rd k)(h:AX Sh Shun Own Rd off N0 t j){x y:MemOp}(hx:x.g=0/\x.act=.go (off+j+1))(hy:y.g=off+j+1/\y.act=.start)(h0:Deaf t 0=0):
 AX Sh Shun IW Rd' off N0 (t++#[x,y]) (j+1):=by
 have hk:Deaf t (off+j+1)=0:=Deaf_absent fun i op hi e=>by have:=h.gs i op hi;omega
 have hm:∀op∈#[x,y],op=x\/op=y:=by intro op hop;simpa using hop
 have hnt:∀op∈#[x,y],∀b,op.act.touch?=some b->False:=by
  intro op hop b hb;rcases hm op hop with rfl|rfl
  ·rw[hx.2]at hb;cases hb
  ·rw[hy.2]at hb;cases hb
 have old:∀{i:Nat} {a:Touch},touchAt (t++#[x,y]) i=some a->touchAt t i=some a:=by
  intro i a ha;obtain⟨z,hz,hza⟩:=touch_of ha;rcases getElem?_append_cases hz with⟨_,hz'⟩|⟨_,hzu⟩
  ·rw[touchAt_of hz'];exact hza
  ·exact(hnt z hzu a hza).elim
 have fk:∀{i:Nat},Knows t 0 i->Knows (t++#[x,y]) (off+j+1) i:=fun h=>fork_knows hx hy h0 hk h;refine⟨by have:=h.size;simp;omega,fun i a hi ha hm=>?_,fun i op z hi hop hz hs=>?_,fun k k1 kj l hl=>?_,fun k k1 kj l hl=>?_,fun l hs hl=>?_,fun l hs hl=>?_,fun said=>?_,fun i op hi=>?_,tP h.sE (fun op hop _ _=>by rcases hm op hop with e|e<;>rw[e]<;>first|(rw[hx.2];rfl)|(rw[hy.2];rfl)),tQ h.size h.over _⟩
 ·rcases h.old i a hi (old ha) hm with hk|hk
  ·refine .inl fun g hg=>?_;rcases hg with rfl|⟨g1,g2⟩
   ·exact(hk 0 (.inl rfl)).app _
   ·rcases zbd (off+j) g with hlt|hge
    ·obtain rfl:g=off+j+1:=by omega
     exact fk (hk 0 (.inl rfl))
    ·exact(hk g (.inr ⟨g1,hge⟩)).app _
  ·exact .inr hk
 ·rcases getElem?_append_cases hop with⟨_,h1⟩|⟨_,h1⟩
  ·exact h.quiet i op z hi h1 hz hs
  ·exact(hnt op h1 z hz).elim
 ·rcases zbd (off+j) k with hlt|hge
  ·obtain rfl:k=off+j+1:=by omega
   exact fun i a hi ha e=>fk (h.free l (A.ownSh _ l hl) (fun k' _ k'j=>⟨fun ho=>by have:=A.own _ _ l (by rw[hO k' k'j];exact ho) hl;omega,fun hr=>A.ownRd _ k' l hl (by rw[hR k' k'j];exact hr)⟩) i a hi (old ha) e)
  ·rw[hO k hge]at hl;exact(h.own k k1 hge l hl).app fun op hop b hb _=>(hnt op hop b hb).elim
 ·rcases zbd (off+j) k with hlt|hge
  ·obtain rfl:k=off+j+1:=by omega
   exact fun i a hi ha e hw=>fk (h.mine l (A.rdSh _ l hl) (fun k' _ k'j ho=>A.ownRd k' _ l (by rw[hO k' k'j];exact ho) hl) i a hi (old ha) e hw)
  ·rw[hR k hge]at hl;exact(h.rd k k1 hge l hl).app fun op hop b hb _ _=>(hnt op hop b hb).elim
 ·exact(h.free l hs fun k k1 kj=>by have:=hl k k1 (by omega);rw[hO k kj,hR k kj]at this;exact this).app fun op hop b hb _=>(hnt op hop b hb).elim
 ·exact(h.mine l hs fun k k1 kj=>by have:=hl k k1 (by omega);rw[hO k kj]at this;exact this).app fun op hop b hb _ _=>(hnt op hop b hb).elim
 ·have e:t++#[x,y]=(t++#[x])++#[y]:=by apply Array.ext';simp
  rw[e];refine noRace_append (g:=off+j+1) (noRace_append (g:=0) (h.nr said) (fun op hop=>by simp at hop;rw[hop];exact hx.1) (fun i a _ op hop b hb _=>(hnt op (by simp at hop⊢;exact .inl hop) b hb).elim))
   (fun op hop=>by simp at hop;rw[hop];exact hy.1) (fun i a _ op hop b hb _=>(hnt op (by simp at hop⊢;exact .inr hop) b hb).elim)
 ·rcases getElem?_append_cases hi with⟨_,hi'⟩|⟨_,hiu⟩
  ·exact Nat.le_succ_of_le (h.gs i op hi')
  ·rcases hm op hiu with rfl|rfl
   ·rw[hx.1];exact Nat.zero_le _
   ·rw[hy.1];exact Nat.le_refl _
theorem AX.grow(h:AX Sh Shun Own Rd off N0 t j)(hO:∀k l,Own k l->IW k l)(hnew:∀k l,IW k l->Own k l\/∀i a,N0<=i->touchAt t i=some a->a.loc≠l):AX Sh Shun IW Rd off N0 t j:=by
 refine⟨h.size,h.old,h.quiet,fun k k1 kj l hl=>?_,h.rd,fun l hs hl=>h.free l hs fun k k1 kj=>⟨fun ho=>(hl k k1 kj).1 (hO k l ho),(hl k k1 kj).2⟩,fun l hs hl=>h.mine l hs fun k k1 kj ho=>hl k k1 kj (hO k l ho),h.nr,h.gs,h.sE,h.over⟩;rcases hnew k l hl with h1|h1
 ·exact h.own k k1 kj l h1
 ·exact fun i a hi ha e=>absurd e (h1 i a hi ha)
theorem Mh(h:tE Shun t)(hg:∀(i:Nat) (op:MemOp),t[i]?=some op->op.g<=off):AX Sh Shun Own Rd off t.size t 0:=by
 have no:∀{i:Nat} {a:Touch},t.size<=i->touchAt t i=some a->False:=fun hi ha=>by obtain⟨x,hx,_⟩:=touch_of ha;have:=lt_size_of_getElem? hx;omega
 refine⟨Nat.le_refl _,fun i a hi ha hm=>?_,fun i op x hi hop=>by have:=lt_size_of_getElem? hop;omega,fun k k1 kj=>by omega,fun k k1 kj=>by omega,fun l _ _ i a hi ha=>(no hi ha).elim,fun l _ _ i a hi ha=>(no hi ha).elim,h.clean,fun i op hi=>by have:=hg i op hi;omega,fun i op hi hop=>by have:=lt_size_of_getElem? hop;omega,fun i g hi hg hne hc=>h.over i g hg hne hc⟩;rcases h.known i a ha hm with hk|hk
 ·refine .inl fun g hg=>?_;rcases hg with rfl|⟨g1,g2⟩
  ·exact hk
  ·omega
 ·exact .inr hk
end
def FH(Wg:Nat)(l:Loc):Prop:=∃a,l=.cell a/\a.block=Wg
structure jz(a:Addr)(Wg:Nat)(t:Trace)(k r:Nat):Prop where
 act:t.act? r=some (.mark (.releaseMerge a))
 g:t.g? r=some k
 heard:t.heard r
 after:∀i x,r<i->t.g? i=some k->touchAt t i=some x->FH Wg x.loc/\x.kind=.atomic/\¬t.heard i
section
variable {Sh Shun:Loc->Prop}{Own Rd:Nat->Loc->Prop}{off N0:Nat}{t u:Trace}{j:Nat}
theorem jz.app(h:jz a Wg t k r)(hu:∀i x,t.size<=i->(t++u).g? i=some k->touchAt (t++u) i=some x->FH Wg x.loc/\x.kind=.atomic/\¬(t++u).heard i):jz a Wg (t++u) k r:=by
 have hr:r<t.size:=lt_of_act? h.act;refine⟨by rw[act?_old hr];exact h.act,by rw[g?_old hr];exact h.g,(heard_old hr).2 h.heard,fun i x hi hg hx=>?_⟩;rcases zbd i t.size with hlt|hge
 ·rw[g?_old hlt]at hg;rw[touchAt_old hlt]at hx;obtain⟨h1,h2,h3⟩:=h.after i x hi hg hx;exact⟨h1,h2,fun hh=>h3 ((heard_old hlt).1 hh)⟩
 ·exact hu i x hge hg hx
theorem jz.appOther{g:Nat}(h:jz a Wg t k r)(hu:∀op∈u,op.g=g)(hg:g≠k):jz a Wg (t++u) k r:=
 h.app fun i x hi G3 _=>by
   obtain⟨op,ho,hog⟩:=zbe.1 G3;rcases getElem?_append_cases ho with⟨hlt,_⟩|⟨_,hou⟩
   ·omega
   ·rw[hu op hou]at hog;exact absurd hog hg
theorem jz.appMute(h:jz a Wg t k r)(hu:∀op∈u,op.act.touch?=none):jz a Wg (t++u) k r:=
 h.app fun i x hi _ hx=>by
   obtain⟨op,ho,Mi⟩:=touch_of hx;rcases getElem?_append_cases ho with⟨hlt,_⟩|⟨_,hou⟩
   ·omega
   ·rw[hu op hou]at Mi;cases Mi
theorem AX.join{q:Nat}(h:AX Sh Shun Own Rd off N0 t j)(hrel:∀k,off<k->k<=off+j->∃r,(jz a Wg t k r/\N0<=r)/\r<q)(hno:∀k,N0<=k->t.act? k≠some (.mark (.release a)))
 (hq:t.act? q=some (.mark (.acquire a))) (hg:t.g? q=some 0) (hh:t.heard q) (hd:Deaf t 0=0):tE (fun l=>Shun l\/FH Wg l) t:=by
 have hzq:∃z,t[q]?=some z/\z.g=0:=by obtain⟨z,hz,hz0⟩:=zbe.1 hg;exact⟨z,hz,hz0⟩
 obtain⟨z,hz,hz0⟩:=hzq;have aaR:∀{k r:Nat},jz a Wg t k r->N0<=r->r<q->HappensBefore t r q:=fun hr EJ hrq=>.single (.inr ⟨.marked hrq (.inr hr.act) hq (fun k hk _=>hno k (by omega)),hr.heard,hh⟩);have hb:∀{i k r:Nat},jz a Wg t k r->N0<=r->r<q->t.g? i=some k->i<=r->HappensBefore t i q:=fun{i k r} hr EJ hrq G3 hle=>by
  rcases zbd i r with hlt|hge
  ·exact .trans (.single (.inl ⟨hlt,k,G3,hr.g⟩)) (aaR hr EJ hrq)
  ·obtain rfl:i=r:=by omega
   exact aaR hr EJ hrq
 refine⟨h.nr,fun i x hx hm=>?_,fun i g G3 hne hc=>?_,hd⟩
 ·rcases zbd i N0 with hi|hi
  ·rcases h.old i x hi hx hm with hk|⟨h1,h2⟩
   ·exact .inl (hk 0 (.inl rfl))
   ·exact .inr ⟨.inl h1,h2⟩
  ·obtain⟨op,ho,Mi⟩:=touch_of hx;by_cases h0:op.g=0
   ·have:=knows_own ho;rw[h0]at this;exact .inl this
   ·rcases zbd off op.g with hlt|hge
    ·obtain⟨r,⟨hr,EJ⟩,hrq⟩:=hrel op.g hlt (h.gs i op ho);have G3:t.g? i=some op.g:=by simp[Trace.g?,ho]
     rcases zbd r i with WH|WH
     ·obtain⟨h1,h2,_⟩:=hr.after i x WH G3 hx;exact .inr ⟨.inr h1,h2⟩
     ·exact .inl ⟨q,z,hz,hz0,.inr (hb hr EJ hrq G3 WH)⟩
    ·have:=h.sE i op hi ho h0 hge;rw[this]at Mi;cases Mi
 ·rcases zbd i N0 with hi|hi
  ·exact h.over i g hi G3 hne hc
  ·obtain⟨op,ho,hog⟩:=zbe.1 G3;obtain⟨x,hx,Rf,GY⟩:=hc;have hx':touchAt t i=some x:=hx;obtain⟨op',ho',Mi⟩:=touch_of hx;rw[ho]at ho';cases ho';subst hog;rcases zbd off op.g with hlt|hge
   ·obtain⟨r,⟨hr,EJ⟩,hrq⟩:=hrel op.g hlt (h.gs i op ho);rcases zbd r i with WH|WH
    ·obtain⟨_,h2,h3⟩:=hr.after i x WH G3 hx';rcases GY with GY|GY
     ·exact absurd h2 GY
     ·exact absurd GY h3
    ·exact⟨q,hg,hb hr EJ hrq G3 WH⟩
   ·have:=h.sE i op hi ho hne hge;rw[this]at Mi;cases Mi
end
end
section
open Go Go.Conc Go.ConcM
theorem ZI:ownKnob prog.godebug=none:=by kernel_rfl
end
end Go.Proofs.YteoahlieielcdaaGreat
