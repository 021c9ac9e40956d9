import Derived.Test.YteoahlieielcdaaGreatM1
import Derived.Conc.Beside
import Derived.Test.YteoahlieielcdaaGreatRows
import Derived.Conc.HoldsTime
set_option linter.all false
open Option renaming some->Y,none->F
open Go.Conc renaming getElem?_append_cases->ae1,lt_size_of_getElem?->as4,touch_of->at8,noRace_append->aw4,knows_own->bh0
namespace Go.Proofs.YteoahlieielcdaaGreat
open Go.Proofs.Tryz
abbrev zbl:=@Nat.lt_or_ge
abbrev zbm:=@Option.map_eq_some_iff
variable{a:aA}{i k Wg r:Nat}{JA:Nat->Loc->Prop}
section
open Go Go.Conc Go.ConcN
structure uu(Shun:Loc->Prop)(t:Trace):Prop where
 clean:∀said,¬Race said t
 known:∀i a,touchAt t i=Y a->a.loc.isMemory=true->Knows t 0 i\/(Shun a.loc/\a.kind=.atomic)
 over:t.HandedOver
 hears:Deaf t 0=0
def F5(N0:Nat)(t:Trace)(g:Nat)(l:Loc):Prop:=∀i a,N0<=i->touchAt t i=Y a->a.loc=l->Knows t g i
def zO(N0:Nat)(t:Trace)(g:Nat)(l:Loc):Prop:=∀i a,N0<=i->touchAt t i=Y a->a.loc=l->a.write=true->Knows t g i
def F5.app{N0:Nat}{t u:Trace}{g:Nat}{l:Loc}(h:F5 N0 t g l)(hu:∀op∈u,∀b,op.act.touch?=Y b->b.loc=l->op.g=g):F5 N0 (t++u) g l:=by
 intro i a hi ha hl;obtain⟨x,hx,Ru⟩:=at8 ha;rcases ae1 hx with⟨_,hx'⟩|⟨_,YY⟩
 ·exact(h i a hi (by rw[touchAt_of hx'];exact Ru) hl).app u
 ·have:=bh0 hx;rwa [hu x YY a Ru hl]at this
def zO.app{N0:Nat}{t u:Trace}{g:Nat}{l:Loc}(h:zO N0 t g l)(hu:∀op∈u,∀b,op.act.touch?=Y b->b.loc=l->b.write=true->op.g=g):zO N0 (t++u) g l:=by
 intro i a hi ha hl hw;obtain⟨x,hx,Ru⟩:=at8 ha;rcases ae1 hx with⟨_,hx'⟩|⟨_,YY⟩
 ·exact(h i a hi (by rw[touchAt_of hx'];exact Ru) hl hw).app u
 ·have:=bh0 hx;rwa [hu x YY a Ru hl hw]at this
def UY(off j g:Nat):Prop:=g=0\/(off<g/\g<=off+j)
section
variable (Sh Shun:Loc->Prop)(Own Rd:Nat->Loc->Prop)(off N0:Nat)
structure Bg(t:Trace)(j:Nat):Prop where
 size:N0<=t.size
 old:∀i a,i<N0->touchAt t i=Y a->a.loc.isMemory=true->(∀g,UY off j g->Knows t g i)\/(Shun a.loc/\a.kind=.atomic)
 quiet:∀(i:Nat) (op:MemOp) (x:Touch),N0<=i->t[i]?=Y op->op.act.touch?=Y x->Sh x.loc->x.kind≠.plain/\(x.kind=.said->op.g=0)
 own:∀k,off<k->k<=off+j->∀l,Own k l->F5 N0 t k l
 rd:∀k,off<k->k<=off+j->∀l,Rd k l->zO N0 t k l
 free:∀l,¬Sh l->(∀k,off<k->k<=off+j->¬Own k l/\¬Rd k l)->F5 N0 t 0 l
 mine:∀l,¬Sh l->(∀k,off<k->k<=off+j->¬Own k l)->zO N0 t 0 l
 nr:∀said,¬Race said t
 gs:∀(i:Nat) (op:MemOp),t[i]?=Y op->op.g<=off+j
 sR:∀(i:Nat) (op:MemOp),N0<=i->t[i]?=Y op->op.g≠0->op.g<=off->op.act.touch?=F
 over:∀i g,i<N0->t.g? i=Y g->g≠0->t.counts i->∃q,t.g? q=Y 0/\HappensBefore t i q
structure Dz:Prop where
 own:∀k k' l,Own k l->Own k' l->k=k'
 ownRd:∀k k' l,Own k l->¬Rd k' l
 ownSh:∀k l,Own k l->¬Sh l
 rdSh:∀k l,Rd k l->¬Sh l
def UZ(j:Nat)(op:MemOp):Prop:=
 op.g=0/\∀x,op.act.touch?=Y x->¬Shun x.loc/\((Sh x.loc/\x.kind≠.plain)\/(¬Sh x.loc/\(∀k,off<k->k<=off+j->¬Own k x.loc)/\(x.write=true->∀k,off<k->k<=off+j->¬Rd k x.loc)))
def M8(k:Nat)(op:MemOp):Prop:=
 op.g=k/\∀x,op.act.touch?=Y x->¬Shun x.loc/\((Sh x.loc/\x.kind≠.plain/\x.kind≠.said)\/Own k x.loc\/(Rd k x.loc/\x.write=false))
end
section
variable {Sh Shun:Loc->Prop}{Own Rd:Nat->Loc->Prop}{off N0:Nat}{t u:Trace}{j:Nat}
def K3{said:Bool}{a b:Touch}(hc:a.conflicts said b)(hk:b.kind≠.plain)(ha:a.kind≠.plain):a.kind=.said/\b.kind=.said:=by
 obtain⟨_,_,_,h⟩:=hc;rcases h with h|h|⟨_,h1,h2⟩
 ·exact absurd h ha
 ·exact absurd h hk
 ·exact⟨h1,h2⟩
def Bg.ac1(h:Bg Sh Shun Own Rd off N0 t j){g:Nat}(hg:UY off j g){said:Bool}{a b:Touch}(hi:i<N0)(ha:touchAt t i=Y a)(hs:¬Shun b.loc)(hc:a.conflicts said b):Knows t g i:=by
 rcases h.old i a hi ha hc.2.1 with hk|⟨h1,_⟩
 ·exact hk g hg
 ·exact absurd (hc.1▸h1) hs
def DC(hsz:N0<=t.size)(h:∀i a,i<N0->touchAt t i=Y a->a.loc.isMemory=true->(∀g,UY off j g->Knows t g i)\/(Shun a.loc/\a.kind=.atomic))(u:Trace):
 ∀i a,i<N0->touchAt (t++u) i=Y a->a.loc.isMemory=true->(∀g,UY off j g->Knows (t++u) g i)\/(Shun a.loc/\a.kind=.atomic):=by intro i a hi ha hm;rw[touchAt_old I]at ha;exact(h i a hi ha hm).imp (λhk g hg=>(hk g hg).app u) id
def uJ(h:∀(i:Nat) (op:MemOp),N0<=i->t[i]?=Y op->op.g≠0->op.g<=off->op.act.touch?=F)(hu:∀op∈u,op.g≠0->op.g<=off->op.act.touch?=F):
 ∀(i:Nat) (op:MemOp),N0<=i->(t++u)[i]?=Y op->op.g≠0->op.g<=off->op.act.touch?=F:=by
 intro i op hi hop h1 h2;rcases ae1 hop with⟨_,h3⟩|⟨_,h3⟩
 ·exact h i op hi h3 h1 h2
 ·exact hu op h3 h1 h2
def uK(hsz:N0<=t.size)(h:∀i g,i<N0->t.g? i=Y g->g≠0->t.counts i->∃q,t.g? q=Y 0/\HappensBefore t i q)(u:Trace):
 ∀i g,i<N0->(t++u).g? i=Y g->g≠0->(t++u).counts i->∃q,(t++u).g? q=Y 0/\HappensBefore (t++u) i q:=by
 intro i g hi hg hne hc;have hit:i<t.size:=I
 obtain⟨q,hq,hb⟩:=h i g hi (by rw[<-g?_old (u:=u) hit];exact hg) hne ((counts_old hit).1 hc);have hql:q<t.size:=by unfold Trace.g? at hq;obtain⟨z,hz,_⟩:=zbm.1 hq;exact as4 hz
 exact⟨q,by rw[g?_old hql];exact hq,hb_app u hb⟩
def Bg.app0(A:Dz Sh Own Rd)(h:Bg Sh Shun Own Rd off N0 t j)(hu:∀op∈u,UZ Sh Shun Own Rd off j op):Bg Sh Shun Own Rd off N0 (t++u) j:=by
 refine⟨by have:=h.size;simp;omega,DC h.size h.old u,λi op x hi hop hx hs=>?_,λk k1 kj l hl=>(h.own k k1 kj l hl).app λop hop b hb e=>?_,λk k1 kj l hl=>(h.rd k k1 kj l hl).app λop hop b hb e hw=>?_,
  λl hs hl=>(h.free l hs hl).app λop hop _ _ _=>(hu op hop).1,λl hs hl=>(h.mine l hs hl).app λop hop _ _ _ _=>(hu op hop).1,λsaid=>?_,λi op hi=>?_,?_,?_⟩
 ·rcases ae1 hop with⟨_,h1⟩|⟨_,h1⟩
  ·exact h.quiet i op x hi h1 hx hs
  ·rcases((hu op h1).2 x hx).2 with⟨_,hk⟩|⟨hn,_⟩
   ·exact⟨hk,λ_=>(hu op h1).1⟩
   ·exact absurd hs hn
 ·rcases((hu op hop).2 b hb).2 with⟨hs,_⟩|⟨_,hn,_⟩
  ·exact absurd (e▸hs) (A.ownSh k l hl)
  ·exact absurd (e▸hl) (hn k k1 kj)
 ·rcases((hu op hop).2 b hb).2 with⟨hs,_⟩|⟨_,_,hn⟩
  ·exact absurd (e▸hs) (A.rdSh k l hl)
  ·exact absurd (e▸hl) (hn hw k k1 kj)
 ·refine aw4 (h.nr said) (λop hop=>(hu op hop).1) (λi a ha op hop b hb hc=>?_);obtain⟨Ww,iL⟩:=(hu op hop).2 b hb;rcases zbl i N0 with hi|hi
  ·exact h.ac1 (.inl rfl) hi ha Ww hc
  ·obtain⟨y,hy,hya⟩:=at8 ha;rcases iL with⟨hs,hk⟩|⟨hs,hno,hnr⟩
   ·obtain⟨q1,q2⟩:=h.quiet i y a hi hy hya (hc.1▸hs);have h0:=q2 (K3 hc hk q1).1;have:=bh0 hy;rwa [h0]at this
   ·cases hbw:b.write with
    |true=>exact h.free b.loc hs (λk k1 kj=>⟨hno k k1 kj,hnr hbw k k1 kj⟩) i a hi ha hc.1
    |false=>exact h.mine b.loc hs hno i a hi ha hc.1 (hc.2.2.1.resolve_right (by simp[hbw]))
 ·rcases ae1 hi with⟨_,hi'⟩|⟨_,hiu⟩
  ·exact h.gs i op hi'
  ·rw[(hu op hiu).1];exact Nat.zero_le _
 ·exact uJ h.sR (λop hop h1 _=>absurd (hu op hop).1 h1)
 ·exact uK h.size h.over u
def Bg.appW(A:Dz Sh Own Rd)(h:Bg Sh Shun Own Rd off N0 t j)(k1:off<k)(kj:k<=off+j)(hu:∀op∈u,M8 Sh Shun Own Rd k op):Bg Sh Shun Own Rd off N0 (t++u) j:=by
 refine⟨by have:=h.size;simp;omega,DC h.size h.old u,λi op x hi hop hx hs=>?_,λk' k1' kj' l hl=>(h.own k' k1' kj' l hl).app λop hop b hb e=>?_,λk' k1' kj' l hl=>(h.rd k' k1' kj' l hl).app λop hop b hb e hw=>?_,
  λl hs hl=>(h.free l hs hl).app λop hop b hb e=>?_,λl hs hl=>(h.mine l hs hl).app λop hop b hb e hw=>?_,λsaid=>?_,λi op hi=>?_,?_,?_⟩
 ·rcases ae1 hop with⟨_,h1⟩|⟨_,h1⟩
  ·exact h.quiet i op x hi h1 hx hs
  ·rcases((hu op h1).2 x hx).2 with⟨_,hk,hn⟩|ho|⟨hr,_⟩
   ·exact⟨hk,λe=>absurd e hn⟩
   ·exact absurd hs (A.ownSh k _ ho)
   ·exact absurd hs (A.rdSh k _ hr)
 ·rcases((hu op hop).2 b hb).2 with⟨hs,_⟩|ho|⟨hr,_⟩
  ·exact absurd (e▸hs) (A.ownSh k' l hl)
  ·rw[(hu op hop).1];exact A.own k k' l (e▸ho) hl
  ·exact absurd (e▸hr) (A.ownRd k' k l hl)
 ·rcases((hu op hop).2 b hb).2 with⟨hs,_⟩|ho|⟨_,hr⟩
  ·exact absurd (e▸hs) (A.rdSh k' l hl)
  ·exact absurd hl (A.ownRd k k' l (e▸ho))
  ·rw[hr]at hw;cases hw
 ·rcases((hu op hop).2 b hb).2 with⟨hs',_⟩|ho|⟨hr,_⟩
  ·exact absurd (e▸hs') hs
  ·exact absurd (e▸ho) (hl k k1 kj).1
  ·exact absurd (e▸hr) (hl k k1 kj).2
 ·rcases((hu op hop).2 b hb).2 with⟨hs',_⟩|ho|⟨_,hr⟩
  ·exact absurd (e▸hs') hs
  ·exact absurd (e▸ho) (hl k k1 kj)
  ·rw[hr]at hw;cases hw
 ·refine aw4 (h.nr said) (λop hop=>(hu op hop).1) (λi a ha op hop b hb hc=>?_);obtain⟨Ww,iL⟩:=(hu op hop).2 b hb;rcases zbl i N0 with hi|hi
  ·exact h.ac1 (.inr ⟨k1,kj⟩) hi ha Ww hc
  ·obtain⟨y,hy,hya⟩:=at8 ha;rcases iL with⟨hs,hk,hn⟩|ho|⟨hr,hbw⟩
   ·obtain⟨q1,_⟩:=h.quiet i y a hi hy hya (hc.1▸hs);exact absurd (K3 hc hk q1).2 hn
   ·exact h.own k k1 kj b.loc ho i a hi ha hc.1
   ·exact h.rd k k1 kj b.loc hr i a hi ha hc.1 (hc.2.2.1.resolve_right (by simp[hbw]))
 ·rcases ae1 hi with⟨_,hi'⟩|⟨_,hiu⟩
  ·exact h.gs i op hi'
  ·rw[(hu op hiu).1];exact kj
 ·exact uJ h.sR (λop hop _ h2=>by have:=(hu op hop).1;omega)
 ·exact uK h.size h.over u
def Bg.appMute(h:Bg Sh Shun Own Rd off N0 t j){g:Nat}(hg:g<=off+j)(hu:∀op∈u,op.g=g)(hn:∀op∈u,op.act.touch?=F):Bg Sh Shun Own Rd off N0 (t++u) j:=by
 have no:∀{op:MemOp} {b:Touch},op∈u->op.act.touch?=Y b->False:=λhop hb=>by rw[hn _ hop]at hb;cases hb
 refine⟨by have:=h.size;simp;omega,DC h.size h.old u,λi op x hi hop hx hs=>?_,λk k1 kj l hl=>(h.own k k1 kj l hl).app λop hop b hb _=>(no hop hb).elim,λk k1 kj l hl=>(h.rd k k1 kj l hl).app λop hop b hb _ _=>(no hop hb).elim,
  λl hs hl=>(h.free l hs hl).app λop hop b hb _=>(no hop hb).elim,λl hs hl=>(h.mine l hs hl).app λop hop b hb _ _=>(no hop hb).elim,λsaid=>aw4 (h.nr said) hu (λi a ha op hop b hb hc=>(no hop hb).elim),λi op hi=>?_,uJ h.sR (λop hop _ _=>hn op hop),uK h.size h.over u⟩
 ·rcases ae1 hop with⟨_,h1⟩|⟨_,h1⟩
  ·exact h.quiet i op x hi h1 hx hs
  ·exact(no h1 hx).elim
 ·rcases ae1 hi with⟨_,hi'⟩|⟨_,hiu⟩
  ·exact h.gs i op hi'
  ·rw[hu op hiu];exact hg
def Bg.fork{Rd':Nat->Loc->Prop}(A:Dz Sh JA Rd')(hO:∀k,k<=off+j->JA k=Own k)(hR:∀k,k<=off+j->Rd' k=Rd k)(h:Bg Sh Shun Own Rd off N0 t j){x y:MemOp}(hx:x.g=0/\x.act=.go (off+j+1))(hy:y.g=off+j+1/\y.act=.start)(h0:Deaf t 0=0):
 Bg Sh Shun JA Rd' off N0 (t++#[x,y]) (j+1):=by
 have hk:Deaf t (off+j+1)=0:=Deaf_absent λi op hi e=>by have:=h.gs i op hi;omega
 have hm:∀op∈#[x,y],op=x\/op=y:=by intro op hop;simpa using hop
 have hnt:∀op∈#[x,y],∀b,op.act.touch?=Y b->False:=by
  intro op hop b hb;rcases hm op hop with rfl|rfl
  ·rw[hx.2]at hb;cases hb
  ·rw[hy.2]at hb;cases hb
 have old:∀{i:Nat} {a:Touch},touchAt (t++#[x,y]) i=Y a->touchAt t i=Y a:=by
  intro i a ha;obtain⟨z,hz,hza⟩:=at8 ha;rcases ae1 hz with⟨_,hz'⟩|⟨_,hzu⟩
  ·rw[touchAt_of hz'];exact hza
  ·exact(hnt z hzu a hza).elim
 have fk:∀{i:Nat},Knows t 0 i->Knows (t++#[x,y]) (off+j+1) i:=λh=>fork_knows hx hy h0 hk h;refine⟨by have:=h.size;simp;omega,λi a hi ha hm=>?_,λi op z hi hop hz hs=>?_,λk k1 kj l hl=>?_,λk k1 kj l hl=>?_,λl hs hl=>?_,λl hs hl=>?_,λsaid=>?_,λi op hi=>?_,uJ h.sR (λop hop _ _=>by rcases hm op hop with e|e<;>rw[e]<;>first|(rw[hx.2];rfl)|(rw[hy.2];rfl)),uK h.size h.over _⟩
 ·rcases h.old i a hi (old ha) hm with hk|hk
  ·refine .inl λg hg=>?_;rcases hg with rfl|⟨g1,g2⟩
   ·exact(hk 0 (.inl rfl)).app _
   ·rcases zbl (off+j) g with hlt|hge
    ·obtain rfl:g=off+j+1:=I
     exact fk (hk 0 (.inl rfl))
    ·exact(hk g (.inr ⟨g1,hge⟩)).app _
  ·exact .inr hk
 ·rcases ae1 hop with⟨_,h1⟩|⟨_,h1⟩
  ·exact h.quiet i op z hi h1 hz hs
  ·exact(hnt op h1 z hz).elim
 ·rcases zbl (off+j) k with hlt|hge
  ·obtain rfl:k=off+j+1:=I
   exact λi a hi ha e=>fk (h.free l (A.ownSh _ l hl) (λk' _ k'j=>⟨λho=>by have:=A.own _ _ l (by rw[hO k' k'j];exact ho) hl;omega,λhr=>A.ownRd _ k' l hl (by rw[hR k' k'j];exact hr)⟩) i a hi (old ha) e)
  ·rw[hO k hge]at hl;exact(h.own k k1 hge l hl).app λop hop b hb _=>(hnt op hop b hb).elim
 ·rcases zbl (off+j) k with hlt|hge
  ·obtain rfl:k=off+j+1:=I
   exact λi a hi ha e hw=>fk (h.mine l (A.rdSh _ l hl) (λk' _ k'j ho=>A.ownRd k' _ l (by rw[hO k' k'j];exact ho) hl) i a hi (old ha) e hw)
  ·rw[hR k hge]at hl;exact(h.rd k k1 hge l hl).app λop hop b hb _ _=>(hnt op hop b hb).elim
 ·exact(h.free l hs λk k1 kj=>by have:=hl k k1 I;rw[hO k kj,hR k kj]at this;exact this).app λop hop b hb _=>(hnt op hop b hb).elim
 ·exact(h.mine l hs λk k1 kj=>by have:=hl k k1 I;rw[hO k kj]at this;exact this).app λop hop b hb _ _=>(hnt op hop b hb).elim
 ·have e:t++#[x,y]=(t++#[x])++#[y]:=by apply Array.ext';simp
  rw[e];refine aw4 (g:=off+j+1) (aw4 (g:=0) (h.nr said) (λop hop=>by simp at hop;rw[hop];exact hx.1) (λi a _ op hop b hb _=>(hnt op (by simp at hop⊢;exact .inl hop) b hb).elim))
   (λop hop=>by simp at hop;rw[hop];exact hy.1) (λi a _ op hop b hb _=>(hnt op (by simp at hop⊢;exact .inr hop) b hb).elim)
 ·rcases ae1 hi with⟨_,hi'⟩|⟨_,hiu⟩
  ·exact Nat.le_succ_of_le (h.gs i op hi')
  ·rcases hm op hiu with rfl|rfl
   ·rw[hx.1];exact Nat.zero_le _
   ·rw[hy.1];exact Nat.le_refl _
def Bg.grow(h:Bg Sh Shun Own Rd off N0 t j)(hO:∀k l,Own k l->JA k l)(hnew:∀k l,JA k l->Own k l\/∀i a,N0<=i->touchAt t i=Y a->a.loc≠l):Bg Sh Shun JA Rd off N0 t j:=by
 refine⟨h.size,h.old,h.quiet,λk k1 kj l hl=>?_,h.rd,λl hs hl=>h.free l hs λk k1 kj=>⟨λho=>(hl k k1 kj).1 (hO k l ho),(hl k k1 kj).2⟩,λl hs hl=>h.mine l hs λk k1 kj ho=>hl k k1 kj (hO k l ho),h.nr,h.gs,h.sR,h.over⟩;rcases hnew k l hl with h1|h1
 ·exact h.own k k1 kj l h1
 ·exact λi a hi ha e=>absurd e (h1 i a hi ha)
def M9(h:uu Shun t)(hg:∀(i:Nat) (op:MemOp),t[i]?=Y op->op.g<=off):Bg Sh Shun Own Rd off t.size t 0:=by
 have no:∀{i:Nat} {a:Touch},t.size<=i->touchAt t i=Y a->False:=λhi ha=>by obtain⟨x,hx,_⟩:=at8 ha;have:=as4 hx;omega
 refine⟨Nat.le_refl _,λi a hi ha hm=>?_,λi op x hi hop=>by have:=as4 hop;omega,λk k1 kj=>I,λk k1 kj=>I,λl _ _ i a hi ha=>(no hi ha).elim,λl _ _ i a hi ha=>(no hi ha).elim,h.clean,λi op hi=>by have:=hg i op hi;omega,λi op hi hop=>by have:=as4 hop;omega,λi g hi hg hne hc=>h.over i g hg hne hc⟩;rcases h.known i a ha hm with hk|hk
 ·refine .inl λg hg=>?_;rcases hg with rfl|⟨g1,g2⟩
  ·exact hk
  ·omega
 ·exact .inr hk
end
def F6(Wg:Nat)(l:Loc):Prop:=∃a,l=.cell a/\a.block=Wg
structure jJ(a:aA)(Wg:Nat)(t:Trace)(k r:Nat):Prop where
 act:t.act? r=Y (.mark (.releaseMerge a))
 g:t.g? r=Y k
 heard:t.heard r
 after:∀i x,r<i->t.g? i=Y k->touchAt t i=Y x->F6 Wg x.loc/\x.kind=.atomic/\¬t.heard i
section
variable {Sh Shun:Loc->Prop}{Own Rd:Nat->Loc->Prop}{off N0:Nat}{t u:Trace}{j:Nat}
def jJ.app(h:jJ a Wg t k r)(hu:∀i x,t.size<=i->(t++u).g? i=Y k->touchAt (t++u) i=Y x->F6 Wg x.loc/\x.kind=.atomic/\¬(t++u).heard i):jJ a Wg (t++u) k r:=by
 have hr:r<t.size:=lt_of_act? h.act;refine⟨by rw[act?_old hr];exact h.act,by rw[g?_old hr];exact h.g,(heard_old hr).2 h.heard,λi x hi hg hx=>?_⟩;rcases zbl i t.size with hlt|hge
 ·rw[g?_old hlt]at hg;rw[touchAt_old hlt]at hx;obtain⟨h1,h2,h3⟩:=h.after i x hi hg hx;exact⟨h1,h2,λhh=>h3 ((heard_old hlt).1 hh)⟩
 ·exact hu i x hge hg hx
def jJ.appOther{g:Nat}(h:jJ a Wg t k r)(hu:∀op∈u,op.g=g)(hg:g≠k):jJ a Wg (t++u) k r:=
 h.app λi x hi G4 _=>by
   obtain⟨op,ho,hog⟩:=zbm.1 G4;rcases ae1 ho with⟨hlt,_⟩|⟨_,hou⟩
   ·omega
   ·rw[hu op hou]at hog;exact absurd hog hg
def jJ.appMute(h:jJ a Wg t k r)(hu:∀op∈u,op.act.touch?=F):jJ a Wg (t++u) k r:=
 h.app λi x hi _ hx=>by
   obtain⟨op,ho,Na⟩:=at8 hx;rcases ae1 ho with⟨hlt,_⟩|⟨_,hou⟩
   ·omega
   ·rw[hu op hou]at Na;cases Na
def Bg.join{q:Nat}(h:Bg Sh Shun Own Rd off N0 t j)(hrel:∀k,off<k->k<=off+j->∃r,(jJ a Wg t k r/\N0<=r)/\r<q)(hno:∀k,N0<=k->t.act? k≠Y (.mark (.release a)))
 (hq:t.act? q=Y (.mark (.acquire a))) (hg:t.g? q=Y 0) (hh:t.heard q) (hd:Deaf t 0=0):uu (λl=>Shun l\/F6 Wg l) t:=by
 have hzq:∃z,t[q]?=Y z/\z.g=0:=by obtain⟨z,hz,hz0⟩:=zbm.1 hg;exact⟨z,hz,hz0⟩
 obtain⟨z,hz,hz0⟩:=hzq;have ac2:∀{k r:Nat},jJ a Wg t k r->N0<=r->r<q->HappensBefore t r q:=λhr EY hrq=>.single (.inr ⟨.marked hrq (.inr hr.act) hq (λk hk _=>hno k I),hr.heard,hh⟩);have hb:∀{i k r:Nat},jJ a Wg t k r->N0<=r->r<q->t.g? i=Y k->i<=r->HappensBefore t i q:=fun{i k r} hr EY hrq G4 hle=>by
  rcases zbl i r with hlt|hge
  ·exact .trans (.single (.inl ⟨hlt,k,G4,hr.g⟩)) (ac2 hr EY hrq)
  ·obtain rfl:i=r:=I
   exact ac2 hr EY hrq
 refine⟨h.nr,λi x hx hm=>?_,λi g G4 hne hc=>?_,hd⟩
 ·rcases zbl i N0 with hi|hi
  ·rcases h.old i x hi hx hm with hk|⟨h1,h2⟩
   ·exact .inl (hk 0 (.inl rfl))
   ·exact .inr ⟨.inl h1,h2⟩
  ·obtain⟨op,ho,Na⟩:=at8 hx;by_cases h0:op.g=0
   ·have:=bh0 ho;rw[h0]at this;exact .inl this
   ·rcases zbl off op.g with hlt|hge
    ·obtain⟨r,⟨hr,EY⟩,hrq⟩:=hrel op.g hlt (h.gs i op ho);have G4:t.g? i=Y op.g:=by simp[Trace.g?,ho]
     rcases zbl r i with YZ|YZ
     ·obtain⟨h1,h2,_⟩:=hr.after i x YZ G4 hx;exact .inr ⟨.inr h1,h2⟩
     ·exact .inl ⟨q,z,hz,hz0,.inr (hb hr EY hrq G4 YZ)⟩
    ·have:=h.sR i op hi ho h0 hge;rw[this]at Na;cases Na
 ·rcases zbl i N0 with hi|hi
  ·exact h.over i g hi G4 hne hc
  ·obtain⟨op,ho,hog⟩:=zbm.1 G4;obtain⟨x,hx,hxm,Og⟩:=hc;have hx':touchAt t i=Y x:=hx;obtain⟨op',ho',Na⟩:=at8 hx;rw[ho]at ho';cases ho';subst hog;rcases zbl off op.g with hlt|hge
   ·obtain⟨r,⟨hr,EY⟩,hrq⟩:=hrel op.g hlt (h.gs i op ho);rcases zbl r i with YZ|YZ
    ·obtain⟨_,h2,h3⟩:=hr.after i x YZ G4 hx';rcases Og with Og|Og
     ·exact absurd h2 Og
     ·exact absurd Og h3
    ·exact⟨q,hg,hb hr EY hrq G4 YZ⟩
   ·have:=h.sR i op hi ho hne hge;rw[this]at Na;cases Na
end
end
section
open Go Go.Conc Go.ConcM
def ab4:ownKnob prog.godebug=F:=Yl
end
end Go.Proofs.YteoahlieielcdaaGreat
