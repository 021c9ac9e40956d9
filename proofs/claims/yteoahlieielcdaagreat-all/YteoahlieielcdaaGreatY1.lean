import Derived.Test.YteoahlieielcdaaGreatM1
import Derived.Test.YteoahlieielcdaaGreatT1
set_option linter.all false
set_option maxHeartbeats 1600000
set_option maxRecDepth 100000
open Option renaming some->Y,none->F
open Bool renaming false->E,true->Z6
open Go.World renaming cell?->ad3,frozen?->aj2
open List renaming mem_singleton->af7
open Go.MemOp renaming ofEvents->ac0
open Option.some renaming injEq->ac6,inj->ah9
open Go renaming deafBehind->ad2
open Go.Conc renaming mem_ofEvents->ad4,getElem?_append_cases->ae1,Deaf_other->ao0,touch_of->at8,touch_mute->be4,ofEvents_eq->bg0,again_running->bh2
open Go.MemAct renaming ofEvent->ag8,touch?->aw5
open Go.Conc.Goes renaming running->av7,cases->bb6
open Prod.Lex renaming right->ax0,left->az8
open Go.ConcR renaming mk->ba1,ofEvent_loc_mark->bc6,again_blocked->be8
namespace Go.Proofs.YteoahlieielcdaaGreat
open Go Go.Conc Go.ConcN
abbrev zch:=@Nat.le_refl
abbrev zci:=@Nat.lt_of_lt_of_le
abbrev zcj:=@Nat.le_trans
abbrev zck:=@Array.getElem?_eq_some_iff
abbrev zcl:=@Nat.zero_le
abbrev zcm:=@Array.mem_of_getElem?
abbrev zcn:=@Nat.le_of_eq
abbrev zco:=@Nat.lt_or_ge
abbrev zcp:=@Option.map_eq_some_iff
variable{b0 i k j A A' B' idx pb f:Nat}{l:Loc}{e:aC}{es:Array aC}{fn:ay}{pos:String}{x:Wd}{O:aL}{g kU:Gw}{w w':af}{a:aA}{t u:Trace}{g':au}{y:Touch}{r:(Lk×Nat)×Wd×Nat}{ws:Nat->Ws}
section
structure Vi where
 np:Nat
 pt:Nat->Nat
 Wg:Nat
 tw:az
 Sb:Nat->Prop
def Vi.is(S:Vi)(b:Nat):Prop:=(∃q,q<S.np/\b=S.pt q)\/b=S.Wg
structure Pl where
 own:Nat->Prop
 L:eI
structure Geo(S:Vi)(n:Nat)(H:Nat->Pl)(w:af):Prop where
 wg:∀i,i<=n->(H i).L.Wg=S.Wg/\(H i).L.tw=S.tw
 top:∀i,i<=n->(H i).L.N<=w.heap.size
 xw:∀i b,i<=n->(H i).own b->b<w.heap.size
 GB:∀i b,i<=n->(H i).L.Fx b->b<w.heap.size
 D5:∀b,S.is b\/S.Sb b->b<w.heap.size
 oo:∀i k b,i<=n->k<=n->(H i).own b->(H k).own b->i=k
 of:∀i k b,i<=n->k<=n->(H i).own b->¬(H k).L.Fx b
 mo:∀i k a,i<=n->k<=n->(H i).L.Mn a->¬(H k).own a.block
 mf:∀i k a,i<=n->k<=n->(H i).L.Mn a->¬(H k).L.Fx a.block/\¬(H k).L.og a
 mm:∀i k a,i<=n->k<=n->(H i).L.Mn a->(H k).L.Mn a->i=k
 spot:∀i a,i<=n->(H i).L.Mn a\/(H i).L.og a->a.spot=F
 co:∀i k a,i<=n->k<=n->(H i).L.og a->¬(H k).own a.block/\¬(H k).L.Fx a.block
 sh:∀i b,i<=n->S.is b\/S.Sb b->¬(H i).own b/\¬(H i).L.Fx b
 Tb:∀i a,i<=n->(H i).L.og a\/(H i).L.Mn a->a.block≠S.Wg/\¬S.Sb a.block/\∀q,q<S.np->a.block=S.pt q->2<=a.off
 Oo:∀i k b,i<=n->k<=n->(H i).L.Sh b->b<w.heap.size/\¬(H k).own b/\¬(H k).L.Fx b
def Array.same{α:Type}{c c':Array α}(h:∀j:Nat,c'[j]?=c[j]?):c'=c:=Array.ext_getElem? h
section
variable {S:Vi}{n i k:Nat}{H:Nat->Pl}{w w':af}{O O':aL}{es:Array aC}
def Geo.Sa(G:Geo S n H w)(hi:i<=n)(hk:k<=n)(hne:i≠k)(hO:O.own=(H i).own)(KO:O'.own=(H k).own)(d:DX (H i).L O w w' es):RX (H k).L O' w w':=by
 have whole:∀b,b<w.heap.size->¬O.own b->(∀j,¬(H i).L.Mn ⟨b,j,F⟩)->w'.heap[b]?=w.heap[b]? :=by
  intro b hb hno hm;rcases d.blk b hb hno with e|⟨c,c',e,f,h1,h2,h3,h4⟩
  ·exact e
  ·rw[h1,h2,Array.same λj=>h4 j (hm j)]
 have cell:∀a:aA,a.spot=F->a.block<w.heap.size->¬O.own a.block->¬(H i).L.Mn a->w'.cell? a=w.cell? a/\w'.frozen? a=w.frozen? a:=by
  intro a hs hb hno hm;rcases d.blk a.block hb hno with e|⟨c,c',e,f,h1,h2,h3,h4⟩
  ·simp[ad3,aj2,e]
  ·have:c'[a.off]?=c[a.off]? :=h4 a.off (by obtain⟨ab,ao,Sn⟩:=a;simp only at hs;subst hs;exact hm)
   simp[ad3,aj2,h1,h2,this]
 refine⟨d.le,λb hb ho=>?_,λa ha=>?_,λa ha=>?_,λb c e f hb hc=>?_,λhl=>?_⟩
 ·rcases ho with ho|ho
  ·exact whole b hb (λx=>hne (G.oo i k b hi hk (hO▸x) (KO▸ho))) λj hm=>G.mo i k _ hi hk hm (KO▸ho)
  ·exact whole b hb (λx=>G.of i k b hi hk (hO▸x) ho) λj hm=>(G.mf i k _ hi hk hm).1 ho
 ·exact(cell a (G.spot k a hk (.inr ha)) (zci ((H k).L.low a ha) (G.top k hk)) (λx=>(G.co k i a hk hi ha).1 (hO▸x)) (λx=>(G.mf i k a hi hk x).2 ha)).1
 ·exact cell a (G.spot k a hk (.inl ha)) (zci ((H k).L.J4 a ha) (G.top k hk)) (λx=>G.mo k i a hk hi ha (hO▸x)) (λx=>hne (G.mm i k a hi hk x ha))
 ·have hlt:=(zck.1 hc).1;rcases d.blk b hlt (λx=>(G.Oo k i b hk hi hb).2.1 (hO▸x))with q|⟨c1,c',e',f',h1,h2,h3,h4⟩
  ·exact⟨c,q.trans hc,rfl⟩
  ·rw[hc]at h1;cases h1;exact⟨c',h2,h3⟩
 ·obtain⟨st,sm,h⟩:=hl;rw[(G.wg k hk).1,(G.wg k hk).2]at h⊢;refine⟨st,sm,?_⟩;rw[whole S.Wg (zck.1 h).1 (λx=>(G.sh i S.Wg hi (.inl (.inr rfl))).1 (hO▸x)) λj hm=>(G.Tb i _ hi (.inr hm)).1 rfl];exact h
def Geo.J8(G:Geo S n H w)(hk:k<=n)(KO:O'.own=(H k).own)(hb:S.is b0)(hc:∃c e f,w.heap[b0]?=Y (.cells c e f))(hl:b0=S.Wg->Ep S.tw S.Wg w')(d:bA b0 w w'):RX (H k).L O' w w':=by
 obtain⟨c0,e0,f0,h0⟩:=hc;obtain⟨c1,h1,h2,h3⟩:=d.here c0 e0 f0 h0;have cell:∀a:aA,a.spot=F->((H k).L.og a\/(H k).L.Mn a)->w'.cell? a=w.cell? a/\w'.frozen? a=w.frozen? a:=by
  intro a hs ha;by_cases e:a.block=b0
  ·have q:=G.Tb k a hk ha;have h2':2<=a.off:=by
    rcases hb with⟨q',hq,rfl⟩|rfl
    ·exact q.2.2 q' hq e
    ·exact absurd e q.1
   rw[<-e]at h0 h1;simp[ad3,aj2,h0,h1,h3 a.off h2']
  ·simp[ad3,aj2,d.other a.block e]
 refine⟨zcn d.size.symm,λb _ ho=>d.other b λe=>?_,λa ha=>(cell a (G.spot k a hk (.inr ha)) (.inl ha)).1,λa ha=>cell a (G.spot k a hk (.inl ha)) (.inr ha),λb c e f hb' hc=>?_,λhl'=>?_⟩
 ·subst e;exact ho.elim (λx=>(G.sh k b hk (.inl hb)).1 (KO▸x)) (G.sh k b hk (.inl hb)).2
 ·by_cases e':b=b0
  ·subst e';rw[h0]at hc;cases hc;exact⟨c1,h1,h2⟩
  ·exact⟨c,(d.other b e').trans hc,rfl⟩
 ·rw[(G.wg k hk).1,(G.wg k hk).2]at hl'⊢;by_cases e:b0=S.Wg
  ·exact hl e
  ·obtain⟨st,sm,h⟩:=hl';exact⟨st,sm,(d.other S.Wg λx=>e x.symm).trans h⟩
def Geo.Zc(G:Geo S n H w)[Go.ConcR.Payload](hi:i<=n)(hk:k<=n)(KO:O'.own=(H k).own){bw m:Nat}(hb:(H i).L.Fx bw)(hf:¬(H k).L.Fx bw)(d:AsideCell bw m 0 w w'):RX (H k).L O' w w':=by
 have no:∀a:aA,((H k).L.og a\/(H k).L.Mn a)->a.block≠bw:=λa ha e=>ha.elim (λx=>(G.co k i a hk hi x).2 (e▸hb)) (λx=>(G.mf k i a hk hi x).1 (e▸hb));have nsh:¬S.is bw:=λx=>(G.sh i bw hi (.inl x)).2 hb;refine⟨zcn d.size.symm,λb _ ho=>d.block b λe=>?_,λa ha=>?_,λa ha=>?_,λb c e f hb' hc=>?_,λhl=>?_⟩
 ·subst e;exact ho.elim (λx=>G.of k i b hk hi (KO▸x) hb) hf
 ·simp[ad3,d.block a.block (no a (.inl ha))]
 ·simp[ad3,aj2,d.block a.block (no a (.inr ha))]
 ·exact⟨c,(d.block b λe'=>(G.Oo k i b hk hi hb').2.2 (e'▸hb)).trans hc,rfl⟩
 ·rw[(G.wg k hk).1,(G.wg k hk).2]at hl⊢;obtain⟨st,sm,h⟩:=hl;exact⟨st,sm,(d.block S.Wg λe=>nsh (e▸.inr rfl)).trans h⟩
def Geo.grow(G:Geo S n H w)(hi:i<=n){gP:Nat->Prop}(hle:w.heap.size<=w'.heap.size)(ho:∀b,gP b->(H i).own b\/(w.heap.size<=b/\b<w'.heap.size)):Geo S n (aR H i ⟨gP,(H i).L⟩) w':=by
 have eL:∀k,(aR H i ⟨gP,(H i).L⟩ k).L=(H k).L:=λk=>by unfold aR;split<;>simp_all
 have eo:∀k b,(aR H i ⟨gP,(H i).L⟩ k).own b->(H k).own b\/(k=i/\w.heap.size<=b/\b<w'.heap.size):=λk b x=>by
  by_cases e:k=i
  ·subst e;rw[aV]at x;exact(ho b x).imp id λy=>⟨rfl,y⟩
  ·rw[bE _ _ e]at x;exact .inl x
 refine⟨λk hk=>by rw[eL];exact G.wg k hk,λk hk=>by rw[eL];exact zcj (G.top k hk) hle,λk b hk x=>?_,λk b hk x=>by rw[eL]at x;exact zci (G.GB k b hk x) hle,λb hb=>zci (G.D5 b hb) hle,
  λk l b hk hl x y=>?_,λk l b hk hl x y=>?_,λk l a hk hl x y=>?_,λk l a hk hl x=>by rw[eL]at x⊢;exact G.mf k l a hk hl x,λk l a hk hl x y=>by rw[eL]at x y;exact G.mm k l a hk hl x y,λk a hk x=>by rw[eL]at x;exact G.spot k a hk x,λk l a hk hl x=>⟨λy=>?_,by rw[eL]at x⊢;exact(G.co k l a hk hl x).2⟩,
  λk b hk hb=>⟨λy=>?_,by rw[eL];exact(G.sh k b hk hb).2⟩,λk a hk x=>by rw[eL]at x;exact G.Tb k a hk x,λk l b hk hl x=>?_⟩
 ·rcases eo k b x with h|⟨_,_,h⟩
  ·exact zci (G.xw k b hk h) hle
  ·exact h
 ·rcases eo k b x with h|⟨h,h',_⟩ <;>rcases eo l b y with h1|⟨h1,h1',_⟩
  ·exact G.oo k l b hk hl h h1
  ·have:=G.xw k b hk h;omega
  ·have:=G.xw l b hl h1;omega
  ·rw[h,h1]
 ·rw[eL]at y;rcases eo k b x with h|⟨_,h',_⟩
  ·exact G.of k l b hk hl h y
  ·have:=G.GB l b hl y;omega
 ·rw[eL]at x;rcases eo l _ y with h|⟨_,h',_⟩
  ·exact G.mo k l a hk hl x h
  ·have:=(H k).L.J4 a x;have:=G.top k hk;omega
 ·rw[eL]at x;rcases eo l _ y with h|⟨_,h',_⟩
  ·exact(G.co k l a hk hl x).1 h
  ·have:=(H k).L.low a x;have:=G.top k hk;omega
 ·rcases eo k b y with h|⟨_,h',_⟩
  ·exact(G.sh k b hk hb).1 h
  ·have:=G.D5 b hb;omega
 ·rw[eL]at x;obtain⟨h1,h2,h3⟩:=G.Oo k l b hk hl x;refine⟨zci h1 hle,λy=>?_,by rw[eL];exact h3⟩;rcases eo l b y with h|⟨_,h',_⟩
  ·exact h2 h
  ·omega
def D6{α:Type}(f:Nat->α)(i:Nat):aR f i (f i)=f:=by funext j;unfold aR;split<;>simp_all
def Geo.size(G:Geo S n H w)(hle:w.heap.size<=w'.heap.size):Geo S n H w':=by have:=G.grow (i:=0) (w':=w') (gP:=(H 0).own) (zcl _) hle (λb x=>.inl x);rwa [D6]at this
end
def GC(h:Pl)(l:Loc):Prop:=(∃a,l=.cell a/\(h.own a.block\/h.L.Mn a))\/∃r,l=.obj r/\h.own r
def Zd(h:Pl)(l:Loc):Prop:=(∃a,l=.cell a/\(h.L.Fx a.block\/h.L.og a))\/∃r,l=.obj r/\h.L.Fx r
def Le(S:Vi)(l:Loc):Prop:=∃a,l=.cell a/\((∃q,q<S.np/\a.block=S.pt q/\a.off<2)\/a.block=S.Wg)
def lQ(S:Vi)(l:Loc):Prop:=∃a,l=.cell a/\S.Sb a.block
def xV(off j:Nat)(H:Nat->Pl)(k:Nat)(l:Loc):Prop:=off<k/\k<=off+j/\GC (H (k-off)) l
def G6(off j:Nat)(H:Nat->Pl)(k:Nat)(l:Loc):Prop:=off<k/\k<=off+j/\Zd (H (k-off)) l
section
variable {S:Vi}{n:Nat}{H:Nat->Pl}{w w':af}{O:aL}{off:Nat}
def Geo.ownRd(G:Geo S n H w)(hi:i<=n)(hk:k<=n)(h:GC (H i) l):¬Zd (H k) l:=by
 rintro(⟨a,rfl,ha⟩|⟨r,rfl,hr⟩)
 ·rcases h with⟨a',e,h⟩|⟨r,e,_⟩
  ·cases e;rcases h with h|h<;>rcases ha with ha|ha
   ·exact G.of i k _ hi hk h ha
   ·exact(G.co k i a hk hi ha).1 h
   ·exact(G.mf i k a hi hk h).1 ha
   ·exact(G.mf i k a hi hk h).2 ha
  ·cases e
 ·rcases h with⟨a',e,h⟩|⟨r',e,h⟩
  ·cases e
  ·cases e;exact G.of i k _ hi hk h hr
def Geo.Sc(G:Geo S n H w)(hi:i<=n)(hk:k<=n)(h:GC (H i) l)(h':GC (H k) l):i=k:=by
 rcases h with⟨a,rfl,h⟩|⟨r,rfl,h⟩
 ·rcases h' with⟨a',e,h'⟩|⟨r,e,_⟩
  ·cases e;rcases h with h|h<;>rcases h' with h'|h'
   ·exact G.oo i k _ hi hk h h'
   ·exact absurd h (G.mo k i a hk hi h')
   ·exact absurd h' (G.mo i k a hi hk h)
   ·exact G.mm i k a hi hk h h'
  ·cases e
 ·rcases h' with⟨a',e,h'⟩|⟨r',e,h'⟩
  ·cases e
  ·cases e;exact G.oo i k _ hi hk h h'
def Geo.Vj(G:Geo S n H w)(hi:i<=n)(h:GC (H i) l\/Zd (H i) l):¬Le S l/\¬lQ S l:=by
 have key:∀a,l=.cell a->(((H i).own a.block\/(H i).L.Fx a.block)\/((H i).L.og a\/(H i).L.Mn a)):=by
  rintro a rfl;rcases h with(⟨a',e,h⟩|⟨r,e,_⟩)|(⟨a',e,h⟩|⟨r,e,_⟩) <;>cases e
  ·exact h.elim (λx=>.inl (.inl x)) (λx=>.inr (.inr x))
  ·exact h.elim (λx=>.inl (.inr x)) (λx=>.inr (.inl x))
 constructor
 ·rintro⟨a,e,ha⟩;rcases key a e with h|h
  ·have hs:S.is a.block:=ha.imp (λ⟨q,h1,h2,_⟩=>⟨q,h1,h2⟩) id;exact h.elim (G.sh i _ hi (.inl hs)).1 (G.sh i _ hi (.inl hs)).2
  ·have q:=G.Tb i a hi h;rcases ha with⟨q',h1,h2,h3⟩|h1
   ·have:=q.2.2 q' h1 h2;omega
   ·exact q.1 h1
 ·rintro⟨a,e,ha⟩;rcases key a e with h|h
  ·exact h.elim (G.sh i _ hi (.inr ha)).1 (G.sh i _ hi (.inr ha)).2
  ·exact(G.Tb i a hi h).2.1 ha
def Geo.apart(G:Geo S n H w):Dz (Le S) (xV off n H) (G6 off n H):=
 ⟨λk k' l h h'=>by have:=G.Sc (i:=k-off) (k:=k'-off) (by have:=h.2.1;omega) (by have:=h'.2.1;omega) h.2.2 h'.2.2;have:=h.1;have:=h'.1;omega,
  λk k' l h h'=>G.ownRd (i:=k-off) (k:=k'-off) (by have:=h.2.1;omega) (by have:=h'.2.1;omega) h.2.2 h'.2.2,
  λk l h=>(G.Vj (i:=k-off) (by have:=h.2.1;omega) (.inl h.2.2)).1,λk l h=>(G.Vj (i:=k-off) (by have:=h.2.1;omega) (.inr h.2.2)).1⟩
def wy{h:Pl}(hO:O.own=h.own)(x:Es h.L O e):(ag8 e).touch?=Y ⟨e.loc,e.write,.plain⟩/\(GC h e.loc\/(Zd h e.loc/\e.write=E)):=by
 obtain⟨hs,h1⟩:=x;obtain⟨loc,wr,sy⟩:=e;simp only at hs;subst hs;rcases h1 with⟨a,rfl,h1⟩|⟨r,rfl,h1⟩
 ·refine⟨rfl,?_⟩;rcases h1 with h1|h1|⟨h1,h2⟩
  ·exact .inl (.inl ⟨a,rfl,.inl (hO▸h1)⟩)
  ·exact .inl (.inl ⟨a,rfl,.inr h1⟩)
  ·exact .inr ⟨.inl ⟨a,rfl,h1⟩,h2⟩
 ·refine⟨by cases wr<;>rfl,?_⟩;rcases h1 with h1|⟨h1,h2⟩
  ·exact .inl (.inr ⟨r,rfl,hO▸h1⟩)
  ·exact .inr ⟨.inr ⟨r,rfl,h1⟩,h2⟩
def qY{L:eI}(x:Es L O e):(∀m,e.loc≠.mark m):=by rintro m h;rcases x.2 with⟨a,e1,_⟩|⟨r,e1,_⟩ <;>rw[h]at e1<;>cases e1
def Geo.low(G:Geo S n H w){i:Nat}(hi:i<=n)(hO:O.own=(H i).own){e:aC}(x:Es (H i).L O e):(ag8 e).low w.heap.size:=by
 obtain⟨hs,h1⟩:=x;obtain⟨loc,wr,sy⟩:=e;simp only at hs;subst hs;rcases h1 with⟨a,rfl,h1⟩|⟨r,rfl,h1⟩
 ·show a.block<_;rcases h1 with h1|h1|⟨h1|h1,_⟩
  ·exact G.xw i _ hi (hO▸h1)
  ·exact zci ((H i).L.J4 a h1) (G.top i hi)
  ·exact G.GB i _ hi h1
  ·exact zci ((H i).L.low a h1) (G.top i hi)
 ·have e0:MemAct.low w.heap.size (ag8 ⟨.obj r,wr,E⟩)=(r<w.heap.size):=by cases wr<;>rfl
  rw[e0];rcases h1 with h1|⟨h1,_⟩
  ·exact G.xw i _ hi (hO▸h1)
  ·exact G.GB i _ hi h1
def Geo.okW(G:Geo S n H w)(hi:i<n)(hO:O.own=(H (i+1)).own)(x:∀e∈es,Es (H (i+1)).L O e):∀op∈ac0 (off+(i+1)) fn pos es,M8 (Le S) (lQ S) (xV off n H) (G6 off n H) (off+(i+1)) op:=by
 intro op hop;obtain⟨e,he,rfl⟩:=ad4 hop;refine⟨rfl,λy hy=>?_⟩;obtain⟨h1,h2⟩:=wy hO (x e he);rw[h1]at hy;cases hy;have e0:off+(i+1)-off=i+1:=I
 refine⟨(G.Vj (I:i+1<=n) (h2.imp id (·.1))).2,.inr ?_⟩;rcases h2 with h2|⟨h2,h3⟩
 ·exact .inl ⟨I,I,by rw[e0];exact h2⟩
 ·exact .inr ⟨⟨I,I,by rw[e0];exact h2⟩,h3⟩
def Geo.ok0(G:Geo S n H w)(hO:O.own=(H 0).own)(x:∀e∈es,Es (H 0).L O e):∀op∈ac0 0 fn pos es,UZ (Le S) (lQ S) (xV off n H) (G6 off n H) off n op:=by
 intro op hop;obtain⟨e,he,rfl⟩:=ad4 hop;refine⟨rfl,λy hy=>?_⟩;obtain⟨h1,h2⟩:=wy hO (x e he);rw[h1]at hy;cases hy;have q:=G.Vj (zcl n) (h2.imp id (·.1));refine⟨q.2,.inr ⟨q.1,λk k1 k2 h=>?_,λhw k k1 k2 h=>?_⟩⟩
 ·have hk:k-off<=n:=I
  rcases h2 with h2|⟨h2,_⟩
  ·have:=G.Sc hk (zcl n) h.2.2 h2;omega
  ·exact G.ownRd hk (zcl n) h.2.2 h2
 ·rcases h2 with h2|⟨_,h3⟩
  ·exact G.ownRd (zcl n) (I:k-off<=n) h2 h.2.2
  ·simp only at hw;rw[h3]at hw;cases hw
def Sd(hsb:∀q,q<S.np->¬S.Sb (S.pt q)){q:Nat}(hq:q<S.np)(h:Bk2 (S.pt q) e){x:Touch}(hx:(ag8 e).touch?=Y x):¬lQ S x.loc/\Le S x.loc/\x.kind≠.plain/\x.kind≠.said:=by
 have mk:∀m,e.loc=.mark m->(ag8 e)=.mark m:=by intro m hm;obtain⟨l,a,b⟩:=e;simp only at hm;subst hm;rfl
 rcases h with h|h|⟨a,h,_⟩|⟨a,wr,rfl,h1,h2,h3⟩
 ·rw[mk _ h]at hx;cases hx
 ·rw[mk _ h]at hx;cases hx
 ·rcases h with h|h<;>(rw[mk _ h]at hx;cases hx)
 ·have e1:ag8 ⟨.cell a,wr,Z6⟩=.access ⟨.cell a,wr,Z6⟩:=rfl;rw[e1]at hx;simp only[aw5,ac6]at hx;subst hx;exact⟨λ⟨a',e',hs⟩=>by cases e';exact hsb q hq (h1▸hs),⟨a,rfl,.inl ⟨q,hq,h1,h2⟩⟩,XI,XI⟩
def Vk(hsb:∀q,q<S.np->¬S.Sb (S.pt q)){Own Rd:Nat->Loc->Prop}{q:Nat}(hq:q<S.np)(h:∀e∈es,Bk2 (S.pt q) e):∀op∈ac0 k fn pos es,M8 (Le S) (lQ S) Own Rd k op:=by intro op hop;obtain⟨e,he,rfl⟩:=ad4 hop;exact⟨rfl,λx hx=>by have:=Sd hsb hq (h e he) hx;exact⟨this.1,.inl this.2⟩⟩
def Se(NB:¬S.Sb S.Wg)(h:LH S.Wg e){x:Touch}(hx:(ag8 e).touch?=Y x):¬lQ S x.loc/\Le S x.loc/\x.kind≠.plain:=by
 have mk:∀m,e.loc=.mark m->(ag8 e)=.mark m:=by intro m hm;obtain⟨l,a,b⟩:=e;simp only at hm;subst hm;rfl
 have fin:∀(a:aA),a.block=S.Wg->¬lQ S (.cell a)/\Le S (.cell a):=λa ha=>⟨λ⟨a',e',hs⟩=>by cases e';exact NB (ha▸hs),a,rfl,.inr ha⟩
 rcases h with h|h|h|h|h|⟨a,wr,rfl,h1⟩
 ·rw[mk _ h]at hx;cases hx
 ·rw[mk _ h]at hx;cases hx
 ·rw[mk _ h]at hx;cases hx
 ·rw[mk _ h]at hx;cases hx;exact⟨(fin _ rfl).1,(fin _ rfl).2,XI⟩
 ·rw[mk _ h]at hx;cases hx;exact⟨(fin _ rfl).1,(fin _ rfl).2,XI⟩
 ·have e1:ag8 ⟨.cell a,wr,Z6⟩=.access ⟨.cell a,wr,Z6⟩:=rfl;rw[e1]at hx;simp only[aw5,ac6]at hx;subst hx;exact⟨(fin a h1).1,(fin a h1).2,XI⟩
def Vl(NB:¬S.Sb S.Wg){Own Rd:Nat->Loc->Prop}(h:∀e∈es,LH S.Wg e):∀op∈ac0 0 fn pos es,UZ (Le S) (lQ S) Own Rd off j op:=by intro op hop;obtain⟨e,he,rfl⟩:=ad4 hop;exact⟨rfl,λx hx=>by have:=Se NB (h e he) hx;exact⟨this.1,.inl this.2⟩⟩
end
end
section
open Go.ConcR (KK wgBlock WgAt stA smA rd wr mk Payload Aside2 DC0)
structure Wk where
 L:eI
 q:Nat
 bw:Nat
 V:aA->aj->Prop
 own:Nat->Prop
 T:Lk
 m:Nat
 st:Nat
 fu:Nat
 df:Nat
structure Md where
 own:Nat->Prop
 c:Ct
 fu:Nat
structure Ph where
 P:aB
 S:Vi
 n:Nat
 off:Nat
 N0:Nat
 v0:aj
 L0:eI
 IX:Nat->aA->Prop
 Vx:Nat->aA->aj->Prop
 w0:af
 uY:yE
def Hd(X:Ph)(M:Md)(D:Nat->Wk):Nat->Pl
 | 0=>⟨M.own,X.L0⟩
 |i+1=>⟨(D i).own,(D i).L⟩
def iS(D:Nat->Wk)(j q i:Nat):Lk:=if i<j/\(D i).q=q then(D i).T else .out
def J9(st:Nat):Ws:=if 5<=st then .wk else if st=4 then .d2 else if st=3 then .d3 else if st=2 then .d4 else .qt
def lR(D:Nat->Wk)(j i:Nat):Ws:=if i<j then J9 (D i).st else .nb
def Fy(w w':af):Prop:=w'.tape=w.tape/\w'.output=w.output/\Go.ConcM.OsLater w.os w'.os
def Fy.refl(w:af):Fy w w:=⟨rfl,rfl,.refl _⟩
def Fy.trans{a b c:af}(h:Fy a b)(k:Fy b c):Fy a c:=⟨k.1.trans h.1,k.2.1.trans h.2.1,h.2.2.trans k.2.2⟩
def lx(b A B:Nat):Nat:=A*(b+1)+B
def tE{b B:Nat}(h:A'<A)(hb:B'<=b):lx b A' B'<lx b A B:=by unfold lx;have:=Nat.mul_le_mul_right (b+1) (show A'+1<=A from h);rw[Nat.add_mul]at this;omega
def NE{b B:Nat}(h:A'=A)(hb:B'<B):lx b A' B'<lx b A B:=by subst h;unfold lx;omega
def mA(X:Ph)(j:Nat)(M:Md)(D:Nat->Wk)(v:Nat->Nat):Nat:=10*On X.n (lR D j) M.c+sm (λq=>msA X.n (iS D j q) (v q)) X.S.np
def mB(X:Ph)(j:Nat)(D:Nat->Wk)(x:Nat->Wd):Nat:=sm (λq=>Qh X.n (iS D j q) (x q)) X.S.np
def mM(j:Nat)(D:Nat->Wk):Nat:=sm (λi=>(D i).st+(D i).m) j
def lX(X:Ph)(j:Nat)(M:Md)(D:Nat->Wk)(x:Nat->Wd)(v:Nat->Nat):Nat:=lx (13*X.n) (lx (160*X.n*X.S.np) (mA X j M D v) (mB X j D x)) (mM j D)
def Zg(x:Wd)(T:Lk):Ez x T<=160:=by cases T<;>simp only[Ez]<;>(try split) <;>omega
def Lg(X:Ph)(j:Nat)(D:Nat->Wk)(x:Nat->Wd):mB X j D x<=160*X.n*X.S.np:=BS (λq=>BS (λ_=>Zg (x q) _) _) _
def Lh{n:Nat}{D:Nat->Wk}(hj:j<=n)(h:∀i,i<j->(D i).st<=8/\(D i).m<=5):mM j D<=13*n:=by
 have key:∀k,k<=j->sm (λi=>(D i).st+(D i).m) k<=13*k:=by
  intro k;induction k with
  |zero=>intro _;simp[sm]
  |succ k ih=>intro hk;have:=ih I;have:=h k I;simp only[sm];omega
 have:=key j (zch _);unfold mM;omega
def cN.rx{P:aB}{main:Bool}{J:Jm}{L:eI}{Stop:yE}{n:Nat}{g:au}(h:cN P main J (RX L) (DX L) Stop n O g w)(hr:RX L O w w'):cN P main J (RX L) (DX L) Stop n O g w':=cN.rely (aF L) h hr
def jL(P:aB)(g g':au):Bool:=mayWake P g && g'.status != .blocked && g'.status != .waiting
def GD(P:aB)(g g':au)(w':af)(o:au):woken P g g' w' o=if jL P g g' then o.again w' else o:=rfl
variable [Payload]
abbrev Ot:Nat->Loc->Prop:=λ_ _=>False
def StW(X:Ph)(bw:Nat)(V:aA->aj->Prop)(O:aL)(g:au)(w:af):Prop:=
 O.pos=.lk .out 0/\(∀a u,V a u->w.cell? a=Y u)/\∃r,Goes X.P E (RW X.S.tw X.S.Wg bw 1 0 0) (DWs X.S.Wg Ot Ot bw 1 1) (AtR0 X.P X.S.tw X.S.Wg bw 1 0 1 X.v0) r g w
abbrev GoW(X:Ph)(d:Wk)(fu f:Nat)(g:Goroutine)(w:World):Prop:=
 cN X.P E (jo X.P E (X.S.pt d.q)) (RX d.L) (DX d.L) (StW X d.bw d.V) fu ⟨d.own,.lk d.T d.m,f⟩ g w
inductive WJ(X:Ph)(K:Nat)(d:Wk):Bool->au->af->Prop
 |run {g:au} {w:af} (f:Nat):d.st=8->d.df=x8 d.T d.m->K<=f->GoW X d d.fu f g w->WJ X K d E g w
 |iJ {g0:au} {w:af} (f:Nat):d.st=8->d.df=x8 d.T d.m->K<=f->d.fu=0->(∃sv ws,d.T=.iJ sv ws)->g0.status=.running->g0.offers=F->GoW X d 0 f g0 w->WJ X K d Z6 {g0 with status:=.blocked} w
 |lib {g:au} {w:af}:1<=d.st->d.st<=7->d.T=.out->d.m=0->(∀a u,d.V a u->w.cell? a=Y u)->WSit X.P X.S.tw X.S.Wg d.bw 1 Ot Ot 0 1 X.v0 d.st d.fu d.df g w->WJ X K d E g w
structure adt(X:Ph)(r:Nat)(d:Wk)(w:af)(own gP:Nat->Prop):Prop where
 less:∀b,gP b->own b
 d0:d.T=.vk/\d.m=1/\d.st=8/\d.df=0/\∀b,¬d.own b
 q:d.q<X.S.np
 wg:d.L.Wg=X.S.Wg/\d.L.tw=X.S.tw
 top:d.L.N<=w.heap.size
 fx:∀b,d.L.Fx b->X.L0.Fx b\/(own b/\¬gP b)
 fc:∀a,d.L.og a->X.L0.og a
 mn:∀a,d.L.Mn a->X.IX r a
 sh:∀b,d.L.Sh b->X.L0.Sh b
 bw:d.L.Fx d.bw/\own d.bw/\¬gP d.bw
 v:∀a u,d.V a u->d.L.Mn a
 vx:∀a u,X.Vx r a u->d.V a u
def Ph.bT(X:Ph)(r:Nat)(child:au)(w:af)(own gP:Nat->Prop):Prop:=
 ∃d:Wk,child.status=.running/\adt X r d w own gP/\∀f,GoW X d d.fu f child w
abbrev GoM(X:Ph)(M:Md)(fu f:Nat)(g:Goroutine)(w:World):Prop:=
 cN X.P Z6 (jc X.P X.S.tw X.S.Wg X.bT) (RX X.L0) (DX X.L0) X.uY fu ⟨M.own,.mn M.c,f⟩ g w
inductive MJ(X:Ph)(K:Nat)(M:Md):Bool->au->af->Prop
 |run {g:au} {w:af} (f:Nat):K<=f->GoM X M M.fu f g w->MJ X K M E g w
 |iJ {g0:au} {w:af} (f:Nat):K<=f->M.fu=0->M.c=.w3->g0.status=.running->g0.offers=F->GoM X M 0 f g0 w->MJ X K M Z6 {g0 with status:=.blocked} w
abbrev TrX(X:Ph)(j:Nat)(M:Md)(D:Nat->Wk)(t:Trace):Prop:=Bg (Le X.S) (lQ X.S) (xV X.off j (Hd X M D)) (G6 X.off j (Hd X M D)) X.off X.N0 t j
structure o9(X:Ph)(K j:Nat)(M:Md)(D:Nat->Wk)(B:Nat->Bool)(x:Nat->Wd)(v:Nat->Nat)(gw:Gw)(w:af)(t:Trace):Prop where
 jn:j<=X.n
 st:∀i,i<j->(D i).q<X.S.np/\(D i).L.Fx (D i).bw/\(∀a u,(D i).V a u->(D i).L.Mn a)/\(D i).st<=8/\(D i).m<=5
 Zh:∀i k,i<j->k<=j->k≠i+1->¬(Hd X M D k).L.Fx (D i).bw
 WC:∀i a,i<j->(D i).L.og a->X.L0.og a
 Vo:∀i,i<j->(∀a,(D i).L.Mn a->X.IX (X.n-i) a)/\∀a u,X.Vx (X.n-i) a u->(D i).V a u
 nY:Geo X.S j (Hd X M D) w
 mu:∀q,q<X.S.np->eE (X.S.pt q) (x q) (v q) w/\kB X.n (iS D j q) (x q) (v q)
 wg:bZ X.S.tw X.S.Wg gw w/\fY X.n (lR D j) M.c gw
 iJ:∀i,i<j->B (X.off+(i+1))=Z6->v (D i).q=0
 xW:B 0=Z6->gw.sm=0
 tr:TrX X j M D t
 WE:Deaf t 0=LG M.c
 Vp:∀i,i<j->Deaf t (X.off+(i+1))=(D i).df
 Zi:∀k,X.off+j<k->Deaf t k=0
 low:∀i a,X.N0<=i->touchAt t i=Y a->a.loc.low w.heap.size
 NF:∀k,X.N0<=k->t.act? k≠Y (.mark (.release (stA X.S.Wg)))
 rel:∀i,i<j->(D i).st<=6->∃r,jJ (stA X.S.Wg) X.S.Wg t (X.off+(i+1)) r/\X.N0<=r
 acq:M.c=.rt->∃q,t.act? q=Y (.mark (.acquire (stA X.S.Wg)))/\t.g? q=Y 0/\t.heard q/\∀i,i<j->∃r,(jJ (stA X.S.Wg) X.S.Wg t (X.off+(i+1)) r/\X.N0<=r)/\r<q
 NG:lX X j M D x v<K
 kp:Fy X.w0 w
structure Inv(X:Ph)(K j:Nat)(M:Md)(D:Nat->Wk)(B:Nat->Bool)(x:Nat->Wd)(v:Nat->Nat)(gw:Gw)(qs:Nat->Nat)(gs:Array au)(w:af)(t:Trace):Prop where
 size:gs.size=X.off+j+1
 main:∃a,gs[0]?=Y a/\MJ X K M (B 0) a w
 sR:∀i,1<=i->i<=X.off->∃g,gs[i]?=Y g/\QuitsD X.P (qs i) (Deaf t i) g
 wk:∀i,i<j->∃g,gs[X.off+(i+1)]?=Y g/\WJ X K (D i) (B (X.off+(i+1))) g w
 env:o9 X K j M D B x v gw w t
structure rJ(X:Ph):Prop where
 inj:∀q q',q<X.S.np->q'<X.S.np->X.S.pt q=X.S.pt q'->q=q'
 WB:∀q,q<X.S.np->X.S.pt q≠X.S.Wg
 psb:∀q,q<X.S.np->¬X.S.Sb (X.S.pt q)
 Z2:¬X.S.Sb X.S.Wg
 ix:∀r a,X.IX r a->a.spot=F/\X.L0.Sh a.block/\¬X.L0.Mn a/\¬X.L0.og a/\a.block≠X.S.Wg/\¬X.S.Sb a.block/\∀q,q<X.S.np->a.block≠X.S.pt q
 ixd:∀r r' a,X.IX r a->X.IX r' a->r=r'
 big:X.n<=900
 stop:∀O g w,X.uY O g w->O.pos=.mn .rt/\g.status=.running
 two:∀O g w w',X.uY O g w->RX X.L0 O w w'->X.uY O g w'
section
variable {X:Ph}{K K':Nat}{d:Wk}{M:Md}{b:Bool}{g:au}{w w':af}
def Si{L:eI}{bw Wg:Nat}{tw:az}(hx:RX L O w w')(hf:L.Fx bw)(hlt:bw<w.heap.size)(h1:L.Wg=Wg)(h2:L.tw=tw):RW tw Wg bw 1 0 0 w w':=by subst h1 h2;have e:=hx.blk bw hlt (.inr hf);exact⟨λb hb=>absurd hb (Nat.not_lt_zero _),λh=>hx.live h,λ⟨cs,hc,hn⟩=>⟨cs,e.trans hc,hn⟩,cell_of_block e 0⟩
def WJ.rely(h:WJ X K d b g w)(hr:∀O:aL,O.own=d.own->RX d.L O w w')(hb:d.L.Fx d.bw)(hlt:d.bw<w.heap.size)(hw:d.L.Wg=X.S.Wg/\d.L.tw=X.S.tw)(hV:∀a u,d.V a u->d.L.Mn a):WJ X K d b g w':=by
 cases h with
 |run f h1 h2 h3 h4=>exact .run f h1 h2 h3 (h4.rx (hr _ rfl))
 |iJ f h1 h2 h3 h4 h6 h7 h8 h9=>exact .iJ f h1 h2 h3 h4 h6 h7 h8 (h9.rx (hr _ rfl))
 |lib h1 h2 h3 h4 h5 h6=>
  have r:=hr ⟨d.own,.lk .out 0,0⟩ rfl;exact .lib h1 h2 h3 h4 (λa u hu=>(r.mn a (hV a u hu)).1.trans (h5 a u hu)) (h6.rely (Si r hb hlt hw.1 hw.2))
def WJ.le(h:WJ X K d b g w)(hK:K'<=K):WJ X K' d b g w:=by
 cases h with
 |run f h1 h2 h3 h4=>exact .run f h1 h2 (zcj hK h3) h4
 |iJ f h1 h2 h3 h4 h6 h7 h8 h9=>exact .iJ f h1 h2 (zcj hK h3) h4 h6 h7 h8 h9
 |lib h1 h2 h3 h4 h5 h6=>exact .lib h1 h2 h3 h4 h5 h6
def MJ.rely(h:MJ X K M b g w)(hr:∀O:aL,O.own=M.own->RX X.L0 O w w'):MJ X K M b g w':=by
 cases h with
 |run f h1 h2=>exact .run f h1 (h2.rx (hr _ rfl))
 |iJ f h1 h2 h3 h4 h5 h6=>exact .iJ f h1 h2 h3 h4 h5 (h6.rx (hr _ rfl))
def MJ.le(h:MJ X K M b g w)(hK:K'<=K):MJ X K' M b g w:=by
 cases h with
 |run f h1 h2=>exact .run f (zcj hK h1) h2
 |iJ f h1 h2 h3 h4 h5 h6=>exact .iJ f (zcj hK h1) h2 h3 h4 h5 h6
def WJ.status(h:WJ X K d b g w)(hK:1<=K):if b then g.status=.blocked else(g.status=.running\/g.status=.finished):=by
 cases h with
 |run f h1 h2 h3 h4=>
  rcases cN.ways h4 (by simp only;omega)with(h|h)|⟨_,_,h,_⟩
  ·obtain⟨_,_,r,hg⟩:=h w (RX.refl _ _);exact .inl (av7 (λ_ _ x=>x.1) w (RW.refl w) hg)
  ·exact .inl h.1
  ·exact .inl h
 |iJ=>rfl
 |lib _ _ _ _ _ h=>exact h.status
def MJ.status(hX:rJ X)(h:MJ X K M b g w)(hK:1<=K):g.status=if b then .blocked else .running:=by
 cases h with
 |run f h1 h2=>
  rcases cN.ways h2 (by simp only;omega)with(h|h)|⟨_,_,h,_⟩
  ·exact(hX.stop _ _ _ (h w (RX.refl _ _))).2
  ·exact h.1
  ·exact h
 |iJ=>rfl
def WJ.woken(h:WJ X K d b g w)(hK:1<=K)(a a':au)(wa:af):WJ X K d (b && !jL X.P a a') (woken X.P a a' wa g) w:=by
 rw[GD];have hs:=h.status hK;cases h with
 |run f h1 h2 h3 h4=>rw[bh2 _ hs,ite_self];exact .run f h1 h2 h3 h4
 |iJ f h1 h2 h3 h4 h6 h7 h8 h9=>
  cases jL X.P a a' with
  |false=>exact .iJ f h1 h2 h3 h4 h6 h7 h8 h9
  |true=>
   simp only[if_true];rw[be8 h7 h8];exact .run f h1 h2 h3 (h4▸h9)
 |lib h1 h2 h3 h4 h5 h6=>rw[bh2 _ hs,ite_self];exact .lib h1 h2 h3 h4 h5 h6
def MJ.woken(hX:rJ X)(h:MJ X K M b g w)(hK:1<=K)(a a':au)(wa:af):MJ X K M (b && !jL X.P a a') (woken X.P a a' wa g) w:=by
 rw[GD];have hs:=h.status hX hK;cases h with
 |run f h1 h2=>rw[bh2 _ (.inl hs),ite_self];exact .run f h1 h2
 |iJ f h1 h2 h3 h4 h5 h6=>
  cases jL X.P a a' with
  |false=>exact .iJ f h1 h2 h3 h4 h5 h6
  |true=>
   simp only[if_true];rw[be8 h4 h5];exact .run f h1 (h2▸h6)
end
end
section
open Go.ConcR (KK wgBlock WgAt stA smA rd wr mk Payload Aside2 DC0)
def mR{N0:Nat}(h:∀k,N0<=k->t.act? k≠Y (.mark (.release a))){g:Nat}(hes:∀e∈es,e.loc≠.mark (.release a)):∀k,N0<=k->(t++ac0 g fn pos es).act? k≠Y (.mark (.release a)):=by
 intro k hk0 hk;obtain⟨op,ho,hx⟩:=zcp.1 hk;rcases ae1 ho with⟨hlt,h1⟩|⟨_,h1⟩
 ·exact h k hk0 (by simp[Trace.act?,h1,hx])
 ·obtain⟨e,he,rfl⟩:=ad4 h1;exact hes e he (Go.ConcR.loc_of_ofEvent hx)
def kG{g:Nat}:∀op∈ac0 g fn pos es,op.g=g:=λop hop=>by obtain⟨e,_,rfl⟩:=ad4 hop;rfl
def yy{B N0:Nat}(h:∀i a,N0<=i->touchAt t i=Y a->a.loc.low B)(hB:B<=B'){g:Nat}(hes:∀e∈es,∀y,(ag8 e).touch?=Y y->y.loc.low B):∀i a,N0<=i->touchAt (t++ac0 g fn pos es) i=Y a->a.loc.low B':=by
 intro i a hi0 ha;obtain⟨op,ho,hx⟩:=at8 ha;rcases ae1 ho with⟨_,h1⟩|⟨_,h1⟩
 ·exact Go.Loc.low_mono hB (h i a hi0 (by rw[touchAt_of h1];exact hx))
 ·obtain⟨e,he,rfl⟩:=ad4 h1;exact Go.Loc.low_mono hB (hes e he a hx)
def D7{Wg off N0:Nat}
 (h:∃q,t.act? q=Y (.mark (.acquire (stA Wg)))/\t.g? q=Y 0/\t.heard q/\∀i,i<j->∃r,(jJ (stA Wg) Wg t (off+(i+1)) r/\N0<=r)/\r<q)
 (hu:∀i r,i<j->jJ (stA Wg) Wg t (off+(i+1)) r->jJ (stA Wg) Wg (t++u) (off+(i+1)) r):
 ∃q,(t++u).act? q=Y (.mark (.acquire (stA Wg)))/\(t++u).g? q=Y 0/\(t++u).heard q/\∀i,i<j->∃r,(jJ (stA Wg) Wg (t++u) (off+(i+1)) r/\N0<=r)/\r<q:=by obtain⟨q,h1,h2,h3,h4⟩:=h;have hq:=lt_of_act? h1;exact⟨q,by rw[act?_old hq];exact h1,by rw[g?_old hq];exact h2,(heard_old hq).2 h3,λi hi=>let ⟨r,hr,hrq⟩:=h4 i hi;⟨r,⟨hu i r hi hr.1,hr.2⟩,hrq⟩⟩
def rK(P:aB)(B:Nat->Bool)(idx:Nat)(b:Bool)(g g':au):Nat->Bool:=λk=>if k=idx then b else(B k && !jL P g g')
section
variable {X:Ph}{M M':Md}{D:Nat->Wk}{i:Nat}{d':Wk}
structure jM(d d':Wk):Prop where
 L:d'.L=d.L
 q:d'.q=d.q
 bw:d'.bw=d.bw
 V:d'.V=d.V
def jM.D8(h:jM (D i) d')(k:Nat):(aR D i d' k).L=(D k).L:=by unfold aR;split<;>simp_all [h.L]
def jM.Vq(h:jM (D i) d')(k:Nat):(aR D i d' k).q=(D k).q:=by unfold aR;split<;>simp_all [h.q]
def jM.Li(h:jM (D i) d')(k:Nat):(aR D i d' k).bw=(D k).bw:=by unfold aR;split<;>simp_all [h.bw]
def jM.Vr(h:jM (D i) d')(k:Nat):(aR D i d' k).V=(D k).V:=by unfold aR;split<;>simp_all [h.V]
def jM.mI(h:jM (D i) d')(k:Nat):(Hd X M (aR D i d') k).L=(Hd X M D k).L:=by
 cases k with
 |zero=>rfl
 |succ k=>exact h.D8 k
def jM.hd(h:jM (D i) d'):Hd X M (aR D i d')=aR (Hd X M D) (i+1) ⟨d'.own,(Hd X M D (i+1)).L⟩:=by
 funext k;cases k with
 |zero=>rw[bE _ _ I];rfl
 |succ k=>
  by_cases e:k=i
  ·subst e;rw[aV];simp only[Hd,aV,h.L]
  ·rw[bE _ _ I];simp only[Hd,bE _ _ e]
def Vs:Hd X M' D=aR (Hd X M D) 0 ⟨M'.own,(Hd X M D 0).L⟩:=by
 funext k;cases k with
 |zero=>rw[aV];rfl
 |succ k=>rw[bE _ _ I];rfl
def Sj{off:Nat}{H H':Nat->Pl}(h:∀k,(H' k).L=(H k).L):G6 off j H'=G6 off j H:=by funext k l;unfold G6 Zd;rw[h]
def NH{off:Nat}:xV off j (Hd X M' D)=xV off j (Hd X M D):=by
 funext k l;unfold xV;apply propext;constructor
 ·rintro⟨h1,h2,h3⟩;refine⟨h1,h2,?_⟩;obtain⟨m,hm⟩:∃m,k-off=m+1:=⟨k-off-1,I⟩
  rw[hm]at h3⊢;exact h3
 ·rintro⟨h1,h2,h3⟩;refine⟨h1,h2,?_⟩;obtain⟨m,hm⟩:∃m,k-off=m+1:=⟨k-off-1,I⟩
  rw[hm]at h3⊢;exact h3
def Sk{off:Nat}:G6 off j (Hd X M' D)=G6 off j (Hd X M D):=Sj λk=>by cases k<;>rfl
end
section
variable {X:Ph}{K K' j:Nat}{M M':Md}{D D':Nat->Wk}{B B':Nat->Bool}{x x':Nat->Wd}{v v':Nat->Nat}{gw kU:Gw}{qs Lj:Nat->Nat}{gs:Array au}{w w':af}{t:Trace}{sl:Option (Nat×Nat)}
def Sl(L:eI)(O:aL)(w:af)(d:Nat):RX L O w (w.at d):=⟨zch _,λ_ _ _=>rfl,λ_ _=>rfl,λ_ _=>⟨rfl,rfl⟩,λ_ c _ _ _ h=>⟨c,h,rfl⟩,id⟩
def o9.stepW(P6:o9 X K j M D B x v gw w t)(hi:i<j){d':Wk}(hs:jM (D i) d')(hst:d'.st<=8/\d'.m<=5)
 (hle:w.heap.size<=w'.heap.size) (hown:∀b,d'.own b↔((D i).own b\/(w.heap.size<=b/\b<w'.heap.size)))
 (Zf:∀q,q<X.S.np->eE (X.S.pt q) (x' q) (v' q) w'/\kB X.n (iS (aR D i d') j q) (x' q) (v' q)) (hwg:bZ X.S.tw X.S.Wg kU w'/\fY X.n (lR (aR D i d') j) M.c kU)
 (hB:∀k,k<j->B' (X.off+(k+1))=Z6->v' (D k).q=0) (qQ:B' 0=Z6->kU.sm=0)
 (hok:∀op∈ac0 (X.off+(i+1)) fn pos es,M8 (Le X.S) (lQ X.S) (xV X.off j (Hd X M D)) (G6 X.off j (Hd X M D)) (X.off+(i+1)) op)
 (hdf:ad2 (D i).df es=d'.df) (FM:∀e∈es,∀y,(ag8 e).touch?=Y y->y.loc.low w.heap.size) (hnr:∀e∈es,e.loc≠.mark (.release (stA X.S.Wg)))
 (hrel:d'.st<=6->∃r,jJ (stA X.S.Wg) X.S.Wg (t++ac0 (X.off+(i+1)) fn pos es) (X.off+(i+1)) r/\X.N0<=r)
 (Ax:M.c=.rt->∀op∈ac0 (X.off+(i+1)) fn pos es,op.act.touch?=F) (Zj:lX X j M (aR D i d') x' v'<K') (hkp:Fy w w'):
 o9 X K' j M (aR D i d') B' x' v' kU w' (t++ac0 (X.off+(i+1)) fn pos es):=by
 have hne:∀k,k≠i->X.off+(i+1)≠X.off+(k+1):=λk h e=>h I;have NI:Geo X.S j (Hd X M (aR D i d')) w':=by rw[hs.hd];exact P6.nY.grow (i:=i+1) I hle λb hb=>(hown b).1 hb
 refine⟨P6.jn,λk hk=>?_,λa k ha hk hka=>?_,λk a hk=>by rw[hs.D8];exact P6.WC k a hk,λk hk=>by rw[hs.D8,hs.Vr];exact P6.Vo k hk,NI,Zf,hwg,λk hk hb=>by rw[hs.Vq];exact hB k hk hb,qQ,?_,?_,λk hk=>?_,λk hk=>?_,yy P6.low hle FM,mR P6.NF hnr,λk hk h6=>?_,λhc=>?_,Zj,P6.kp.trans hkp⟩
 ·obtain⟨q1,q2,q3,q4⟩:=P6.st k hk;refine⟨by rw[hs.Vq];exact q1,by rw[hs.D8,hs.Li];exact q2,by rw[hs.D8,hs.Vr];exact q3,?_⟩;by_cases e:k=i
  ·subst e;rw[aV];exact hst
  ·rw[bE _ _ e];exact q4
 ·rw[hs.mI,hs.Li];exact P6.Zh a k ha hk hka
 ·have h1:=P6.tr.appW (P6.nY.apart (off:=X.off)) (k:=X.off+(i+1)) I I hok;have eR:G6 X.off j (Hd X M (aR D i d'))=G6 X.off j (Hd X M D):=Sj λk=>hs.mI k;unfold TrX;rw[eR];refine h1.grow (λk l h=>?_) (λk l h=>?_)
  ·refine⟨h.1,h.2.1,?_⟩;have h3:=h.2.2;rw[hs.hd];by_cases e:k-X.off=i+1
   ·rw[e]at h3⊢;rw[aV];exact h3.imp (λ⟨a,e1,e2⟩=>⟨a,e1,e2.imp (λy=>(hown _).2 (.inl y)) id⟩) (λ⟨r,e1,e2⟩=>⟨r,e1,(hown _).2 (.inl e2)⟩)
   ·rw[bE _ _ e];exact h3
  ·have h3:=h.2.2;rw[hs.hd]at h3;by_cases e:k-X.off=i+1
   ·rw[e,aV]at h3;have hl0:=yy (B':=w.heap.size) (g:=X.off+(i+1)) (fn:=fn) (pos:=pos) P6.low (zch _) FM;rcases h3 with⟨a,rfl,h3|h3⟩|⟨r,rfl,h3⟩
    ·rcases(hown _).1 h3 with h4|h4
     ·exact .inl ⟨h.1,h.2.1,by rw[e];exact .inl ⟨a,rfl,.inl h4⟩⟩
     ·refine .inr λm y hm0 hy ey=>?_;have:=hl0 m y hm0 hy;rw[ey]at this;have:a.block<w.heap.size:=this;omega
    ·exact .inl ⟨h.1,h.2.1,by rw[e];exact .inl ⟨a,rfl,.inr h3⟩⟩
    ·rcases(hown _).1 h3 with h4|h4
     ·exact .inl ⟨h.1,h.2.1,by rw[e];exact .inr ⟨r,rfl,h4⟩⟩
     ·refine .inr λm y hm0 hy ey=>?_;have:=hl0 m y hm0 hy;rw[ey]at this;have:r<w.heap.size:=this;omega
   ·rw[bE _ _ e]at h3;exact .inl ⟨h.1,h.2.1,h3⟩
 ·rw[ao0 t I _ kG];exact P6.WE
 ·by_cases e:k=i
  ·subst e;rw[Deaf_own,aV,P6.Vp k hk];exact hdf
  ·rw[ao0 t (hne k e) _ kG,bE _ _ e];exact P6.Vp k hk
 ·rw[ao0 t I _ kG];exact P6.Zi k hk
 ·by_cases e:k=i
  ·subst e;rw[aV]at h6;exact hrel h6
  ·rw[bE _ _ e]at h6;obtain⟨r,hr⟩:=P6.rel k hk h6;exact⟨r,hr.1.appOther kG (hne k e),hr.2⟩
 ·exact D7 (P6.acq hc) λk r _ hr=>hr.appMute (Ax hc)
def o9.step0(P6:o9 X K j M D B x v gw w t)
 (hle:w.heap.size<=w'.heap.size) (hown:∀b,M'.own b->M.own b\/(w.heap.size<=b/\b<w'.heap.size))
 (Zf:∀q,q<X.S.np->eE (X.S.pt q) (x q) (v q) w') (hwg:bZ X.S.tw X.S.Wg kU w'/\fY X.n (lR D j) M'.c kU)
 (hB:∀k,k<j->B' (X.off+(k+1))=Z6->v (D k).q=0) (qQ:B' 0=Z6->kU.sm=0)
 (hok:∀op∈ac0 0 fn pos es,UZ (Le X.S) (lQ X.S) (xV X.off j (Hd X M D)) (G6 X.off j (Hd X M D)) X.off j op)
 (hdf:ad2 (LG M.c) es=LG M'.c) (FM:∀e∈es,∀y,(ag8 e).touch?=Y y->y.loc.low w.heap.size) (hnr:∀e∈es,e.loc≠.mark (.release (stA X.S.Wg)))
 (hacq:M'.c=.rt->(M.c=.rt\/(∀i,i<j->(D i).st<=6)/\es=#[ba1 (.acquire (stA X.S.Wg))]/\LG M.c=0)) (Zj:lX X j M' D x v<K') (hkp:Fy w w'):
 o9 X K' j M' D B' x v kU w' (t++ac0 0 fn pos es):=by
 have NI:Geo X.S j (Hd X M' D) w':=by rw[Vs (M:=M)];exact P6.nY.grow (i:=0) (zcl _) hle λb hb=>hown b hb
 have hrel:∀k r,jJ (stA X.S.Wg) X.S.Wg t (X.off+(k+1)) r->jJ (stA X.S.Wg) X.S.Wg (t++ac0 0 fn pos es) (X.off+(k+1)) r:=λk r hr=>hr.appOther kG I;refine⟨P6.jn,P6.st,λa k ha hk hka=>?_,P6.WC,P6.Vo,NI,λq hq=>⟨Zf q hq,(P6.mu q hq).2⟩,hwg,hB,qQ,?_,?_,λk hk=>?_,λk hk=>?_,yy P6.low hle FM,mR P6.NF hnr,λk hk h6=>?_,λhc=>?_,Zj,P6.kp.trans hkp⟩
 ·have:=P6.Zh a k ha hk hka;cases k<;>exact this
 ·unfold TrX;rw[NH (M:=M),Sk (M:=M)];exact P6.tr.app0 (P6.nY.apart (off:=X.off)) hok
 ·rw[Deaf_own,P6.WE];exact hdf
 ·rw[ao0 t I _ kG];exact P6.Vp k hk
 ·rw[ao0 t I _ kG];exact P6.Zi k hk
 ·obtain⟨r,hr⟩:=P6.rel k hk h6;exact⟨r,hrel k r hr.1,hr.2⟩
 ·rcases hacq hc with h1|⟨h1,rfl,h0⟩
  ·exact D7 (P6.acq h1) λk r _ hr=>hrel k r hr
  ·have e1:ac0 0 fn pos #[ba1 (.acquire (stA X.S.Wg))]=#[{g:=0,fn,pos,act:=.mark (.acquire (stA X.S.Wg))}]:=by rw[bg0];simp[ba1,ag8]
   have hy:(t++#[({g:=0,fn,pos,act:=.mark (.acquire (stA X.S.Wg))}:MemOp)])[t.size]?=Y {g:=0,fn,pos,act:=.mark (.acquire (stA X.S.Wg))}:=XI
   refine⟨t.size,by rw[e1,act?_of hy],by rw[e1];simp[Trace.g?],⟨0,by rw[e1];simp[Trace.g?],by rw[deaf_old (zch _)];exact P6.WE.trans h0⟩,λk hk=>?_⟩;obtain⟨r,hr⟩:=P6.rel k hk (h1 k hk);exact⟨r,⟨hrel k r hr.1,hr.2⟩,lt_of_act? hr.1.act⟩
def o9.Qm(P6:o9 X K j M D B x v gw w t)(h1:1<=idx)(h2:idx<=X.off)(hm:∀e∈es,e.mute=Z6)
 (hB:∀k,B' k=Z6->B k=Z6):o9 X K j M D B' x v gw w (t++ac0 idx fn pos es):=by
 have hn:∀op∈ac0 idx fn pos es,op.act.touch?=F:=λop hop=>by obtain⟨e,he,rfl⟩:=ad4 hop;exact be4 (hm e he)
 refine⟨P6.jn,P6.st,P6.Zh,P6.WC,P6.Vo,P6.nY,P6.mu,P6.wg,λk hk h=>P6.iJ k hk (hB _ h),λh=>P6.xW (hB _ h),P6.tr.appMute I kG hn,?_,λk hk=>?_,λk hk=>?_,yy P6.low (zch _) (λe he y hy=>by rw[be4 (hm e he)]at hy;cases hy),mR P6.NF λe he h=>?_,λk hk h6=>?_,λhc=>D7 (P6.acq hc) λk r _ hr=>hr.appMute hn,P6.NG,P6.kp⟩
 ·rw[ao0 t I _ kG];exact P6.WE
 ·rw[ao0 t I _ kG];exact P6.Vp k hk
 ·rw[ao0 t I _ kG];exact P6.Zi k hk
 ·have:=hm e he;obtain⟨l,a,b⟩:=e;simp only at h;subst h;simp[Event.mute]at this
 ·obtain⟨r,hr⟩:=P6.rel k hk h6;exact⟨r,hr.1.appMute hn,hr.2⟩
end
variable [Payload]
section
variable {X:Ph}{K K' j:Nat}{M M':Md}{D D':Nat->Wk}{B B':Nat->Bool}{x x':Nat->Wd}{v v':Nat->Nat}{gw kU:Gw}{qs Lj:Nat->Nat}{gs:Array au}{w w':af}{t:Trace}{sl:Option (Nat×Nat)}
def Inv.step(hX:rJ X)(Lt:Inv X K j M D B x v gw qs gs w t)(hK':1<=K')(hKK:K'<=K){g:au}(hg:gs[idx]?=Y g)(hgo:stepG X.P (idx == 0) g w=.go g' w' es){b:Bool}
 (hM:idx≠0->M'=M) (hD:∀i,i<j->idx≠X.off+(i+1)->D' i=D i) (hq:∀i,i≠idx->Lj i=qs i)
 (ahV:idx≠0->∀O:aL,O.own=M.own->RX X.L0 O w w') (Pk:∀i,i<j->idx≠X.off+(i+1)->∀O:aL,O.own=(D i).own->RX (D i).L O w w')
 (j0:idx=0->MJ X K' M' b g' w') (jw:∀i,i<j->idx=X.off+(i+1)->WJ X K' (D' i) b g' w') (jl:1<=idx->idx<=X.off->QuitsD X.P (Lj idx) (ad2 (Deaf t idx) es) g')
 (hE:o9 X K' j M' D' (rK X.P B idx b g g') x' v' kU w' (t++ac0 idx g.frame.fn g.frame.place es)):
 runT X.P (crowd gs w sl) idx=(.next (crowd ((gs.map (woken X.P g g' w')).setIfInBounds idx g') w' sl),ac0 idx g.frame.fn g.frame.place es)/\
  Inv X K' j M' D' (rK X.P B idx b g g') x' v' kU Lj ((gs.map (woken X.P g g' w')).setIfInBounds idx g') w' (t++ac0 idx g.frame.fn g.frame.place es):=by
 have hlt:idx<gs.size:=(zck.1 hg).1
 refine⟨runT_crowd_go hg hgo,by simp[Lt.size],?_,λi h1 h2=>?_,λi hi=>?_,hE⟩
 ·by_cases e:idx=0
  ·refine⟨g',by rw[<-e];exact get_map_set_same _ _ _ hlt,?_⟩
   have:rK X.P B idx b g g' 0=b:=by simp[rK,e]
   rw[this]
   exact j0 e
  ·obtain⟨a,ha,hj⟩:=Lt.main
   refine⟨woken X.P g g' w' a,by rw[get_map_set _ _ _ _ e,ha];rfl,?_⟩
   have:rK X.P B idx b g g' 0=(B 0 && !jL X.P g g'):=by simp[rK,Ne.symm e]
   rw[this,hM e]
   exact((hj.rely (ahV e)).le hKK).woken hX hK' g g' w'
 ·by_cases e:idx=i
  ·subst e
   exact⟨g',get_map_set_same _ _ _ hlt,by rw[Deaf_own];exact jl h1 h2⟩
  ·obtain⟨a,ha,hj⟩:=Lt.sR i h1 h2
   refine⟨woken X.P g g' w' a,by rw[get_map_set _ _ _ _ e,ha];rfl,?_⟩
   rw[woken_quitsD hj,ao0 t e _ kG,hq i (Ne.symm e)]
   exact hj
 ·by_cases e:idx=X.off+(i+1)
  ·refine⟨g',by rw[<-e];exact get_map_set_same _ _ _ hlt,?_⟩
   have:rK X.P B idx b g g' (X.off+(i+1))=b:=by simp[rK,e]
   rw[this]
   exact jw i hi e
  ·obtain⟨a,ha,hj⟩:=Lt.wk i hi
   refine⟨woken X.P g g' w' a,by rw[get_map_set _ _ _ _ e,ha];rfl,?_⟩
   have:rK X.P B idx b g g' (X.off+(i+1))=(B (X.off+(i+1))&& !jL X.P g g'):=by simp[rK,Ne.symm e]
   rw[this,hD i hi e]
   obtain⟨q1,q2,q3,_⟩:=Lt.env.st i hi
   exact((hj.rely (Pk i hi e) q2 (Lt.env.nY.GB (i+1) _ I q2) (Lt.env.nY.wg (i+1) I) q3).le hKK).woken hK' g g' w'
def Inv.at(Lt:Inv X K j M D B x v gw qs gs w t)(d:Nat):Inv X K j M D B x v gw qs gs (w.at d) t:=by
 refine⟨Lt.size,?_,Lt.sR,λi hi=>?_,?_⟩
 ·obtain⟨a,ha,hj⟩:=Lt.main;exact⟨a,ha,hj.rely λO _=>Sl _ O w d⟩
 ·obtain⟨a,ha,hj⟩:=Lt.wk i hi;obtain⟨q1,q2,q3,_⟩:=Lt.env.st i hi;exact⟨a,ha,hj.rely (λO _=>Sl _ O w d) q2 (Lt.env.nY.GB (i+1) _ I q2) (Lt.env.nY.wg (i+1) I) q3⟩
 ·obtain⟨h1,h2,h3,h4,h5,h6,h7,h8,h9,KC,h11,h12,h13,Xo,h15,h16,h17,h18,h19,Xl⟩:=Lt.env;exact⟨h1,h2,h3,h4,h5,h6.size (zch _),λq hq=>⟨⟨(h7 q hq).1.word,(h7 q hq).1.sema,(h7 q hq).1.thaw⟩,(h7 q hq).2⟩,h8,h9,KC,h11,h12,h13,Xo,h15,h16,h17,h18,h19,Xl⟩
end
end
section
open Go.ConcR (KK wgBlock WgAt stA smA rd wr mk Payload Aside2 DC0)
def Cu{f g:Nat->Nat}{q:Nat}:∀{n:Nat},q<n->(∀k,k<n->k≠q->f k=g k)->sm f n+g q=sm g n+f q
 |n+1,h,he=>by
  rcases zco q n with hlt|hge
  ·have:=Cu hlt λk hk hne=>he k I hne;have:=he n I I;simp only[sm];omega
  ·obtain rfl:q=n:=I
   simp only[sm];rw[zg (f:=f) (g:=g) λk hk=>he k I I];omega
section
variable {S:Vi}{n i q:Nat}{H:Nat->Pl}{w w':af}{O:aL}{es:Array aC}
def eE.Ay{v:Nat}(h:eE pb x v w)(e:w'.heap[pb]?=w.heap[pb]?):eE pb x v w':=
 ⟨by rw[<-h.word];simp[ad3,e],by rw[<-h.sema];simp[ad3,e],λo=>by rw[<-h.thaw o];simp[aj2,e]⟩
def Geo.WG(G:Geo S n H w)(hi:i<=n)(hO:O.own=(H i).own)(hq:q<S.np)(d:DX (H i).L O w w' es){v:Nat}(h:eE (S.pt q) x v w):eE (S.pt q) x v w':=by
 have hlt:=G.D5 (S.pt q) (.inl (.inl ⟨q,hq,rfl⟩));rcases d.blk (S.pt q) hlt (λy=>(G.sh i _ hi (.inl (.inl ⟨q,hq,rfl⟩))).1 (hO▸y))with e|⟨c,c',e,f,h1,h2,h3,h4⟩
 ·exact h.Ay e
 ·have k:∀o,o<2->c'[o]?=c[o]? :=λo ho=>h4 o λhm=>by have:=(G.Tb i _ hi (.inr hm)).2.2 q hq rfl;simp only at this;omega
  have a1:=h.word;have a2:=h.sema;have a3:=h.thaw;simp only[ad3,aj2,h1]at a1 a2 a3;exact⟨by simp only[ad3,h2];rw[k 0 I];exact a1,by simp only[ad3,h2];rw[k 1 I];exact a2,λo=>by simp only[aj2,h2];exact a3 o⟩
def Geo.WH(G:Geo S n H w)(hi:i<=n)(hO:O.own=(H i).own)(d:DX (H i).L O w w' es):w'.heap[S.Wg]?=w.heap[S.Wg]? :=by
 have hlt:=G.D5 S.Wg (.inl (.inr rfl));rcases d.blk S.Wg hlt (λy=>(G.sh i _ hi (.inl (.inr rfl))).1 (hO▸y))with e|⟨c,c',e,f,h1,h2,h3,h4⟩
 ·exact e
 ·rw[h1,h2,Array.same λj=>h4 j λhm=>(G.Tb i _ hi (.inr hm)).1 rfl]
def Cv(h:∀e∈es,Es (H i).L O e)(d:Nat):ad2 d es=d:=Go.ConcN.deafBehind_idle (λe he=>⟨qY (h e he) _,qY (h e he) _⟩) d
def Geo.adv(G:Geo S n H w)(hi:i<=n)(hO:O.own=(H i).own)(h:Es (H i).L O e)(hy:(ag8 e).touch?=Y y):y.loc.low w.heap.size:=by
 have h1:=G.low hi hO h;obtain⟨h2,_⟩:=wy hO h;rw[h2]at hy;cases hy;obtain⟨hs,h3⟩:=h;obtain⟨loc,wr,sy⟩:=e;simp only at hs;subst hs;rcases h3 with⟨a,rfl,_⟩|⟨r,rfl,_⟩
 ·exact h1
 ·cases wr<;>exact h1
end
def Wk.fuel(d:Wk)(fu:Nat):Wk:=⟨d.L,d.q,d.bw,d.V,d.own,d.T,d.m,d.st,fu,d.df⟩
def Wk.stage(d:Wk)(st fu df:Nat):Wk:=⟨d.L,d.q,d.bw,d.V,d.own,d.T,d.m,st,fu,df⟩
def Wk.place(d:Wk)(T:Lk)(m fu:Nat):Wk:=⟨d.L,d.q,d.bw,d.V,d.own,T,m,d.st,fu,x8 T m⟩
def Wk.grown(d:Wk)(w w':af)(fu:Nat):Wk:=⟨d.L,d.q,d.bw,d.V,λb=>d.own b\/(w.heap.size<=b/\b<w'.heap.size),d.T,d.m,d.st,fu,d.df⟩
section
variable {D:Nat->Wk}{i j q:Nat}{d':Wk}
def lS(h1:d'.T=(D i).T)(h2:d'.q=(D i).q):iS (aR D i d') j q=iS D j q:=by
 funext k;unfold iS aR;by_cases e:k=i
 ·subst e;simp[h1,h2]
 ·simp[e]
def Vt(hi:i<j)(h2:d'.q=(D i).q)(hq:(D i).q=q):iS (aR D i d') j q=aR (iS D j q) i d'.T:=by
 funext k;unfold iS aR;by_cases e:k=i
 ·subst e;simp[h2,hq,hi]
 ·simp[e]
def NJ(h2:d'.q=(D i).q)(hq:(D i).q≠q):iS (aR D i d') j q=iS D j q:=by
 funext k;unfold iS aR;by_cases e:k=i
 ·subst e;simp[h2,hq]
 ·simp[e]
def Ka(hi:i<j)(hq:(D i).q=q):iS D j q i=(D i).T:=by simp[iS,hi,hq]
def iH(h:J9 d'.st=J9 (D i).st):lR (aR D i d') j=lR D j:=by
 funext k;unfold lR aR;by_cases e:k=i
 ·subst e;simp[h]
 ·simp[e]
def Vu(hi:i<j):lR (aR D i d') j=aR (lR D j) i (J9 d'.st):=by
 funext k;unfold lR aR;by_cases e:k=i
 ·subst e;simp[hi]
 ·simp[e]
def lT(hi:i<j):lR D j i=J9 (D i).st:=by simp[lR,hi]
def Kb(hi:i<j):mM j (aR D i d')+((D i).st+(D i).m)=mM j D+(d'.st+d'.m):=mL (λd:Wk=>d.st+d.m) D d' hi
def Kc(hi:i<j):sm (λk=>(aR D i d' k).fu) j+(D i).fu=sm (λk=>(D k).fu) j+d'.fu:=mL (λd:Wk=>d.fu) D d' hi
end
def Cw{T:Lk}{m:Nat}{v:Nat}(h:r∈gE T m x v):(r.1.1=T/\r.1.2<m/\r.2=(x,v))\/(r.1.2=gW r.1.1/\(r.1.1,r.2)∈iq T x v):=by
 unfold gE at h;split at h
 ·rename_i h1;simp only[af7]at h;subst h;exact .inl ⟨h1.1.symm,by simp only;omega,rfl⟩
 ·split at h
  ·rename_i h1;simp only[af7]at h;subst h;exact .inl ⟨h1.1.symm,by simp only;omega,rfl⟩
  ·split at h
   ·rename_i h1;simp only[af7]at h;subst h;exact .inl ⟨h1.1.symm,by simp only;omega,rfl⟩
   ·obtain⟨a,ha,rfl⟩:=List.mem_map.1 h;exact .inr ⟨rfl,ha⟩
def Zk(T:Lk):gW T<=5:=by cases T<;>simp[gW]
def adw{T:Lk}{v:Nat}{r:Lk×Wd×Nat}(h:r∈iq T x v):r.2.2=v\/(T=.tok\/T=.hand)\/v≠0:=by
 cases T with
 |tok=>exact .inr (.inl (.inl rfl))
 |hand=>exact .inr (.inl (.inr rfl))
 |iJ sv ws=>
  simp only[iq]at h;split at h
  ·cases h
  ·rename_i hv;exact .inr (.inr hv)
 |_=>refine .inl ?_;simp only[iq]at h;(repeat' split at h) <;>(simp at h;try(first|(rcases h with rfl|rfl<;>rfl)|(subst h;rfl)))
def adx{T:Lk}{m:Nat}{v:Nat}(h:r∈gE T m x v):r.2.2=v\/(T=.tok\/T=.hand)\/v≠0:=by
 rcases Cw h with⟨_,_,e⟩|⟨_,h1⟩
 ·exact .inl (by rw[e])
 ·exact adw h1
def Vv{sv ws:Bool}{m:Nat}{v:Nat}(h:gE (.iJ sv ws) m x v= []):v=0:=by simp[gE,iq]at h;exact h
def kB.vbd{n:Nat}{th:Nat->Lk}{v:Nat}(h:kB n th x v):v<=1:=by
 have hb:∀b,b1 b<=1:=by intro b;cases b<;>simp[b1]
 cases hs:x.s with
 |false=>have:=h.norm hs;have:=hb x.w;omega
 |true=>have:=h.BU hs;omega
def Ll{n:Nat}(h:fY n ws .rt g)(hi:i<n):ws i=.qt:=by
 have h1:=Ar.fin h rfl rfl;have h2:=Ar.left h;have l1:=eF (f:=λj=>kN (ws j)) hi;have l2:=eF (f:=λj=>kW (ws j)) hi;have l3:=eF (f:=λj=>kD (ws j)) hi;simp only[Ct.left]at h2;have key:∀T:Ws,kN T=0->kW T=0->kD T=0->T=.qt:=by intro T;cases T<;>simp[kN,kW,kD]
 exact key _ I I I
def Sm(X:Ph)(j:Nat)(M:Md)(D:Nat->Wk)(qs:Nat->Nat):Nat:=M.fu+sm (λi=>(D i).fu) j+sm qs (X.off+1)
def Vw(X:Ph)(j:Nat)(B:Nat->Bool):Nat:=sm (λk=>b1 (!B k)) (X.off+j+1)
def G7(X:Ph)(j:Nat)(M:Md)(D:Nat->Wk)(B:Nat->Bool)(qs:Nat->Nat):Nat:=lx (X.off+X.n+1) (Sm X j M D qs) (Vw X j B)
def WI(b:Bool):b1 b<=1:=by cases b<;>simp[b1]
def wz{X:Ph}(hj:j<=X.n)(B:Nat->Bool):Vw X j B<=X.off+X.n+1:=by have:=BS (f:=λk=>b1 (!B k)) (c:=1) (λk=>WI _) (X.off+j+1);unfold Vw;omega
abbrev Lt2:Nat×Nat->Nat×Nat->Prop:=Prod.Lex (· < ·) (· < ·)
section
variable {X:Ph}{j:Nat}{M:Md}{D:Nat->Wk}{x:Nat->Wd}{v:Nat->Nat}{i:Nat}
def kH{P:aB}{B:Nat->Bool}{g:au}(h:rK P B idx E g g' k=Z6):B k=Z6/\jL P g g'=E/\k≠idx:=by
 unfold rK at h;split at h
 ·cases h
 ·rename_i e;simp at h;exact⟨h.1,h.2,e⟩
def nS{d':Wk}(h1:d'.T=(D i).T)(h2:d'.q=(D i).q)(h3:d'.st=(D i).st)(h4:d'.m=(D i).m):lX X j M (aR D i d') x v=lX X j M D x v:=by
 have e1:∀q,iS (aR D i d') j q=iS D j q:=λq=>lS h1 h2;have e2:lR (aR D i d') j=lR D j:=iH (by rw[h3]);have e3:mM j (aR D i d')=mM j D:=by
  unfold mM;congr 1;funext k;unfold aR;split
  ·rename_i e;subst e;rw[h3,h4]
  ·rfl
 unfold lX mA mB;simp only[e1,e2,e3]
end
variable [Payload]
def Vn(X:Ph)(μ:Nat×Nat)(gs:Array au)(w:af)(t:Trace):Prop:=
 ∃K j M D B x v gw qs,1<=K/\Inv X K j M D B x v gw qs gs w t/\μ=(lX X j M D x v,G7 X j M D B qs)
def Nx(X:Ph)(μ:Nat×Nat)(gs:Array au)(w:af)(sl:Option (Nat×Nat))(t:Trace)(idx:Nat):Prop:=
 ∃gs' w' ops μ',runT X.P (crowd gs w sl) idx=(.next (crowd gs' w' sl),ops)/\Lt2 μ' μ/\Vn X μ' gs' w' (t++ops)
section
variable {X:Ph}{K j:Nat}{M:Md}{D:Nat->Wk}{B:Nat->Bool}{x:Nat->Wd}{v:Nat->Nat}{gw:Gw}{qs:Nat->Nat}{gs:Array au}{w:af}{t:Trace}{sl:Option (Nat×Nat)}{i:Nat}{g:au}
def Inv.Vy(hX:rJ X)(hK:1<=K)(Lt:Inv X K j M D B x v gw qs gs w t)(hi:i<j)(hg:gs[X.off+(i+1)]?=Y g)(hb:B (X.off+(i+1))=E)(hst:(D i).st=8)(hdf:(D i).df=x8 (D i).T (D i).m)(hf:K<=f)(hj:GoW X (D i) (D i).fu f g w):
 (∃μ',Lt2 μ' (lX X j M D x v,G7 X j M D B qs)/\Vn X μ' gs w t)\/Nx X (lX X j M D x v,G7 X j M D B qs) gs w sl t (X.off+(i+1)):=by
 have P6:=Lt.env;have hin:i<X.n:=zci hi P6.jn;obtain⟨hq,tK,hVm,_,hm5⟩:=P6.st i hi;have me:lR D j i=.wk:=by rw[lT hi,hst];rfl
 have hnr:M.c≠.rt:=λe=>by have:=P6.wg.2;rw[e]at this;have:=Ll this hin;rw[me]at this;cases this
 have hidx:(X.off+(i+1)== 0)=E:=XI
 have Ou:((⟨(D i).own,.lk (D i).T (D i).m,f⟩:aL)).own=(Hd X M D (i+1)).own:=rfl;rcases cN.ways hj (by simp only;omega)with(hstop|⟨hrun,GF⟩)|⟨m,hm,hrun,hstep⟩
 ·left;obtain⟨hpos,hV,r,hgo⟩:=hstop w (RX.refl _ _);simp only[Tp.lk.injEq]at hpos;have hs:jM (D i) ((D i).stage 7 r 0):=⟨rfl,rfl,rfl,rfl⟩
  have e1:∀q,iS (aR D i ((D i).stage 7 r 0)) j q=iS D j q:=λq=>lS rfl rfl;have e2:lR (aR D i ((D i).stage 7 r 0)) j=lR D j:=iH (by rw[hst];rfl);have e3:=Kb (D:=D) (d':=((D i).stage 7 r 0)) hi;have hlt:lX X j M (aR D i ((D i).stage 7 r 0)) x v<lX X j M D x v:=by unfold lX;refine NE (by unfold mA mB;simp only[e1,e2]) ?_;simp only[Wk.stage,hst]at e3⊢;omega
  refine⟨(lX X j M (aR D i ((D i).stage 7 r 0)) x v,G7 X j M (aR D i ((D i).stage 7 r 0)) B qs),az8 _ _ hlt,K,j,M,_,B,x,v,gw,qs,hK,⟨Lt.size,Lt.main,Lt.sR,λk hk=>?_,?_⟩,rfl⟩
  ·by_cases e:k=i
   ·subst e;rw[aV,hb];exact⟨g,hg,.lib (by simp[Wk.stage]) (by simp[Wk.stage]) hpos.1 hpos.2 hV (.r0 hgo)⟩
   ·rw[bE _ _ e];exact Lt.wk k hk
  ·have hHd:Hd X M (aR D i ((D i).stage 7 r 0))=Hd X M D:=by rw[hs.hd];exact D6 (Hd X M D) (i+1)
   refine⟨P6.jn,λk hk=>?_,λa k ha hk hka=>by rw[hHd,hs.Li];exact P6.Zh a k ha hk hka,λk a hk=>by rw[hs.D8];exact P6.WC k a hk,λk hk=>by rw[hs.D8,hs.Vr];exact P6.Vo k hk,by rw[hHd];exact P6.nY,λq hq=>by rw[e1];exact P6.mu q hq,by rw[e2];exact P6.wg,λk hk h=>by rw[hs.Vq];exact P6.iJ k hk h,P6.xW,by unfold TrX;rw[hHd];exact P6.tr,P6.WE,λk hk=>?_,P6.Zi,P6.low,P6.NF,λk hk h6=>?_,P6.acq,Nat.lt_trans hlt P6.NG,P6.kp⟩
   ·obtain⟨q1,q2,q3,q4⟩:=P6.st k hk;refine⟨by rw[hs.Vq];exact q1,by rw[hs.D8,hs.Li];exact q2,by rw[hs.D8,hs.Vr];exact q3,?_⟩;by_cases e:k=i
    ·subst e;rw[aV];exact⟨by simp[Wk.stage],q4.2⟩
    ·rw[bE _ _ e];exact q4
   ·by_cases e:k=i
    ·subst e;rw[aV,P6.Vp k hk,hdf,hpos.1,hpos.2];rfl
    ·rw[bE _ _ e];exact P6.Vp k hk
   ·by_cases e:k=i
    ·subst e;rw[aV]at h6;simp[Wk.stage]at h6
    ·rw[bE _ _ e]at h6;exact P6.rel k hk h6
 ·right;obtain⟨pz,hI1⟩:=P6.mu _ hq;have hth:iS D j (D i).q i=(D i).T:=Ka hi rfl;have good:∀r∈gE (D i).T (D i).m (x (D i).q) (v (D i).q),r.1.1≠.bad/\r.1.2<=5/\kB X.n (aR (iS D j (D i).q) i r.1.1) r.2.1 r.2.2/\
   (msA X.n (aR (iS D j (D i).q) i r.1.1) r.2.2<msA X.n (iS D j (D i).q) (v (D i).q)\/(r.2=(x (D i).q,v (D i).q)/\msA X.n (aR (iS D j (D i).q) i r.1.1) (v (D i).q)=msA X.n (iS D j (D i).q) (v (D i).q)/\(Qh X.n (aR (iS D j (D i).q) i r.1.1) (x (D i).q)<Qh X.n (iS D j (D i).q) (x (D i).q)\/(Qh X.n (aR (iS D j (D i).q) i r.1.1) (x (D i).q)=Qh X.n (iS D j (D i).q) (x (D i).q)/\r.1.2< (D i).m)))):=by
   intro r hr;rcases Cw hr with⟨h1,h2,h3⟩|⟨h1,h2⟩
   ·have e0:aR (iS D j (D i).q) i r.1.1=iS D j (D i).q:=by rw[h1,<-hth];exact D6 _ i
    rw[e0,h3];refine⟨?_,I,hI1,.inr ⟨rfl,rfl,.inr ⟨rfl,h2⟩⟩⟩;have:=hI1.ok i hin;rw[hth]at this;rw[h1];intro e;rw[e]at this;exact this
   ·have:=Qm hI1 hin (r:=(r.1.1,r.2)) (by rw[hth];exact h2);obtain⟨g1,g2,g3⟩:=this;refine⟨g1,by rw[h1];exact Zk _,g2,?_⟩;rcases g3 with g3|⟨g3,g4,g5,g6⟩
    ·exact .inl g3
    ·simp only at g3 g4 g5 g6;refine .inr ⟨Prod.ext g3 g4,by rw[g4]at g5;exact g5,.inl g6⟩
  have hto:=GF w (RX.refl _ _) (D i).T (D i).m (x (D i).q) (v (D i).q) rfl pz (by have:=hI1.cbd;have:=hX.big;omega) (zcj hI1.vbd I) λr hr=>(good r hr).1;by_cases hnil:gE (D i).T (D i).m (x (D i).q) (v (D i).q)= []
  ·obtain⟨⟨sv,ws,hT⟩,hoff,hgo⟩:=hto.1 hnil;have hv0:v (D i).q=0:=by rw[hT]at hnil;exact Vv hnil
   have Z3:jL X.P g {g with status:=.blocked}=E:=by simp[jL]
   have hs:jM (D i) ((D i).fuel 0):=⟨rfl,rfl,rfl,rfl⟩
   have hgj:GoW X ((D i).fuel 0) 0 f g w:=cN.jump hrun GF;have hE:o9 X K j M (aR D i ((D i).fuel 0)) (rK X.P B (X.off+(i+1)) Z6 g {g with status:=.blocked}) x v gw w (t++ac0 (X.off+(i+1)) g.frame.fn g.frame.place #[]):=by
    refine P6.stepW hi hs ⟨zcn hst,hm5⟩ (zch _) (λb=>⟨.inl,λh=>h.elim id λh=>I⟩) (λq hq=>?_) ⟨P6.wg.1,by rw[iH (D:=D) (i:=i) (d':=(D i).fuel 0) rfl];exact P6.wg.2⟩ (λk hk h=>?_) (λh=>?_) (λop hop=>by simp[ac0]at hop) rfl (λe he=>by simp at he) (λe he=>by simp at he) (λh=>absurd (hst▸h:(8:Nat)<=6) I) (λh=>absurd h hnr) (by rw[nS (D:=D) (i:=i) (d':=(D i).fuel 0) rfl rfl rfl rfl];exact P6.NG) (Fy.refl w)
    ·rw[lS (D:=D) (i:=i) (d':=(D i).fuel 0) rfl rfl];exact P6.mu q hq
    ·unfold rK at h;split at h
     ·rename_i e;have:k=i:=I
      subst this;exact hv0
     ·simp[Z3]at h;exact P6.iJ k hk h
    ·unfold rK at h;simp[Z3]at h;exact P6.xW h
   obtain⟨h1,h2⟩:=Lt.step (sl:=sl) (M':=M) (D':=aR D i ((D i).fuel 0)) (x':=x) (v':=v) (kU:=gw) (Lj:=qs) (b:=Z6) hX hK (zch K) hg (by rw[hidx];exact hgo) (λ_=>rfl) (λk _ hk=>bE _ _ λe=>hk (by rw[e])) (λ_ _=>rfl) (λ_ _ _=>RX.refl _ _) (λ_ _ _ _ _=>RX.refl _ _) (λh=>I)
    (λk hk e=>by
      have:k=i:=I
      subst this;rw[aV];exact .iJ f hst hdf hf rfl ⟨sv,ws,hT⟩ hrun hoff hgj) (λ_ h=>I) hE
   refine⟨_,_,_,_,h1,?_,K,j,M,_,_,x,v,gw,qs,hK,h2,rfl⟩;rw[nS (D:=D) (i:=i) (d':=(D i).fuel 0) rfl rfl rfl rfl];refine ax0 _ ?_;have hfu:=Kc (D:=D) (d':=((D i).fuel 0)) hi;have TB:Vw X j (rK X.P B (X.off+(i+1)) Z6 g {g with status:=.blocked})<Vw X j B:=by
    have:=Cu (f:=λk=>b1 (!rK X.P B (X.off+(i+1)) Z6 g {g with status:=.blocked} k)) (g:=λk=>b1 (!B k)) (q:=X.off+(i+1)) (n:=X.off+j+1) I λk _ hne=>by simp[rK,hne,Z3]
    simp only[hb,rK,if_true]at this;have z1:b1 (!true)=0:=rfl;have z2:b1 (!false)=1:=rfl;rw[z1,z2]at this;unfold Vw;simp only[rK];omega
   unfold G7;rcases zco (Sm X j M (aR D i ((D i).fuel 0)) qs) (Sm X j M D qs)with h|h
   ·exact tE h (wz P6.jn _)
   ·refine NE ?_ TB;unfold Sm at h⊢;have z:((D i).fuel 0).fu=0:=rfl;rw[z]at hfu;omega
  ·obtain⟨g',w',es,hgo,r,hr,ve,n',hn'⟩:=hto.2 hnil;obtain⟨r1,r2,r3,r4⟩:=good r hr;have hs:jM (D i) ((D i).place r.1.1 r.1.2 n'):=⟨rfl,rfl,rfl,rfl⟩
   have ahZ:X.S.is (X.S.pt (D i).q):=.inl ⟨_,hq,rfl⟩;have qO:∃c e fr,w.heap[X.S.pt (D i).q]?=Y (.cells c e fr):=by
    have:=pz.word;unfold ad3 at this;split at this
    ·rename_i c e fr h;exact⟨c,e,fr,h⟩
    ·cases this
   have Pk:∀k,k<=j->∀O:aL,O.own=(Hd X M D k).own->RX (Hd X M D k).L O w w':=λk hk O hO=>P6.nY.J8 hk hO ahZ qO (λe=>absurd e (hX.WB _ hq)) ve.Kw;have hsz:=ve.Kw.size;have eth:∀q,q≠(D i).q->iS (aR D i ((D i).place r.1.1 r.1.2 n')) j q=iS D j q:=λq hne=>NJ rfl (Ne.symm hne);have adA:iS (aR D i ((D i).place r.1.1 r.1.2 n')) j (D i).q=aR (iS D j (D i).q) i r.1.1:=Vt hi rfl rfl;have Z4:lR (aR D i ((D i).place r.1.1 r.1.2 n')) j=lR D j:=iH rfl;have emM:=Kb (D:=D) (d':=((D i).place r.1.1 r.1.2 n')) hi;have hlt:lX X j M (aR D i ((D i).place r.1.1 r.1.2 n')) (aR x (D i).q r.2.1) (aR v (D i).q r.2.2)<lX X j M D x v:=by
    have sA:=Cu (f:=λq=>msA X.n (iS (aR D i ((D i).place r.1.1 r.1.2 n')) j q) (aR v (D i).q r.2.2 q)) (g:=λq=>msA X.n (iS D j q) (v q)) hq λq _ hne=>by rw[eth q hne,bE _ _ hne]
    have sB:=Cu (f:=λq=>Qh X.n (iS (aR D i ((D i).place r.1.1 r.1.2 n')) j q) (aR x (D i).q r.2.1 q)) (g:=λq=>Qh X.n (iS D j q) (x q)) hq λq _ hne=>by rw[eth q hne,bE _ _ hne]
    simp only[adA,aV]at sA sB;have hmM:mM j (aR D i ((D i).place r.1.1 r.1.2 n'))<=13*X.n:=by
     refine Lh P6.jn λk hk=>?_;by_cases e:k=i
     ·subst e;rw[aV];exact⟨zcn hst,r2⟩
     ·rw[bE _ _ e];exact(P6.st k hk).2.2.2
    unfold lX;rcases r4 with r4|⟨r5,r6,r7⟩
    ·refine tE (tE ?_ (Lg _ _ _ _)) hmM;unfold mA;rw[Z4];omega
    ·rw[r5]at sA sB⊢;simp only at sA sB⊢;rw[r6]at sA;have eA:mA X j M (aR D i ((D i).place r.1.1 r.1.2 n')) (aR v (D i).q (v (D i).q))=mA X j M D v:=by unfold mA;rw[Z4];omega
     rcases r7 with r7|⟨r7,r8⟩
     ·refine tE (NE eA ?_) hmM;unfold mB;omega
     ·refine NE ?_ (by simp only[Wk.place]at emM⊢;omega);rw[eA];have:mB X j (aR D i ((D i).place r.1.1 r.1.2 n')) (aR x (D i).q (x (D i).q))=mB X j D x:=by unfold mB;omega
      rw[this]
   have Ol:1<=K-1:=by have:=P6.NG;omega
   have hv':∀k,k<j->k≠i->B (X.off+(k+1))=Z6->jL X.P g g'=E->aR v (D i).q r.2.2 (D k).q=0:=by
    intro k hk hne hB hw;have h0:=P6.iJ k hk hB;by_cases e:(D k).q=(D i).q
    ·rw[e,aV];rw[e]at h0;rcases adx hr with h|h|h
     ·rw[h,h0]
     ·have:=ve.aeR h;simp[jL,this,ve.run]at hw
     ·exact absurd h0 h
    ·rw[bE _ _ e];exact h0
   have hE:o9 X (K-1) j M (aR D i ((D i).place r.1.1 r.1.2 n')) (rK X.P B (X.off+(i+1)) E g g') (aR x (D i).q r.2.1) (aR v (D i).q r.2.2) gw w' (t++ac0 (X.off+(i+1)) g.frame.fn g.frame.place es):=by
    refine P6.stepW hi hs ⟨zcn hst,r2⟩ (zcn hsz.symm) (λb=>⟨.inl,λh=>h.elim id λh=>I⟩) (λq fX=>?_) ⟨?_,by rw[Z4];exact P6.wg.2⟩ (λk hk h=>?_) (λh=>?_) (Vk hX.psb hq ve.bk) (by rw[hdf];exact ve.deaf) (λe he y hy=>?_) (λe he h=>?_) (λh=>absurd (hst▸h:(8:Nat)<=6) I) (λh=>absurd h hnr) (by have:=P6.NG;omega) ⟨ve.Kw.tape,ve.Kw.output,ve.Kw.os⟩
    ·by_cases e:q=(D i).q
     ·subst e;rw[aV,aV,adA];exact⟨ve.rep,r3⟩
     ·rw[bE _ _ e,bE _ _ e,eth q e];exact⟨(P6.mu q fX).1.Ay (ve.Kw.other _ λh=>e (hX.inj _ _ fX hq h)),(P6.mu q fX).2⟩
    ·have:=ve.Kw.other X.S.Wg (Ne.symm (hX.WB _ hq));unfold bZ;rw[this];exact P6.wg.1
    ·obtain⟨h1,h2,h3⟩:=kH h;exact hv' k hk (λe=>h3 (by rw[e])) h1 h2
    ·exact P6.xW (kH h).1
    ·have:=Sd hX.psb hq (ve.bk e he) hy;obtain⟨a,e1,h1⟩:=this.2.1;rw[e1];show a.block<_;exact P6.nY.D5 _ (.inl (h1.imp (λ⟨q,h1,h2,_⟩=>⟨q,h1,h2⟩) id))
    ·rcases ve.bk e he with h1|h1|⟨a,h1|h1,_⟩|⟨a,wr,h1,_⟩
     ·rw[h1]at h;cases h
     ·rw[h1]at h;cases h
     ·rw[h1]at h;cases h
     ·rw[h1]at h;cases h
     ·rw[h1]at h;cases h
   obtain⟨h1,h2⟩:=Lt.step (sl:=sl) (M':=M) (D':=aR D i ((D i).place r.1.1 r.1.2 n')) (x':=aR x (D i).q r.2.1) (v':=aR v (D i).q r.2.2) (kU:=gw) (Lj:=qs) (b:=E) hX Ol (Nat.sub_le _ _) hg (by rw[hidx];exact hgo) (λ_=>rfl) (λk _ hk=>bE _ _ λe=>hk (by rw[e])) (λ_ _=>rfl)
    (λ_ O hO=>Pk 0 (zcl _) O hO) (λk hk _ O hO=>Pk (k+1) I O hO) (λh=>I)
    (λk hk e=>by
      have:k=i:=I
      subst this;rw[aV];exact .run (f-1) hst rfl I hn') (λ_ h=>I) hE
   exact⟨_,_,_,_,h1,az8 _ _ hlt,K-1,j,M,_,_,_,_,gw,qs,Ol,h2,rfl⟩
 ·right;have NB:=hstep w (RX.refl _ _);cases hgo:stepG X.P E g w with
  |go g' w' es=>
   rw[hgo]at NB;obtain⟨hd,hg'⟩:=NB;have hs:jM (D i) ((D i).grown w w' m):=⟨rfl,rfl,rfl,rfl⟩
   have hE:o9 X K j M (aR D i ((D i).grown w w' m)) (rK X.P B (X.off+(i+1)) E g g') x v gw w' (t++ac0 (X.off+(i+1)) g.frame.fn g.frame.place es):=by
    refine P6.stepW hi hs ⟨zcn hst,hm5⟩ hd.le (λb=>Iff.rfl) (λq hq=>?_) ⟨?_,by rw[iH (D:=D) (i:=i) (d':=(D i).grown w w' m) rfl];exact P6.wg.2⟩ (λk hk h=>P6.iJ k hk (kH h).1) (λh=>P6.xW (kH h).1) (P6.nY.okW (off:=X.off) hi Ou hd.ev) (Cv (H:=Hd X M D) (i:=i+1) hd.ev _) (λe he y hy=>P6.nY.adv (I:i+1<=j) Ou (hd.ev e he) hy) (λe he=>qY (hd.ev e he) _) (λh=>absurd (hst▸h:(8:Nat)<=6) I) (λh=>absurd h hnr) (by rw[nS (D:=D) (i:=i) (d':=(D i).grown w w' m) rfl rfl rfl rfl];exact P6.NG) ⟨hd.tape,hd.out,by rw[hd.os];exact .refl _⟩
    ·rw[lS (D:=D) (i:=i) (d':=(D i).grown w w' m) rfl rfl];exact⟨P6.nY.WG (I:i+1<=j) Ou hq hd (P6.mu q hq).1,(P6.mu q hq).2⟩
    ·unfold bZ;rw[P6.nY.WH (I:i+1<=j) Ou hd];exact P6.wg.1
   obtain⟨h1,h2⟩:=Lt.step (sl:=sl) (M':=M) (D':=aR D i ((D i).grown w w' m)) (x':=x) (v':=v) (kU:=gw) (Lj:=qs) (b:=E) hX hK (zch K) hg (by rw[hidx];exact hgo) (λ_=>rfl) (λk _ hk=>bE _ _ λe=>hk (by rw[e])) (λ_ _=>rfl)
    (λ_ O hO=>P6.nY.Sa (k:=0) (I:i+1<=j) (zcl _) I Ou hO hd) (λk hk hne O hO=>P6.nY.Sa (k:=k+1) (I:i+1<=j) I I Ou hO hd) (λh=>I)
    (λk hk e=>by
      have:k=i:=I
      subst this;rw[aV];exact .run f hst hdf hf hg') (λ_ h=>I) hE
   refine⟨_,_,_,_,h1,?_,K,j,M,_,_,x,v,gw,qs,hK,h2,rfl⟩;rw[nS (D:=D) (i:=i) (d':=(D i).grown w w' m) rfl rfl rfl rfl];refine ax0 _ (tE ?_ (wz P6.jn _));have hfu:=Kc (D:=D) (d':=((D i).grown w w' m)) hi;unfold Sm;simp only[Wk.grown]at hfu⊢;omega
  |_=>rw[hgo]at NB;exact NB.elim
end
end
section
open Go.ConcR (KK wgBlock WgAt stA smA rd wr mk Payload Aside2 DC0 Bk bk_of_mute)
def Az{Wg:Nat}(h:Bk Wg e)(hy:(ag8 e).touch?=Y y):∃a,y.loc=.cell a/\a.block=Wg/\y.kind=.atomic:=by
 rcases h with h|h|⟨a,wr,rfl,h1⟩
 ·rw[bc6 h]at hy;cases hy
 ·rw[bc6 h]at hy;cases hy
 ·rw[Go.ConcR.ofEvent_cell]at hy;simp only[aw5,ac6]at hy;subst hy;exact⟨a,rfl,h1,XI⟩
def jJ.appOwn{Wg:Nat}{r:Nat}(h:jJ a Wg t k r)(fn:ay)(pos:String)(hbk:∀e∈es,Bk Wg e)
 (hes:∀j e,es[j]?=Y e->(ag8 e).touch?=F\/0<ad2 (Deaf t k) (es.extract 0 j)):jJ a Wg (t++ac0 k fn pos es) k r:=by
 refine h.app λi x hi hg hx=>?_;obtain⟨op,ho,Na⟩:=at8 hx;have hj:(ac0 k fn pos es)[i-t.size]?=Y op:=by rw[Array.getElem?_append]at ho;simpa[Nat.not_lt.2 hi]using ho
 rw[bg0,Array.getElem?_map]at hj;obtain⟨e,he,rfl⟩:=zcp.1 hj;have hjs:i-t.size<=es.size:=by
  rcases zco (i-t.size) es.size with h'|h'
  ·omega
  ·rw[Array.getElem?_eq_none h']at he;cases he
 simp only at Na;rcases hes _ e he with h0|h0
 ·rw[h0]at Na;cases Na
 ·obtain⟨ad,h1,h2,h3⟩:=Az (hbk e (zcm he)) Na;refine⟨⟨ad,h1,h2⟩,h3,λ⟨g,hg',hdf⟩=>?_⟩;have qj:g=k:=by rw[hg]at hg';exact(ah9 hg').symm
  subst qj;have:=deaf_inside t g fn pos es (i-t.size) hjs;rw[show t.size+(i-t.size)=i by omega,hdf]at this;omega
def jJ.new{Wg:Nat}(hd:Deaf t k=0)(fn:ay)(pos:String):jJ a Wg (t++ac0 k fn pos #[ba1 (.releaseMerge a)]) k t.size:=by
 have e1:ac0 k fn pos #[ba1 (.releaseMerge a)]=#[{g:=k,fn,pos,act:=.mark (.releaseMerge a)}]:=by rw[bg0];simp[Go.ConcR.ofEvent_mk]
 have hy:(t++#[({g:=k,fn,pos,act:=.mark (.releaseMerge a)}:MemOp)])[t.size]?=Y {g:=k,fn,pos,act:=.mark (.releaseMerge a)}:=XI
 rw[e1];refine⟨by rw[act?_of hy],by simp[Trace.g?],⟨k,by simp[Trace.g?],by rw[deaf_old (zch _)];exact hd⟩,λi x hi hg _=>?_⟩;obtain⟨op,ho,_⟩:=zcp.1 hg;have:=lt_size_of_getElem? ho;simp at this;omega
def fY.counted{n:Nat}{c:Ct}(h:fY n ws c g)(hi:i<n)(hw:ws i=.wk):1<=g.v/\g.v<=n+1/\g.sm=0/\c≠.rt:=by
 have lW:kW (ws i)<=sm (λj=>kW (ws j)) n:=eF (f:=λj=>kW (ws j)) hi;have hbd:=R5 n ws;have hp:c.pend<=1:=by cases c<;>simp[Ct.pend]
 have hk1:kW (ws i)=1:=by rw[hw];rfl
 rw[hk1]at lW;obtain⟨h1,ha,h2,h3,h4,h5⟩:=h;cases ho:c.open with
 |true=>have:=h2 ho;exact⟨I,I,I,(by rintro rfl;cases ho)⟩
 |false=>
  cases hw':c.waits with
  |true=>
   rcases h4 hw' with q|q|q
   ·exact⟨I,I,I,(by rintro rfl;cases hw')⟩
   ·omega
   ·omega
  |false=>have:=h5 ho hw';omega
def fY.last{n:Nat}{c:Ct}(h:fY n ws c g)(hi:i<n)(hw:ws i=.d2\/ws i=.d3\/ws i=.d4):g.v=0/\g.sm=0/\c≠.rt/\c.waits=Z6/\(ws i≠.d4->g.wt=Z6)/\(ws i=.d4->g.wt=E):=by
 have lD:kD (ws i)<=sm (λj=>kD (ws j)) n:=eF (f:=λj=>kD (ws j)) hi;have hk:kD (ws i)=1:=by rcases hw with e|e|e<;>rw[e]<;>rfl
 rw[hk]at lD;have key:sm (λj=>kD (ws j)) n=1->(ws i≠.d4->sm (λj=>k4 (ws j)) n=0)/\(ws i=.d4->1<=sm (λj=>k4 (ws j)) n):=λh1=>by
  refine⟨λhne=>?_,λe=>?_⟩
  ·have:=zi (λj=>k4 (ws j)) (λj=>kD (ws j)-k4 (ws j)) n;have e2:(λj=>k4 (ws j)+(kD (ws j)-k4 (ws j)))=λj=>kD (ws j):=by funext j;cases ws j<;>rfl
   rw[e2]at this;have h3:kD (ws i)-k4 (ws i)<=sm (λj=>kD (ws j)-k4 (ws j)) n:=eF (f:=λj=>kD (ws j)-k4 (ws j)) hi;have hk1:kD (ws i)-k4 (ws i)=1:=by rcases hw with e|e|e<;>first|(rw[e];rfl)|exact absurd e hne
   rw[hk1]at h3;omega
  ·have:=eF (f:=λj=>k4 (ws j)) hi;rw[e]at this;exact this
 obtain⟨h1,ha,h2,h3,h4,h5⟩:=h;cases ho:c.open with
 |true=>have:=h2 ho;omega
 |false=>
  cases hw':c.waits with
  |true=>
   rcases h4 hw' with q|q|q
   ·omega
   ·obtain⟨k1,k2⟩:=key q.2.2.2.1;refine⟨q.1,q.2.2.1,(by rintro rfl;cases hw'),rfl,(λe=>by rw[q.2.2.2.2,k1 e];rfl),(λe=>by rw[q.2.2.2.2];have:=k2 e;simp;omega)⟩
   ·omega
  |false=>have:=h5 ho hw';omega
variable [Payload]
section
variable {X:Ph}{K j:Nat}{M:Md}{D:Nat->Wk}{B:Nat->Bool}{x:Nat->Wd}{v:Nat->Nat}{gw:Gw}{qs:Nat->Nat}{gs:Array au}{w:af}{t:Trace}{sl:Option (Nat×Nat)}{i:Nat}{g:au}
def Inv.D9(hX:rJ X)(hK:1<=K)(Lt:Inv X K j M D B x v gw qs gs w t)(hi:i<j)(hg:gs[X.off+(i+1)]?=Y g)(hT:(D i).T=.out)(hm:(D i).m=0){s' m' dd':Nat}
 (hgo:stepG X.P E g w=.go g' w' es) (hsz:w'.heap.size=w.heap.size) (Pk:∀k,k<=j->k≠i+1->∀O:aL,O.own=(Hd X M D k).own->RX (Hd X M D k).L O w w') (Zf:∀q,q<X.S.np->eE (X.S.pt q) (x q) (v q) w')
 (va:bZ X.S.tw X.S.Wg kU w') (EB:fY X.n (lR (aR D i ((D i).stage s' m' dd')) j) M.c kU)
 (hok:∀op∈ac0 (X.off+(i+1)) g.frame.fn g.frame.place es,M8 (Le X.S) (lQ X.S) (xV X.off j (Hd X M D)) (G6 X.off j (Hd X M D)) (X.off+(i+1)) op)
 (hdf:ad2 (D i).df es=dd') (FM:∀e∈es,∀y,(ag8 e).touch?=Y y->y.loc.low w.heap.size) (hnr:∀e∈es,e.loc≠.mark (.release (stA X.S.Wg)))
 (hrel:s'<=6->∃r,jJ (stA X.S.Wg) X.S.Wg (t++ac0 (X.off+(i+1)) g.frame.fn g.frame.place es) (X.off+(i+1)) r/\X.N0<=r)
 (Ax:M.c=.rt->∀op∈ac0 (X.off+(i+1)) g.frame.fn g.frame.place es,op.act.touch?=F)
 (hs1:1<=s') (hs7:s'<=7) (hV:∀a u,(D i).V a u->w'.cell? a=Y u) (So:WSit X.P X.S.tw X.S.Wg (D i).bw 1 Ot Ot 0 1 X.v0 s' m' dd' g' w')
 (hsm:B 0=Z6->jL X.P g g'=E->kU.sm=0)
 (ve:lX X j M (aR D i ((D i).stage s' m' dd')) x v<lX X j M D x v\/(s'=(D i).st/\m'< (D i).fu)) (hkp:Fy w w'):Nx X (lX X j M D x v,G7 X j M D B qs) gs w sl t (X.off+(i+1)):=by
 have P6:=Lt.env;have hs:jM (D i) ((D i).stage s' m' dd'):=⟨rfl,rfl,rfl,rfl⟩
 have hle:lX X j M (aR D i ((D i).stage s' m' dd')) x v<=lX X j M D x v:=by
  rcases ve with h|⟨h,_⟩
  ·omega
  ·rw[nS (D:=D) (i:=i) (d':=(D i).stage s' m' dd') rfl rfl h rfl];exact zch _
 have hE:o9 X K j M (aR D i ((D i).stage s' m' dd')) (rK X.P B (X.off+(i+1)) E g g') x v kU w' (t++ac0 (X.off+(i+1)) g.frame.fn g.frame.place es):=by refine P6.stepW hi hs ⟨show s'<=8 by omega,by rw[show ((D i).stage s' m' dd').m=0 from hm];omega⟩ (zcn hsz.symm) (λb=>⟨.inl,λh=>h.elim id λh=>I⟩) (λq hq=>?_) ⟨va,EB⟩ (λk hk h=>P6.iJ k hk (kH h).1) (λh=>hsm (kH h).1 (kH h).2.1) hok hdf FM hnr hrel Ax (Nat.lt_of_le_of_lt hle P6.NG) hkp;rw[lS (D:=D) (i:=i) (d':=(D i).stage s' m' dd') rfl rfl];exact⟨Zf q hq,(P6.mu q hq).2⟩
 obtain⟨h1,h2⟩:=Lt.step (sl:=sl) (M':=M) (D':=aR D i ((D i).stage s' m' dd')) (x':=x) (v':=v) (kU:=kU) (Lj:=qs) (b:=E) hX hK (zch K) hg (by rw[show (X.off+(i+1)== 0)=E by simp];exact hgo) (λ_=>rfl) (λk _ hk=>bE _ _ λe=>hk (by rw[e])) (λ_ _=>rfl)
  (λ_ O hO=>Pk 0 (zcl _) I O hO) (λk hk hne O hO=>Pk (k+1) I I O hO) (λh=>I)
  (λk hk e=>by
    have:k=i:=I
    subst this;rw[aV];exact .lib hs1 hs7 hT hm hV So) (λ_ h=>I) hE
 refine⟨_,_,_,_,h1,?_,K,j,M,_,_,x,v,kU,qs,hK,h2,rfl⟩;rcases ve with h|⟨h,hf⟩
 ·exact az8 _ _ h
 ·rw[nS (D:=D) (i:=i) (d':=(D i).stage s' m' dd') rfl rfl h rfl];refine ax0 _ (tE ?_ (wz P6.jn _));have hfu:=Kc (D:=D) (d':=(D i).stage s' m' dd') hi;have z:((D i).stage s' m' dd').fu=m':=rfl;rw[z]at hfu;unfold Sm;omega
def Inv.Vz(hX:rJ X)(hK:1<=K)(Lt:Inv X K j M D B x v gw qs gs w t)(hi:i<j)(hg:gs[X.off+(i+1)]?=Y g)(hT:(D i).T=.out)(hm:(D i).m=0)(hV:∀a u,(D i).V a u->w.cell? a=Y u)
 (h:WSit X.P X.S.tw X.S.Wg (D i).bw 1 Ot Ot 0 1 X.v0 (D i).st (D i).fu (D i).df g w) (hrun:g.status=.running):Nx X (lX X j M D x v,G7 X j M D B qs) gs w sl t (X.off+(i+1)):=by
 have P6:=Lt.env;have hin:i<X.n:=zci hi P6.jn;obtain⟨hq,tK,hVm,_,hm5⟩:=P6.st i hi;have hdk:Deaf t (X.off+(i+1))=(D i).df:=P6.Vp i hi;have hwA:WgAt X.S.tw X.S.Wg w ((gw.v*4294967296+b1 gw.wt:Nat):Int) ((gw.sm:Nat):Int):=P6.wg.1;have qO:∃c e fr,w.heap[X.S.Wg]?=Y (.cells c e fr):=⟨_,_,_,P6.wg.1⟩
 have Ey:=P6.nY.D5 X.S.Wg (.inl (.inr rfl));have rxW:∀{w':af} {kU:Gw},bA X.S.Wg w w'->bZ X.S.tw X.S.Wg kU w'->∀k,k<=j->∀O:aL,O.own=(Hd X M D k).own->RX (Hd X M D k).L O w w':=λhe va k hk O hO=>P6.nY.J8 hk hO (.inr rfl) qO (λ_=>va.live) he;have muW:∀{w':af},bA X.S.Wg w w'->∀q,q<X.S.np->eE (X.S.pt q) (x q) (v q) w':=λhe q hq=>(P6.mu q hq).1.Ay (he.other _ (hX.WB q hq));have vW:∀{w':af},bA X.S.Wg w w'->∀a u,(D i).V a u->w'.cell? a=Y u:=λhe a u hu=>by have:=(P6.nY.Tb (i+1) a I (.inr (hVm a u hu))).1;rw[<-hV a u hu];simp[ad3,he.other a.block this]
 have okB:∀{es:Array aC},(∀e∈es,Bk X.S.Wg e)->∀op∈ac0 (X.off+(i+1)) g.frame.fn g.frame.place es,M8 (Le X.S) (lQ X.S) (xV X.off j (Hd X M D)) (G6 X.off j (Hd X M D)) (X.off+(i+1)) op:=λhbk op hop=>by obtain⟨e,he,rfl⟩:=ad4 hop;refine⟨rfl,λy hy=>?_⟩;obtain⟨a,h1,h2,h3⟩:=Az (hbk e he) hy;exact⟨λ⟨a',e',hs⟩=>by rw[h1]at e';cases e';exact hX.Z2 (h2▸hs),.inl ⟨⟨a,h1,.inr h2⟩,by rw[h3];simp,by rw[h3];simp⟩⟩
 have ah2:∀{es:Array aC},(∀e∈es,Bk X.S.Wg e)->∀e∈es,∀y,(ag8 e).touch?=Y y->y.loc.low w.heap.size:=λhbk e he y hy=>by obtain⟨a,h1,h2,_⟩:=Az (hbk e he) hy;rw[h1];show a.block<_;rw[h2];exact Ey
 have book:∀{g':au} {w':af} {es:Array aC} {s' m' dd':Nat} {kU:Gw},stepG X.P E g w=.go g' w' es->bA X.S.Wg w w'->bZ X.S.tw X.S.Wg kU w'->fY X.n (lR (aR D i ((D i).stage s' m' dd')) j) M.c kU->(∀e∈es,Bk X.S.Wg e)->
  (∀jx e,es[jx]?=Y e->(ag8 e).touch?=F\/0<ad2 (D i).df (es.extract 0 jx))->WSit X.P X.S.tw X.S.Wg (D i).bw 1 Ot Ot 0 1 X.v0 s' m' dd' g' w'->ad2 (D i).df es=dd'->(D i).st<=6->1<=s'->s'<=6->(M.c=.rt->∀e∈es,(ag8 e).touch?=F)->(B 0=Z6->jL X.P g g'=E->kU.sm=0)->
  (lX X j M (aR D i ((D i).stage s' m' dd')) x v<lX X j M D x v\/(s'=(D i).st/\m'< (D i).fu))->Nx X (lX X j M D x v,G7 X j M D B qs) gs w sl t (X.off+(i+1)):=by
  intro g' w' es s' m' dd' kU hgo he va EB hbk WK So hdd h6 hs1 hs6 hmt hsm ve;refine Lt.D9 hX hK hi hg hT hm hgo he.size (λk hk _=>rxW he va k hk) (muW he) va EB (okB hbk) hdd (ah2 hbk) (λe hee h=>?_) (λ_=>?_) (λhc op hop=>?_) hs1 I (vW he) So hsm ve ⟨he.tape,he.output,he.os⟩
  ·rcases hbk e hee with h1|h1|⟨a,wr,rfl,_⟩
   ·rw[h1]at h;cases h
   ·rw[h1]at h;cases h
   ·cases h
  ·obtain⟨r,hr,EY⟩:=P6.rel i hi h6;exact⟨r,hr.appOwn _ _ hbk (by rw[hdk];exact WK),EY⟩
  ·obtain⟨e,hee,rfl⟩:=ad4 hop;exact hmt hc e hee
 have idle:∀{g':au} {m':Nat},stepG X.P E g w=.go g' w #[]->WSit X.P X.S.tw X.S.Wg (D i).bw 1 Ot Ot 0 1 X.v0 (D i).st m' (D i).df g' w->m'< (D i).fu->1<=(D i).st->(D i).st<=6->Nx X (lX X j M D x v,G7 X j M D B qs) gs w sl t (X.off+(i+1)):=by intro g' m' hgo So Zy h1 h6;exact book (kU:=gw) hgo (bA.refl _ _) P6.wg.1 (by rw[iH (D:=D) (i:=i) (d':=(D i).stage (D i).st m' (D i).df) rfl];exact P6.wg.2) XI XI So rfl h6 h1 h6 XI (λh _=>P6.xW h) (.inr ⟨rfl,Zy⟩)
 have muM:∀{s' m' dd':Nat},J9 s'=J9 (D i).st->s'< (D i).st->lX X j M (aR D i ((D i).stage s' m' dd')) x v<lX X j M D x v:=fun{s' m' dd'} h1 h2=>by have e1:∀q,iS (aR D i ((D i).stage s' m' dd')) j q=iS D j q:=λq=>lS rfl rfl;have e2:lR (aR D i ((D i).stage s' m' dd')) j=lR D j:=iH h1;have e3:=Kb (D:=D) (d':=(D i).stage s' m' dd') hi;have z1:((D i).stage s' m' dd').st=s':=rfl;have z2:((D i).stage s' m' dd').m=(D i).m:=rfl;rw[z1,z2]at e3;unfold lX;refine NE (by unfold mA mB;simp only[e1,e2]) ?_;omega
 have muA:∀{s' m' dd':Nat} {kU:Gw},s'<=8->R4 (lR D j i) gw=Y (J9 s',kU)->fY X.n (lR (aR D i ((D i).stage s' m' dd')) j) M.c kU/\lX X j M (aR D i ((D i).stage s' m' dd')) x v<lX X j M D x v:=fun{s' m' dd' kU} h8 qM=>by
  obtain⟨h1,h2⟩:=stepW P6.wg.2 hin qM;have e2:lR (aR D i ((D i).stage s' m' dd')) j=aR (lR D j) i (J9 s'):=Vu hi;have e1:∀q,iS (aR D i ((D i).stage s' m' dd')) j q=iS D j q:=λq=>lS rfl rfl;refine⟨by rw[e2];exact h1,?_⟩;unfold lX;refine tE (tE ?_ (Lg _ _ _ _)) (Lh P6.jn λk hk=>?_)
  ·unfold mA;rw[e2];simp only[e1];omega
  ·by_cases e:k=i
   ·subst e;rw[aV];exact⟨h8,hm5⟩
   ·rw[bE _ _ e];exact(P6.st k hk).2.2.2
 generalize hst:(D i).st=s at h;generalize hfu:(D i).fu=m at h;generalize hdd:(D i).df=dd at h;cases h with
 |r0 h=>
  have me:lR D j i=.wk:=by rw[lT hi,hst];rfl
  have tF:=(fY.counted P6.wg.2 hin me).2.2.2;rcases bb6 h with hstop|⟨m',rfl,hstep⟩
  ·obtain⟨_,hhas,g',hgo,m₂,hk⟩:=hstop w (RW.refl w);refine Lt.D9 (kU:=gw) (s':=6) (m':=m₂) (dd':=0) hX hK hi hg hT hm hgo rfl (λk hk _ O hO=>RX.refl _ _) (λq hq=>(P6.mu q hq).1) P6.wg.1 (by rw[iH (D:=D) (i:=i) (d':=(D i).stage 6 m₂ 0) (by rw[hst];rfl)];exact P6.wg.2) (λop hop=>?_) (by rw[hdd];rfl) (λe he y hy=>?_) (λe he h=>?_) (λ_=>⟨t.size,jJ.new (by rw[hdk,hdd]) _ _,P6.tr.size⟩) (λh=>absurd h tF) I I hV (.k1 hk) (λh _=>P6.xW h) (.inl (muM (by rw[hst];rfl) I)) (Fy.refl w)
   ·obtain⟨e,he,rfl⟩:=ad4 hop;simp at he;subst he;exact⟨rfl,λy hy=>by cases hy⟩
   ·simp at he;subst he;cases hy
   ·simp at he;subst he;simp[ba1]at h
  ·obtain⟨g',w',es,hgo,⟨hac,hev⟩,hg'⟩:=hstep w (RW.refl w);have adB:∀e∈es,∀y,(ag8 e).touch?=Y y->∃a,y.loc=.cell a/\a.block=X.S.Wg/\y.kind≠.plain/\y.kind≠.said:=λe he y hy=>by
    rcases((hev e he).1 0 "").2 y hy with⟨⟨a,h1,h2⟩,h3⟩|h1|⟨h1,_⟩
    ·exact⟨a,h1,h2,h3⟩
    ·exact h1.elim
    ·exact h1.elim
   have hnb:X.S.Wg≠(D i).bw:=λe=>(P6.nY.sh (i+1) X.S.Wg I (.inl (.inr rfl))).2 (e▸tK);refine Lt.D9 (kU:=gw) (s':=7) (m':=m') (dd':=0) hX hK hi hg hT hm hgo hac.size (λk hk hne O hO=>P6.nY.Zc (i:=i+1) I hk hO tK (P6.Zh i k hi hk hne) hac) (λq hq=>(P6.mu q hq).1.Ay (hac.block _ λe=>(P6.nY.sh (i+1) _ I (.inl (.inl ⟨q,hq,rfl⟩))).2 (e▸tK))) (by unfold bZ;rw[hac.block _ hnb];exact P6.wg.1) (by rw[iH (D:=D) (i:=i) (d':=(D i).stage 7 m' 0) (by rw[hst];rfl)];exact P6.wg.2) (λop hop=>?_) (by rw[hdd];exact Go.ConcN.deafBehind_idle (λe he=>⟨(hev e he).2.1,(hev e he).2.2.1⟩) 0) (λe he y hy=>?_) (λe he=>(hev e he).2.2.2) (λh=>I) (λh=>absurd h tF) I I (λa u hu=>?_) (.r0 hg') (λh _=>P6.xW h) (.inr ⟨I,I⟩) ⟨hac.tape,hac.output,by rw[hac.os];exact .refl _⟩
   ·obtain⟨e,he,rfl⟩:=ad4 hop;refine⟨rfl,λy hy=>?_⟩;obtain⟨a,h1,h2,h3,h4⟩:=adB e he y hy;exact⟨λ⟨a',e',hs⟩=>by rw[h1]at e';cases e';exact hX.Z2 (h2▸hs),.inl ⟨⟨a,h1,.inr h2⟩,h3,h4⟩⟩
   ·obtain⟨a,h1,h2,_⟩:=adB e he y hy;rw[h1];show a.block<_;rw[h2];exact Ey
   ·rw[<-hV a u hu];simp[ad3,hac.block a.block λe=>(P6.nY.mf (i+1) (i+1) a I I (hVm a u hu)).1 (e▸tK)]
 |k1 h=>
  have me:lR D j i=.wk:=by rw[lT hi,hst];rfl
  have tF:=(fY.counted P6.wg.2 hin me).2.2.2;rcases bb6 h with hstop|⟨m',rfl,hstep⟩
  ·obtain⟨_,g',hgo,m₂,hk⟩:=hstop w (RW.refl w);exact book (s':=5) (m':=m₂) (dd':=1) (kU:=gw) hgo (bA.refl _ _) P6.wg.1 (by rw[iH (D:=D) (i:=i) (d':=(D i).stage 5 m₂ 1) (by rw[hst];rfl)];exact P6.wg.2) (by intro e he;simp at he;subst he;exact .inl rfl) (by intro jx e he;exact .inl (by have:=zcm he;simp at this;subst this;rfl)) (.d1 hk) (by rw[hdd];rfl) I I I (λh=>absurd h tF) (λh _=>P6.xW h) (.inl (muM (by rw[hst];rfl) I))
  ·obtain⟨g',w',es,hgo,⟨rfl,rfl⟩,hg'⟩:=hstep w (RW.refl w);exact idle hgo (by rw[hst,hdd];exact .k1 hg') I I I
 |d1 h=>
  have me:lR D j i=.wk:=by rw[lT hi,hst];rfl
  obtain⟨xE,nW,xX,tF⟩:=fY.counted P6.wg.2 hin me;rcases bb6 h with hstop|⟨m',rfl,hstep⟩
  ·obtain⟨_,hall⟩:=hstop w (RW.refl w);obtain⟨vv,hvv⟩:∃vv,gw.v=vv+1:=⟨gw.v-1,I⟩
   have ah3:=hX.big;have jd:=WI gw.wt;have hw1:WgAt X.S.tw X.S.Wg w (((vv:Nat)+1)*KK+((b1 gw.wt:Nat):Int)) 0:=by
    have e1:((gw.v*4294967296+b1 gw.wt:Nat):Int)=((vv:Nat)+1)*KK+((b1 gw.wt:Nat):Int):=by rw[hvv];unfold KK;omega
    rw[<-e1];have:=hwA;rw[xX]at this;exact this
   obtain⟨g',hgo,hl,fX⟩:=hall vv (b1 gw.wt) jd I hw1;have e2:(((vv:Nat):Int)*KK+((b1 gw.wt:Nat):Int))=((vv*4294967296+b1 gw.wt:Nat):Int):=by unfold KK;omega
   rw[e2]at hgo hl;have hef:bA X.S.Wg w (w.setCell (stA X.S.Wg) (.int .u64 ((vv*4294967296+b1 gw.wt:Nat):Int))):=bA.set _ _ 0 _ I;have va:bZ X.S.tw X.S.Wg {gw with v:=vv} (w.setCell (stA X.S.Wg) (.int .u64 ((vv*4294967296+b1 gw.wt:Nat):Int))):=P6.wg.1.nZ (y:={gw with v:=vv}) rfl;have bk2:∀e∈#[rd (stA X.S.Wg),wr (stA X.S.Wg)],Bk X.S.Wg e:=by intro e he;simp at he;rcases he with rfl|rfl<;>exact .inr (.inr ⟨_,_,rfl,rfl⟩)
   have df2:∀jx e,(#[rd (stA X.S.Wg),wr (stA X.S.Wg)]:Array aC)[jx]?=Y e->(ag8 e).touch?=F\/0<ad2 (D i).df ((#[rd (stA X.S.Wg),wr (stA X.S.Wg)]:Array aC).extract 0 jx):=by
    intro jx e he;rw[hdd];match jx,he with
    | 0,_=>exact .inr (by simp[ad2])
    | 1,_=>exact .inr (by simp[ad2,rd])
    |jx+2,he=>simp at he
   by_cases uH:gw.v=1/\gw.wt=Z6
   ·obtain⟨m₂,hk⟩:=hl ⟨I,by rw[uH.2];rfl⟩;obtain⟨a1,a2⟩:=muA (s':=4) (m':=m₂) (dd':=1) (kU:={gw with v:=vv}) I (by rw[me];simp only[R4];rw[if_neg I,if_pos uH,show gw.v-1=vv by omega];rfl);exact book hgo hef va a1 bk2 df2 (.d2 hk) (by rw[hdd];rfl) I I I (λh=>absurd h tF) (λ_ _=>xX) (.inl a2)
   ·obtain⟨q2,E6⟩:=fX (λ⟨h1,h2⟩=>uH ⟨I,by cases hwt:gw.wt with|true=>rfl|false=>rw[hwt]at h2;cases h2⟩);obtain⟨a1,a2⟩:=muA (s':=1) (m':=q2) (dd':=1) (kU:={gw with v:=vv}) I (by rw[me];simp only[R4];rw[if_neg I,if_neg uH,show gw.v-1=vv by omega];rfl);exact book hgo hef va a1 bk2 df2 (.quit E6) (by rw[hdd];rfl) I I I (λh=>absurd h tF) (λ_ _=>xX) (.inl a2)
  ·obtain⟨g',w',es,hgo,⟨rfl,rfl⟩,hg'⟩:=hstep w (RW.refl w);exact idle hgo (by rw[hst,hdd];exact .d1 hg') I I I
 |d2 h=>
  have me:lR D j i=.d2:=by rw[lT hi,hst];rfl
  obtain⟨hv0,xX,tF,hcw,hwt,_⟩:=fY.last P6.wg.2 hin (.inl me);have NK:=hwt (by rw[me];simp);have hw1:WgAt X.S.tw X.S.Wg w 1 0:=by
   have:=hwA;have z:((0*4294967296+b1 Z6:Nat):Int)=1:=by simp[b1]
   rw[hv0,NK,xX,z]at this;exact this
  rcases bb6 h with hstop|⟨m',rfl,hstep⟩
  ·obtain⟨_,hx⟩:=hstop w (RW.refl w);obtain⟨g',hgo,m₂,hk⟩:=hx hw1;obtain⟨a1,a2⟩:=muA (s':=3) (m':=m₂) (dd':=1) (kU:=gw) I (by rw[me];simp only[R4];rw[if_pos ⟨hv0,NK⟩];rfl);exact book hgo (bA.refl _ _) P6.wg.1 a1 (by intro e he;simp at he;subst he;exact .inr (.inr ⟨_,_,rfl,rfl⟩)) (by intro jx e he;rw[hdd];match jx,he with| 0,_=>exact .inr (by simp[ad2])|jx+1,he=>simp at he) (.d3 hk) (by rw[hdd];rfl) I I I (λh=>absurd h tF) (λ_ _=>xX) (.inl a2)
  ·obtain⟨g',w',es,hgo,⟨rfl,rfl⟩,hg'⟩:=hstep w (RW.refl w);exact idle hgo (by rw[hst,hdd];exact .d2 hg') I I I
 |d3 h=>
  have me:lR D j i=.d3:=by rw[lT hi,hst];rfl
  obtain⟨hv0,xX,tF,hcw,hwt,_⟩:=fY.last P6.wg.2 hin (.inr (.inl me));have NK:=hwt (by rw[me];simp);have hw1:WgAt X.S.tw X.S.Wg w 1 0:=by
   have:=hwA;have z:((0*4294967296+b1 Z6:Nat):Int)=1:=by simp[b1]
   rw[hv0,NK,xX,z]at this;exact this
  rcases bb6 h with hstop|⟨m',rfl,hstep⟩
  ·obtain⟨_,hx⟩:=hstop w (RW.refl w);obtain⟨g',hgo,m₂,hk⟩:=hx hw1;obtain⟨a1,a2⟩:=muA (s':=2) (m':=m₂) (dd':=1) (kU:={gw with v:=0,wt:=E}) I (by rw[me];rfl);have va:bZ X.S.tw X.S.Wg {gw with v:=0,wt:=E} (w.setCell (stA X.S.Wg) (.int .u64 0)):=by
    have:=P6.wg.1.nZ (y:={gw with v:=0,wt:=E}) rfl;have z:((0*4294967296+b1 E:Nat):Int)=0:=by simp[b1]
    simp only[z]at this;exact this
   exact book hgo (bA.set _ _ 0 _ I) va a1 (by intro e he;simp at he;subst he;exact .inr (.inr ⟨_,_,rfl,rfl⟩)) (by intro jx e he;rw[hdd];match jx,he with| 0,_=>exact .inr (by simp[ad2])|jx+1,he=>simp at he) (.d4 hk) (by rw[hdd];rfl) I I I (λh=>absurd h tF) (λ_ _=>xX) (.inl a2)
  ·obtain⟨g',w',es,hgo,⟨rfl,rfl⟩,hg'⟩:=hstep w (RW.refl w);exact idle hgo (by rw[hst,hdd];exact .d3 hg') I I I
 |d4 h=>
  have me:lR D j i=.d4:=by rw[lT hi,hst];rfl
  obtain⟨hv0,xX,tF,hcw,_,hwt⟩:=fY.last P6.wg.2 hin (.inr (.inr me));have NK:=hwt me;have hw1:WgAt X.S.tw X.S.Wg w 0 0:=by
   have:=hwA;have z:((0*4294967296+b1 E:Nat):Int)=0:=by simp[b1]
   rw[hv0,NK,xX,z]at this;exact this
  rcases bb6 h with hstop|⟨m',rfl,hstep⟩
  ·obtain⟨_,hmw,hx⟩:=hstop w (RW.refl w);obtain⟨g',hgo,q2,E6⟩:=hx hw1;have jF:g'.status=.running:=by
    cases q2 with
    |zero=>exact absurd E6.2 Yo
    |succ q=>exact E6.elim (λx=>absurd x.2 Yo) (λx=>x.1)
   obtain⟨a1,a2⟩:=muA (s':=1) (m':=q2) (dd':=1) (kU:={gw with sm:=gw.sm+1}) I (by rw[me];rfl);have va:bZ X.S.tw X.S.Wg {gw with sm:=gw.sm+1} (w.setCell (smA X.S.Wg) (.int .u32 1)):=by have:=P6.wg.1.tP (y:={gw with sm:=gw.sm+1}) rfl rfl;rw[xX]at this⊢;exact this
   refine book hgo (bA.set _ _ 1 _ I) va a1 (es:=semEvents (smA X.S.Wg)) ?_ ?_ (.quit E6) (by rw[hdd];simp[ad2,semEvents]) I I I (λh=>absurd h tF) (λ_ hw=>?_) (.inl a2)
   ·intro e he;simp[semEvents]at he;rcases he with rfl|rfl|rfl|rfl
    ·exact .inl rfl
    ·exact .inr (.inr ⟨_,_,rfl,rfl⟩)
    ·exact .inr (.inr ⟨_,_,rfl,rfl⟩)
    ·exact .inr (.inl rfl)
   ·intro jx e he;rw[hdd];match jx,he with
    | 0,he=>simp[semEvents]at he;subst he;exact .inl rfl
    | 1,_=>exact .inr (by simp[ad2,semEvents])
    | 2,_=>exact .inr (by simp[ad2,semEvents])
    | 3,he=>simp[semEvents]at he;subst he;exact .inl rfl
    |jx+4,he=>simp[semEvents]at he
   ·simp[jL,hmw,jF]at hw
  ·obtain⟨g',w',es,hgo,⟨rfl,rfl⟩,hg'⟩:=hstep w (RW.refl w);exact idle hgo (by rw[hst,hdd];exact .d4 hg') I I I
 |quit h=>
  cases m with
  |zero=>rw[h.1]at hrun;cases hrun
  |succ q2=>
   rcases h with⟨hf,_⟩|⟨_,g',es,Ax,hstep,E6⟩
   ·rw[hf]at hrun;cases hrun
   ·have hbk:∀e∈es,Bk X.S.Wg e:=λe he=>bk_of_mute (Ax e he);exact book (s':=1) (m':=q2) (kU:=gw) (hstep w) (bA.refl _ _) P6.wg.1 (by rw[iH (D:=D) (i:=i) (d':=(D i).stage 1 q2 (ad2 dd es)) (by rw[hst];rfl)];exact P6.wg.2) hbk (λjx e he=>.inl (be4 (Ax e (zcm he)))) (.quit E6) (by rw[hdd]) I I I (λ_ e he=>be4 (Ax e he)) (λh _=>P6.xW h) (.inr ⟨I,I⟩)
end
end
section
open Go.ConcR (KK wgBlock WgAt stA smA rd wr mk Payload Aside2 DC0 Bk bk_of_mute)
def fY.ah4{n:Nat}{c:Ct}(h:fY n ws c g)(h1:c≠.rt)(h2:∀r,c≠.go r)(h3:¬(c=.w3/\g.sm=0)):∃r,pJ c g=Y r:=by
 have h5:=Ar.fin h;cases c with
 |go r=>exact absurd rfl (h2 r)
 |rt=>exact absurd rfl h1
 |w3=>exact⟨_,by simp only[pJ];rw[if_neg (λe=>h3 ⟨rfl,e⟩)]⟩
 |w4=>have:=h5 rfl rfl;exact⟨_,by simp only[pJ];rw[if_pos ⟨this.1,this.2.1⟩]⟩
 |_=>exact⟨_,rfl⟩
def fY.bds{n:Nat}{c:Ct}(h:fY n ws c g):g.v<=n+1/\g.sm<=1/\(c.open=Z6->g.wt=E):=by
 have hbd:=R5 n ws;have hp:c.pend<=1:=by cases c<;>simp[Ct.pend]
 obtain⟨h1,ha,h2,h3,h4,h5⟩:=h;cases ho:c.open with
 |true=>have:=h2 ho;exact⟨I,I,λ_=>this.2.1⟩
 |false=>
  cases hw':c.waits with
  |true=>rcases h4 hw' with q|q|q<;>exact⟨I,I,λh=>by cases h⟩
  |false=>have:=h5 ho hw';exact⟨I,I,λh=>by cases h⟩
def fY.VA{n:Nat}{c:Ct}(h:fY n ws c g)(h1:c.open=E)(h2:c.waits=E)(hi:i<n):ws i=.qt:=by
 have q1:=Ar.fin h h1 h2;have q2:=Ar.left h;have hl:c.left=0:=by cases c<;>first|rfl|cases h1
 have l1:=eF (f:=λj=>kN (ws j)) hi;have l2:=eF (f:=λj=>kW (ws j)) hi;have l3:=eF (f:=λj=>kD (ws j)) hi;have key:∀T:Ws,kN T=0->kW T=0->kD T=0->T=.qt:=by intro T;cases T<;>simp[kN,kW,kD]
 exact key _ I I I
def Sp{st:Nat}(h:J9 st=.qt):st<=1:=by
 unfold J9 at h;split at h
 ·cases h
 ·split at h
  ·cases h
  ·split at h
   ·cases h
   ·split at h
    ·cases h
    ·omega
def Zl{c:Ct}{g':Gw}(h:pJ c g=Y (.rt,g')):c=.aq:=by
 cases c<;>simp only[pJ]at h<;>(try split at h) <;>first|rfl|simp at h|(simp at h;try(split at h<;>simp at h))|cases h
variable [Payload]
section
variable {X:Ph}{K j:Nat}{M:Md}{D:Nat->Wk}{B:Nat->Bool}{x:Nat->Wd}{v:Nat->Nat}{gw:Gw}{qs:Nat->Nat}{gs:Array au}{w:af}{t:Trace}{sl:Option (Nat×Nat)}{g:au}
def Lm(X:Ph)(M:Md)(f:Nat)(g:au)(w:af):Prop:=
 ∃r g' child gP n',M.c=.go r/\stepG X.P Z6 g w=.spawn g' child w #[]/\g'.status=.running/\X.bT r child w M.own gP/\GoM X ⟨gP,.sp (r-1),n'⟩ n' (f-1) g' w
def Inv.Sq(hX:rJ X)(hK:1<=K)(Lt:Inv X K j M D B x v gw qs gs w t)(hg:gs[0]?=Y g)(hb:B 0=E)(hf:K<=f)(hj:GoM X M M.fu f g w):
 (X.uY ⟨M.own,.mn M.c,f⟩ g w)\/Lm X M f g w\/Nx X (lX X j M D x v,G7 X j M D B qs) gs w sl t 0:=by
 have P6:=Lt.env;have Ou:((⟨M.own,.mn M.c,f⟩:aL)).own=(Hd X M D 0).own:=rfl;have Ey:=P6.nY.D5 X.S.Wg (.inl (.inr rfl));have qO:∃c e fr,w.heap[X.S.Wg]?=Y (.cells c e fr):=⟨_,_,_,P6.wg.1⟩
 rcases cN.ways hj (by simp only;omega)with(hstop|⟨hrun,GF⟩)|⟨m,hm,hrun,hstep⟩
 ·exact .inl (hstop w (RX.refl _ _))
 ·right;obtain⟨b1',b2',b3'⟩:=fY.bds P6.wg.2;have ah3:=hX.big;obtain⟨tF,hsp,TB,qM⟩:=GF w (RX.refl _ _) M.c gw rfl P6.wg.1 I I b3';by_cases adC:∃r,M.c=.go r
  ·obtain⟨r,hr⟩:=adC;obtain⟨g',child,gP,h1,h2,h3,n',h4⟩:=hsp r hr;exact .inl ⟨r,g',child,gP,n',hr,h1,h2,h3,h4⟩
  right;by_cases nU:M.c=.w3/\gw.sm=0
  ·obtain⟨hoff,hgo⟩:=TB nU.1 nU.2;have Z3:jL X.P g {g with status:=.blocked}=E:=by simp[jL]
   have hgj:GoM X ⟨M.own,M.c,0⟩ 0 f g w:=cN.jump hrun GF;have hE:o9 X K j ⟨M.own,M.c,0⟩ D (rK X.P B 0 Z6 g {g with status:=.blocked}) x v gw w (t++ac0 0 g.frame.fn g.frame.place #[]):=by refine P6.step0 (M':=⟨M.own,M.c,0⟩) (zch _) (λb h=>.inl h) (λq hq=>(P6.mu q hq).1) P6.wg (λk hk h=>?_) (λ_=>nU.2) (λop hop=>by simp[ac0]at hop) rfl (λe he=>by simp at he) (λe he=>by simp at he) (λh=>.inl h) P6.NG (Fy.refl w);unfold rK at h;simp[Z3]at h;exact P6.iJ k hk h
   obtain⟨h1,h2⟩:=Lt.step (sl:=sl) (M':=⟨M.own,M.c,0⟩) (D':=D) (x':=x) (v':=v) (kU:=gw) (Lj:=qs) (b:=Z6) hX hK (zch K) hg hgo (λh=>absurd rfl h) (λ_ _ _=>rfl) (λ_ _=>rfl) (λ_ _ _=>RX.refl _ _) (λ_ _ _ _ _=>RX.refl _ _) (λ_=>.iJ f hf rfl nU.1 hrun hoff hgj) (λk hk e=>I) (λh=>I) hE;refine⟨_,_,_,_,h1,?_,K,j,_,D,_,x,v,gw,qs,hK,h2,rfl⟩;refine ax0 _ ?_;have ah5:Vw X j (rK X.P B 0 Z6 g {g with status:=.blocked})<Vw X j B:=by
    have:=Cu (f:=λk=>b1 (!rK X.P B 0 Z6 g {g with status:=.blocked} k)) (g:=λk=>b1 (!B k)) (q:=0) (n:=X.off+j+1) I λk _ hne=>by simp[rK,hne,Z3]
    simp only[hb,rK,if_true]at this;have z1:b1 (!true)=0:=rfl;have z2:b1 (!false)=1:=rfl;rw[z1,z2]at this;unfold Vw;simp only[rK];omega
   unfold G7;rcases zco (Sm X j ⟨M.own,M.c,0⟩ D qs) (Sm X j M D qs)with h|h
   ·exact tE h (wz P6.jn _)
   ·refine NE ?_ ah5;unfold Sm at h⊢;simp only at h⊢;omega
  ·obtain⟨r,hr⟩:=fY.ah4 P6.wg.2 tF (λr e=>adC ⟨r,e⟩) nU;obtain⟨g',w',es,hgo,hcs,n',hn'⟩:=qM r hr;obtain⟨i1,i2⟩:=ada P6.wg.2 (c':=r.1) (g':=r.2) hr;have Pk:∀k,k<=j->∀O:aL,O.own=(Hd X M D k).own->RX (Hd X M D k).L O w w':=λk hk O hO=>P6.nY.J8 hk hO (.inr rfl) qO (λ_=>hcs.rep.live) hcs.Kw;have hlt:lX X j ⟨M.own,r.1,n'⟩ D x v<lX X j M D x v:=by unfold lX;refine tE (tE ?_ (Lg _ _ _ _)) (Lh P6.jn λk hk=>(P6.st k hk).2.2.2);unfold mA;simp only;omega
   have Ol:1<=K-1:=by have:=P6.NG;omega
   have hE:o9 X (K-1) j ⟨M.own,r.1,n'⟩ D (rK X.P B 0 E g g') x v r.2 w' (t++ac0 0 g.frame.fn g.frame.place es):=by
    refine P6.step0 (M':=⟨M.own,r.1,n'⟩) (zcn hcs.Kw.size.symm) (λb h=>.inl h) (λq hq=>(P6.mu q hq).1.Ay (hcs.Kw.other _ (hX.WB q hq))) ⟨hcs.rep,i1⟩ (λk hk h=>P6.iJ k hk (kH h).1) (λh=>absurd rfl (kH h).2.2) (Vl hX.Z2 hcs.bk) hcs.deaf (λe he y hy=>?_) (λe he h=>?_) (λh=>.inr ?_) (by have:=P6.NG;omega) ⟨hcs.Kw.tape,hcs.Kw.output,hcs.Kw.os⟩
    ·obtain⟨a,e1,h1⟩:=(Se hX.Z2 (hcs.bk e he) hy).2.1;rw[e1];show a.block<_;exact P6.nY.D5 _ (.inl (h1.imp (λ⟨q,h1,h2,_⟩=>⟨q,h1,h2⟩) id))
    ·rcases hcs.bk e he with h1|h1|h1|h1|h1|⟨a,wr,h1,_⟩
     ·rw[h1]at h;cases h
     ·rw[h1]at h;cases h
     ·rw[h1]at h;cases h
     ·rw[h1]at h;cases h
     ·rw[h1]at h;cases h
     ·rw[h1]at h;cases h
    ·have hc:M.c=.aq:=Zl (g:=gw) (g':=r.2) (by rw[hr];simp only at h;rw[<-h]);refine⟨λk hk=>?_,hcs.acq hc,by rw[hc];rfl⟩;have:=fY.VA P6.wg.2 (by rw[hc];rfl) (by rw[hc];rfl) (zci hk P6.jn);rw[lT hk]at this;have:=Sp this;omega
   obtain⟨h1,h2⟩:=Lt.step (sl:=sl) (M':=⟨M.own,r.1,n'⟩) (D':=D) (x':=x) (v':=v) (kU:=r.2) (Lj:=qs) (b:=E) hX Ol (Nat.sub_le _ _) hg hgo (λh=>absurd rfl h) (λ_ _ _=>rfl) (λ_ _=>rfl) (λh=>absurd rfl h) (λk hk _ O hO=>Pk (k+1) I O hO) (λ_=>.run (f-1) I hn') (λk hk e=>I) (λh=>I) hE;exact⟨_,_,_,_,h1,az8 _ _ hlt,K-1,j,_,D,_,x,v,r.2,qs,Ol,h2,rfl⟩
 ·right;right;have NB:=hstep w (RX.refl _ _);cases hgo:stepG X.P Z6 g w with
  |go g' w' es=>
   rw[hgo]at NB;obtain⟨hd,hg'⟩:=NB;have hE:o9 X K j ⟨λb=>M.own b\/(w.heap.size<=b/\b<w'.heap.size),M.c,m⟩ D (rK X.P B 0 E g g') x v gw w' (t++ac0 0 g.frame.fn g.frame.place es):=by refine P6.step0 (M':=⟨λb=>M.own b\/(w.heap.size<=b/\b<w'.heap.size),M.c,m⟩) hd.le (λb h=>h) (λq hq=>P6.nY.WG (zcl _) Ou hq hd (P6.mu q hq).1) ⟨?_,P6.wg.2⟩ (λk hk h=>P6.iJ k hk (kH h).1) (λh=>P6.xW (kH h).1) (P6.nY.ok0 (off:=X.off) Ou hd.ev) (Cv (H:=Hd X M D) (i:=0) hd.ev _) (λe he y hy=>P6.nY.adv (zcl _) Ou (hd.ev e he) hy) (λe he=>qY (hd.ev e he) _) (λh=>.inl h) P6.NG ⟨hd.tape,hd.out,by rw[hd.os];exact .refl _⟩;unfold bZ;rw[P6.nY.WH (zcl _) Ou hd];exact P6.wg.1
   obtain⟨h1,h2⟩:=Lt.step (sl:=sl) (M':=⟨λb=>M.own b\/(w.heap.size<=b/\b<w'.heap.size),M.c,m⟩) (D':=D) (x':=x) (v':=v) (kU:=gw) (Lj:=qs) (b:=E) hX hK (zch K) hg hgo (λh=>absurd rfl h) (λ_ _ _=>rfl) (λ_ _=>rfl) (λh=>absurd rfl h) (λk hk hne O hO=>P6.nY.Sa (k:=k+1) (zcl _) I I Ou hO hd) (λ_=>.run f hf hg') (λk hk e=>I) (λh=>I) hE;refine⟨_,_,_,_,h1,ax0 _ (tE ?_ (wz P6.jn _)),K,j,_,D,_,x,v,gw,qs,hK,h2,rfl⟩;unfold Sm;simp only;omega
  |_=>rw[hgo]at NB;exact NB.elim
def Inv.NL(hX:rJ X)(hK:1<=K)(Lt:Inv X K j M D B x v gw qs gs w t)(h1:1<=idx)(h2:idx<=X.off)(hg:gs[idx]?=Y g)(hrun:g.status=.running):Nx X (lX X j M D x v,G7 X j M D B qs) gs w sl t idx:=by
 have P6:=Lt.env;obtain⟨g0,EA,hq⟩:=Lt.sR idx h1 h2;rw[hg]at EA;cases EA;cases KZ:qs idx with
 |zero=>rw[KZ]at hq;rw[hq.1]at hrun;cases hrun
 |succ k=>
  rw[KZ]at hq;rcases hq with⟨hf,_⟩|⟨_,g',es,hm,Ry,fX⟩
  ·rw[hf]at hrun;cases hrun
  have hE:=P6.Qm (B':=rK X.P B idx E g g') (fn:=g.frame.fn) (pos:=g.frame.place) h1 h2 hm (λk h=>(kH h).1);obtain⟨q1,q2⟩:=Lt.step (sl:=sl) (M':=M) (D':=D) (x':=x) (v':=v) (kU:=gw) (Lj:=aR qs idx k) (b:=E) hX hK (zch K) hg (by rw[show (idx == 0)=E by simp;omega];exact Ry w) (λ_=>rfl) (λ_ _ _=>rfl) (λi hi=>bE _ _ hi) (λ_ _ _=>RX.refl _ _) (λ_ _ _ _ _=>RX.refl _ _) (λh=>I) (λi hi e=>I) (λ_ _=>by rw[aV];exact fX) hE;refine⟨_,_,_,_,q1,ax0 _ (tE ?_ (wz P6.jn _)),K,j,M,D,_,x,v,gw,_,hK,q2,rfl⟩;have:=mL (λn:Nat=>n) qs k (i:=idx) (n:=X.off+1) I;rw[KZ]at this;unfold Sm;have e:sm (aR qs idx k) (X.off+1)=sm (λj=>aR qs idx k j) (X.off+1):=rfl;have e':sm qs (X.off+1)=sm (λj=>qs j) (X.off+1):=rfl;omega
end
end
section
open Go.ConcR (KK wgBlock WgAt stA smA rd wr mk Payload Aside2 DC0 Bk bk_of_mute)
def Sr(D:Nat->Wk)(j:Nat):∀n,sm (λi=>kN (lR D j i)) n=n-j:=by
 have key:∀st,kN (J9 st)=0:=by intro st;unfold J9;(repeat' split) <;>rfl
 intro n;induction n with
 |zero=>simp[sm]
 |succ n ih=>
  simp only[sm];rw[ih];rcases zco n j with h|h
  ·have:lR D j n=J9 (D n).st:=lT h;rw[this,key];omega
  ·have:lR D j n=.nb:=by simp[lR,Nat.not_lt.2 h]
   rw[this];simp only[kN];omega
section
variable {X:Ph}{M:Md}{D:Nat->Wk}{j:Nat}{d:Wk}
def Ln{q:Nat}(hq:d.q=q):iS (aR D j d) (j+1) q=aR (iS D j q) j d.T:=by
 funext k;unfold iS aR;by_cases e:k=j
 ·subst e;simp[hq]
 ·have:k<j+1↔k<j:=I
  simp[e,this]
def GG{q:Nat}(hq:d.q≠q):iS (aR D j d) (j+1) q=iS D j q:=by
 funext k;unfold iS aR;by_cases e:k=j
 ·subst e;simp[hq]
 ·have:k<j+1↔k<j:=I
  simp[e,this]
def VB:lR (aR D j d) (j+1)=aR (lR D j) j (J9 d.st):=by
 funext k;unfold lR aR;by_cases e:k=j
 ·subst e;simp
 ·have:k<j+1↔k<j:=I
  simp[e,this]
def qG{M':Md}(hk:k<=j):(Hd X M' (aR D j d) k).L=(Hd X M D k).L/\(k≠0->(Hd X M' (aR D j d) k).own=(Hd X M D k).own):=by
 cases k with
 |zero=>exact⟨rfl,λh=>absurd rfl h⟩
 |succ k=>simp only[Hd,bE D d (I:k≠j)];exact⟨trivial,λ_=>trivial⟩
def Ke{M':Md}:Hd X M' (aR D j d) (j+1)=⟨d.own,d.L⟩:=by simp only[Hd,aV]
end
section
variable {X:Ph}{M M':Md}{D:Nat->Wk}{j:Nat}{w:af}
def Geo.child(hX:rJ X)(G:Geo X.S j (Hd X M D) w)(WC:∀i a,i<j->(D i).L.og a->X.L0.og a)(Vo:∀i,i<j->∀a,(D i).L.Mn a->X.IX (X.n-i) a)(hjn:j<X.n){d:Wk}(k:adt X (X.n-j) d w M.own M'.own):Geo X.S (j+1) (Hd X M' (aR D j d)) w:=by
 have hL:∀i,i<=j->(Hd X M' (aR D j d) i).L=(Hd X M D i).L:=λi hi=>(qG hi).1;have hO:∀i b,i<=j->(Hd X M' (aR D j d) i).own b->(Hd X M D i).own b:=λi b hi h=>by
  by_cases e:i=0
  ·subst e;exact k.less b h
  ·rwa [(qG (M:=M) hi).2 e]at h
 have WL:∀b,¬(Hd X M' (aR D j d) (j+1)).own b:=λb=>by rw[Ke];exact k.d0.2.2.2.2 b
 have GH:(Hd X M' (aR D j d) (j+1)).L=d.L:=by rw[Ke]
 have cs:∀i,i<=j+1->i<=j\/i=j+1:=λi hi=>I
 have h0:(Hd X M D 0).L=X.L0:=rfl;have adE:∀i a,i<=j->(Hd X M D i).L.og a->X.L0.og a:=λi a hi h=>by
  cases i with
  |zero=>exact h
  |succ i=>exact WC i a I h
 have ix:=λa (h:d.L.Mn a)=>hX.ix _ a (k.mn a h);have nfx:∀b,(X.L0.Fx b->False)->(M.own b->False)->¬d.L.Fx b:=λb h1 h2 h=>(k.fx b h).elim h1 λx=>h2 x.1;refine⟨λi hi=>?_,λi hi=>?_,λi b hi h=>?_,λi b hi h=>?_,G.D5,λa c b ha hc h h'=>?_,λa c b ha hc h h'=>?_,λa c y ha hc h h'=>?_,λa c y ha hc h=>?_,λa c y ha hc h h'=>?_,λa y ha h=>?_,λa c y ha hc h=>?_,λa b ha hb=>?_,λa y ha h=>?_,λa c b ha hc h=>?_⟩
 ·rcases cs i hi with h|rfl
  ·rw[hL i h];exact G.wg i h
  ·rw[GH];exact k.wg
 ·rcases cs i hi with h|rfl
  ·rw[hL i h];exact G.top i h
  ·rw[GH];exact k.top
 ·rcases cs i hi with h1|rfl
  ·exact G.xw i b h1 (hO i b h1 h)
  ·exact absurd h (WL b)
 ·rcases cs i hi with h1|rfl
  ·rw[hL i h1]at h;exact G.GB i b h1 h
  ·rw[GH]at h;exact(k.fx b h).elim (λx=>G.GB 0 b (zcl _) x) λx=>G.xw 0 b (zcl _) x.1
 ·rcases cs a ha with h1|rfl
  ·rcases cs c hc with h2|rfl
   ·exact G.oo a c b h1 h2 (hO a b h1 h) (hO c b h2 h')
   ·exact absurd h' (WL b)
  ·exact absurd h (WL b)
 ·rcases cs a ha with h1|rfl
  ·rcases cs c hc with h2|rfl
   ·rw[hL c h2]at h';exact G.of a c b h1 h2 (hO a b h1 h) h'
   ·rw[GH]at h';rcases k.fx b h' with x|⟨x,y⟩
    ·exact G.of a 0 b h1 (zcl _) (hO a b h1 h) x
    ·have:=G.oo a 0 b h1 (zcl _) (hO a b h1 h) x;subst this;exact y h
  ·exact absurd h (WL b)
 ·rcases cs c hc with h2|rfl
  ·rcases cs a ha with h1|rfl
   ·rw[hL a h1]at h;exact G.mo a c y h1 h2 h (hO c _ h2 h')
   ·rw[GH]at h;exact(G.Oo 0 c _ (zcl _) h2 (ix y h).2.1).2.1 (hO c _ h2 h')
  ·exact absurd h' (WL _)
 ·rcases cs a ha with h1|rfl
  ·rw[hL a h1]at h;rcases cs c hc with h2|rfl
   ·rw[hL c h2];exact G.mf a c y h1 h2 h
   ·rw[GH];exact⟨nfx _ (λx=>(G.mf a 0 y h1 (zcl _) h).1 x) (λx=>G.mo a 0 y h1 (zcl _) h x),λx=>(G.mf a 0 y h1 (zcl _) h).2 (k.fc y x)⟩
  ·rw[GH]at h;have q:=ix y h;rcases cs c hc with h2|rfl
   ·rw[hL c h2];exact⟨(G.Oo 0 c _ (zcl _) h2 q.2.1).2.2,λx=>q.2.2.2.1 (adE c y h2 x)⟩
   ·rw[GH];exact⟨nfx _ (G.Oo 0 0 _ (zcl _) (zcl _) q.2.1).2.2 (G.Oo 0 0 _ (zcl _) (zcl _) q.2.1).2.1,λx=>q.2.2.2.1 (k.fc y x)⟩
 ·have new:∀i,i<=j->(Hd X M D i).L.Mn y->d.L.Mn y->False:=λi hi x z=>by
   cases i with
   |zero=>exact(ix y z).2.2.1 x
   |succ i=>
    have:=hX.ixd _ _ y (Vo i I y x) (k.mn y z);omega
  rcases cs a ha with h1|rfl
  ·rw[hL a h1]at h;rcases cs c hc with h2|rfl
   ·rw[hL c h2]at h';exact G.mm a c y h1 h2 h h'
   ·rw[GH]at h';exact(new a h1 h h').elim
  ·rw[GH]at h;rcases cs c hc with h2|rfl
   ·rw[hL c h2]at h';exact(new c h2 h' h).elim
   ·rfl
 ·rcases cs a ha with h1|rfl
  ·rw[hL a h1]at h;exact G.spot a y h1 h
  ·rw[GH]at h;exact h.elim (λx=>(ix y x).1) λx=>G.spot 0 y (zcl _) (.inr (k.fc y x))
 ·have L6:∀c,c<=j->X.L0.og y->¬(Hd X M D c).own y.block/\¬(Hd X M D c).L.Fx y.block:=λc hc x=>G.co 0 c y (zcl _) hc x;have hy:X.L0.og y:=by
   rcases cs a ha with h1|rfl
   ·rw[hL a h1]at h;exact adE a y h1 h
   ·rw[GH]at h;exact k.fc y h
  rcases cs c hc with h2|rfl
  ·rw[hL c h2];exact⟨λx=>(L6 c h2 hy).1 (hO c _ h2 x),(L6 c h2 hy).2⟩
  ·rw[GH];exact⟨WL _,nfx _ (L6 0 (zcl _) hy).2 (L6 0 (zcl _) hy).1⟩
 ·rcases cs a ha with h1|rfl
  ·rw[hL a h1];exact⟨λx=>(G.sh a b h1 hb).1 (hO a b h1 x),(G.sh a b h1 hb).2⟩
  ·rw[GH];exact⟨WL _,nfx _ (G.sh 0 b (zcl _) hb).2 (G.sh 0 b (zcl _) hb).1⟩
 ·rcases cs a ha with h1|rfl
  ·rw[hL a h1]at h;exact G.Tb a y h1 h
  ·rw[GH]at h;rcases h with h|h
   ·exact G.Tb 0 y (zcl _) (.inl (k.fc y h))
   ·have q:=ix y h;exact⟨q.2.2.2.2.1,q.2.2.2.2.2.1,λp hp e=>absurd e (q.2.2.2.2.2.2 p hp)⟩
 ·have key:∀a',a'<=j->(Hd X M D a').L.Sh b->b<w.heap.size/\¬(Hd X M' (aR D j d) c).own b/\¬(Hd X M' (aR D j d) c).L.Fx b:=λa' ha' x=>by
   refine⟨(G.Oo a' 0 b ha' (zcl _) x).1,?_⟩;rcases cs c hc with h2|rfl
   ·rw[hL c h2];exact⟨λz=>(G.Oo a' c b ha' h2 x).2.1 (hO c b h2 z),(G.Oo a' c b ha' h2 x).2.2⟩
   ·rw[GH];exact⟨WL _,nfx _ (G.Oo a' 0 b ha' (zcl _) x).2.2 (G.Oo a' 0 b ha' (zcl _) x).2.1⟩
  rcases cs a ha with h1|rfl
  ·rw[hL a h1]at h;exact key a h1 h
  ·rw[GH]at h;exact key 0 (zcl _) (k.sh b h)
end
variable [Payload]
section
variable {X:Ph}{K j:Nat}{M M':Md}{D:Nat->Wk}{B:Nat->Bool}{x:Nat->Wd}{v:Nat->Nat}{gw:Gw}{qs:Nat->Nat}{gs:Array au}{w:af}{t:Trace}{sl:Option (Nat×Nat)}{g:au}
def Inv.NN(hX:rJ X)(hK:1<=K)(Lt:Inv X K j M D B x v gw qs gs w t)(hg:gs[0]?=Y g)(hf:K<=f)(hs:Lm X M f g w):Nx X (lX X j M D x v,G7 X j M D B qs) gs w sl t 0:=by
 have P6:=Lt.env;obtain⟨r,g',child,gP,n',hc,hgo,hrun,⟨d,Xk,kg,hch⟩,hm⟩:=hs;have EB:=P6.wg.2;rw[hc]at EB;have CO:1<=r:=Ar.a1 EB r (.inr (.inr (.inr rfl)));have hrn:X.n-j=r:=by have:=Ar.left EB;rw[Sr]at this;exact this
 have hjn:j<X.n:=I
 obtain⟨r',rfl⟩:∃r',r=r'+1:=⟨r-1,I⟩
 have hwj:lR D j j=.nb:=by simp[lR]
 obtain⟨i1,i2⟩:=Y7 EB hjn hwj;rw[<-hrn]at kg;have e0:r'+1-1=r':=rfl;rw[e0]at hm;have NI:Geo X.S (j+1) (Hd X ⟨gP,.sp r',n'⟩ (aR D j d)) w:=P6.nY.child (M':=⟨gP,.sp r',n'⟩) hX P6.WC (λi hi=>(P6.Vo i hi).1) hjn kg;have Z4:lR (aR D j d) (j+1)=aR (lR D j) j .wk:=by rw[VB,kg.d0.2.2.1];rfl
 have hD:∀i,i<j->aR D j d i=D i:=λi hi=>bE _ _ I;have hlt:lX X (j+1) ⟨gP,.sp r',n'⟩ (aR D j d) x v<lX X j M D x v:=by
  unfold lX;refine tE (tE ?_ (Lg _ _ _ _)) (Lh hjn λk hk=>?_)
  ·have sA:=Cu (f:=λq=>msA X.n (iS (aR D j d) (j+1) q) (v q)) (g:=λq=>msA X.n (iS D j q) (v q)) kg.q λq _ hne=>by rw[GG (Ne.symm hne)]
   have e1:iS (aR D j d) (j+1) d.q=aR (iS D j d.q) j .vk:=by rw[Ln rfl,kg.d0.1]
   have e2:=KQ (th:=iS D j d.q) hjn .vk (v d.q);have e3:iS D j d.q j=.out:=by simp[iS]
   rw[e3]at e2;simp only[e1]at sA;have e4:msA X.n (iS D j d.q) (v d.q)=sm (λi=>nX (iS D j d.q i)) X.n+3*v d.q:=rfl;have w1:nX .out=0:=rfl;have w2:nX .vk=9:=rfl;unfold mA;rw[Z4,hc];simp only;omega
  ·by_cases e:k=j
   ·subst e;rw[aV,kg.d0.2.2.1,kg.d0.2.1];omega
   ·rw[hD k I];exact(P6.st k I).2.2.2
 have Ol:1<=K-1:=by have:=P6.NG;omega
 have hsz:=Lt.size;have T8:(((ac0 0 g.frame.fn g.frame.place #[]).push {g:=0,fn:=g.frame.fn,pos:=g.frame.place,act:=.go gs.size}).push {g:=gs.size,fn:=child.frame.fn,pos:=g.frame.place,act:=.start})=#[{g:=0,fn:=g.frame.fn,pos:=g.frame.place,act:=.go (X.off+j+1)},{g:=X.off+j+1,fn:=child.frame.fn,pos:=g.frame.place,act:=.start}]:=by rw[bg0,hsz];simp
 have hrT:=runT_crowd_spawn (sl:=sl) (i:=0) hg hgo;rw[T8]at hrT;generalize hx:({g:=0,fn:=g.frame.fn,pos:=g.frame.place,act:=.go (X.off+j+1)}:MemOp)=o1 at hrT;generalize hy:({g:=X.off+j+1,fn:=child.frame.fn,pos:=g.frame.place,act:=.start}:MemOp)=o2 at hrT;have ho1:o1.g=0/\o1.act=.go (X.off+j+1):=by rw[<-hx];exact⟨rfl,rfl⟩
 have ho2:o2.g=X.off+j+1/\o2.act=.start:=by rw[<-hy];exact⟨rfl,rfl⟩
 have hm2:∀op∈(#[o1,o2]:Array MemOp),op=o1\/op=o2:=by intro op hop;simpa using hop
 have hnt:∀op∈(#[o1,o2]:Array MemOp),op.act.touch?=F:=λop hop=>by rcases hm2 op hop with rfl|rfl<;>first|(rw[ho1.2];rfl)|(rw[ho2.2];rfl)
 have hdf:∀k,Deaf (t++#[o1,o2]) k=Deaf t k:=λk=>Go.ConcN.Deaf_still t k _ λop hop=>by rcases hm2 op hop with rfl|rfl<;>first|(rw[ho1.2];simp)|(rw[ho2.2];simp)
 have dX:∀i,1<=i->i<gs.size->((gs.setIfInBounds 0 g').push child)[i]?=gs[i]? :=λi h1 h2=>by rw[Array.getElem?_push_lt (by simpa using h2)];rw[<-Array.getElem?_eq_getElem,Array.getElem?_setIfInBounds_ne I]
 refine⟨_,_,_,(lX X (j+1) ⟨gP,.sp r',n'⟩ (aR D j d) x v,G7 X (j+1) ⟨gP,.sp r',n'⟩ (aR D j d) (aR (aR B (X.off+(j+1)) E) 0 E) qs),hrT,az8 _ _ hlt,K-1,j+1,⟨gP,.sp r',n'⟩,aR D j d,aR (aR B (X.off+(j+1)) E) 0 E,x,v,gw,qs,Ol,⟨by simp[hsz];omega,?_,λi h1 h2=>?_,λi hi=>?_,?_⟩,rfl⟩
 ·refine⟨g',?_,?_⟩
  ·rw[Array.getElem?_push_lt Yn];simp
  ·rw[aV];exact .run (f-1) I hm
 ·obtain⟨a,ha,hq⟩:=Lt.sR i h1 h2;exact⟨a,by rw[dX i h1 I];exact ha,by rw[hdf];exact hq⟩
 ·rw[bE _ _ (show X.off+(i+1)≠0 by omega)];by_cases e:i=j
  ·subst e;refine⟨child,?_,?_⟩
   ·have:X.off+(i+1)=(gs.setIfInBounds 0 g').size:=by simp[hsz];omega
    rw[this,Array.getElem?_push_size]
   ·rw[aV,aV];exact .run (K-1) kg.d0.2.2.1 (by rw[kg.d0.1,kg.d0.2.1,kg.d0.2.2.2.1];rfl) (zch _) (hch (K-1))
  ·obtain⟨a,ha,hw⟩:=Lt.wk i I;rw[bE _ _ (show X.off+(i+1)≠X.off+(j+1) by omega),hD i I];exact⟨a,by rw[dX _ I I];exact ha,hw.le (Nat.sub_le _ _)⟩
 ·refine⟨hjn,λk hk=>?_,λa k ha hk hka=>?_,λk a hk h=>?_,λk hk=>?_,NI,λq hq=>⟨(P6.mu q hq).1,?_⟩,⟨P6.wg.1,by rw[Z4];exact i1⟩,λk hk h=>?_,λh=>?_,?_,by rw[hdf,P6.WE,hc];rfl,λk hk=>?_,λk hk=>by rw[hdf];exact P6.Zi k I,λi a hi0 ha=>?_,λk hk0 h=>?_,λk hk h6=>?_,(by intro h;cases h),by have:=P6.NG;omega,P6.kp⟩
  ·by_cases e:k=j
   ·subst e;rw[aV];exact⟨kg.q,kg.bw.1,kg.v,by rw[kg.d0.2.2.1];omega,by rw[kg.d0.2.1];omega⟩
   ·rw[hD k I];exact P6.st k I
  ·by_cases e:a=j
   ·subst e;rw[aV,(qG (M:=M) (I:k<=a)).1];exact P6.nY.of 0 k _ (zcl _) I kg.bw.2.1
   ·rw[hD a I];rcases zco j k with h|h
    ·obtain rfl:k=j+1:=I
     rw[Ke];intro hf;rcases kg.fx _ hf with y|y
     ·exact P6.Zh a 0 I (zcl _) I y
     ·exact P6.nY.of 0 (a+1) _ (zcl _) I y.1 (P6.st a I).2.1
    ·rw[(qG (M:=M) h).1];exact P6.Zh a k I h hka
  ·by_cases e:k=j
   ·subst e;rw[aV]at h;exact kg.fc a h
   ·rw[hD k I]at h;exact P6.WC k a I h
  ·by_cases e:k=j
   ·subst e;rw[aV];exact⟨kg.mn,kg.vx⟩
   ·rw[hD k I];exact P6.Vo k I
  ·by_cases e:d.q=q
   ·rw[Ln e,kg.d0.1];exact(P6.mu q hq).2.begin hjn (by simp[iS])
   ·rw[GG e];exact(P6.mu q hq).2
  ·rw[bE _ _ (show X.off+(k+1)≠0 by omega)]at h;by_cases e:k=j
   ·subst e;rw[aV]at h;cases h
   ·rw[bE _ _ (show X.off+(k+1)≠X.off+(j+1) by omega)]at h;rw[hD k I];exact P6.iJ k I h
  ·rw[aV]at h;cases h
  ·have hA:=NI.apart (off:=X.off);refine P6.tr.fork hA (λk hk=>?_) (λk hk=>?_) ho1 ho2 (by rw[P6.WE,hc];rfl)
   ·funext l;unfold xV;apply propext;constructor
    ·rintro⟨h1,h2,h3⟩;refine⟨h1,hk,?_⟩;have q:=qG (X:=X) (M:=M) (M':=⟨gP,.sp r',n'⟩) (D:=D) (d:=d) (I:k-X.off<=j);unfold GC at h3⊢;rw[q.1,q.2 I]at h3;exact h3
    ·rintro⟨h1,h2,h3⟩;refine⟨h1,I,?_⟩;have q:=qG (X:=X) (M:=M) (M':=⟨gP,.sp r',n'⟩) (D:=D) (d:=d) (I:k-X.off<=j);unfold GC at h3⊢;rw[q.1,q.2 I];exact h3
   ·funext l;unfold G6;apply propext;constructor
    ·rintro⟨h1,h2,h3⟩;refine⟨h1,hk,?_⟩;have q:=qG (X:=X) (M:=M) (M':=⟨gP,.sp r',n'⟩) (D:=D) (d:=d) (I:k-X.off<=j);unfold Zd at h3⊢;rw[q.1]at h3;exact h3
    ·rintro⟨h1,h2,h3⟩;refine⟨h1,I,?_⟩;have q:=qG (X:=X) (M:=M) (M':=⟨gP,.sp r',n'⟩) (D:=D) (d:=d) (I:k-X.off<=j);unfold Zd at h3⊢;rw[q.1];exact h3
  ·by_cases e:k=j
   ·subst e;rw[aV,hdf,kg.d0.2.2.2.1];exact P6.Zi _ I
   ·rw[hD k I,hdf];exact P6.Vp k I
  ·obtain⟨op,ho,VC⟩:=at8 ha;rcases ae1 ho with⟨_,h1⟩|⟨_,h1⟩
   ·exact P6.low i a hi0 (by rw[touchAt_of h1];exact VC)
   ·rw[hnt op h1]at VC;cases VC
  ·obtain⟨op,ho,VC⟩:=zcp.1 h;rcases ae1 ho with⟨_,h1⟩|⟨_,h1⟩
   ·exact P6.NF k hk0 (by simp[Trace.act?,h1,VC])
   ·rcases hm2 op h1 with rfl|rfl
    ·rw[ho1.2]at VC;cases VC
    ·rw[ho2.2]at VC;cases VC
  ·by_cases e:k=j
   ·subst e;rw[aV,kg.d0.2.2.1]at h6;omega
   ·rw[hD k I]at h6;obtain⟨r2,OY⟩:=P6.rel k I h6;exact⟨r2,OY.1.appMute hnt,OY.2⟩
end
end
section
open Go.ConcR (KK wgBlock WgAt stA smA rd wr mk Payload Aside2 DC0 Bk bk_of_mute)
def Zm:WellFounded Lt2:=(Prod.lex Nat.lt_wfRel Nat.lt_wfRel).wf
variable [Payload]
section
variable {X:Ph}{K j:Nat}{M:Md}{D:Nat->Wk}{B:Nat->Bool}{x:Nat->Wd}{v:Nat->Nat}{gw:Gw}{qs:Nat->Nat}{gs:Array au}{w:af}{t:Trace}{sl:Option (Nat×Nat)}{g:au}
def Inv.who(Lt:Inv X K j M D B x v gw qs gs w t)(hg:gs[idx]?=Y g):idx=0\/(1<=idx/\idx<=X.off)\/∃i,i<j/\idx=X.off+(i+1):=by
 have:=(zck.1 hg).1;rw[Lt.size]at this;rcases zco X.off idx with h|h
 ·exact .inr (.inr ⟨idx-X.off-1,I,I⟩)
 ·rcases Nat.eq_zero_or_pos idx with e|e
  ·exact .inl e
  ·exact .inr (.inl ⟨e,h⟩)
def Inv.awake(hX:rJ X)(hK:1<=K)(Lt:Inv X K j M D B x v gw qs gs w t):∀g∈gs,awake g:=by
 intro g hg;obtain⟨idx,hi,rfl⟩:=Array.mem_iff_getElem.1 hg;have G4:gs[idx]?=Y gs[idx]:=Array.getElem?_eq_getElem hi;rcases Lt.who G4 with rfl|⟨h1,h2⟩|⟨i,h1,rfl⟩
 ·obtain⟨a,ha,hj⟩:=Lt.main;rw[G4]at ha;cases ha;have:=hj.status hX hK;intro s e;rw[e]at this;split at this<;>cases this
 ·obtain⟨a,ha,hj⟩:=Lt.sR idx h1 h2;rw[G4]at ha;cases ha;exact awake_of (hj.status.elim .inl λx=>.inr (.inr x))
 ·obtain⟨a,ha,hj⟩:=Lt.wk i h1;rw[G4]at ha;cases ha;have:=hj.status hK;intro s e;rw[e]at this;split at this
  ·cases this
  ·rcases this with h|h<;>cases h
def Inv.live(hX:rJ X)(hK:1<=K)(Lt:Inv X K j M D B x v gw qs gs w t):∃(i:Nat) (g:au),gs[i]?=Y g/\g.status=.running:=by
 have P6:=Lt.env;obtain⟨a,ha,hj⟩:=Lt.main;cases hb:B 0 with
 |false=>
  rw[hb]at hj;exact⟨0,a,ha,hj.status hX hK⟩
 |true=>
  have hc:M.c=.w3:=by
   rw[hb]at hj;cases hj with
   |iJ f h1 h2 h3 h4 h5 h6=>exact h3
  have EB:=P6.wg.2;rw[hc]at EB;obtain⟨i,hin,me⟩:=fY.live EB (P6.xW hb);have hij:i<j:=by
   rcases zco i j with h|h
   ·exact h
   ·have:lR D j i=.nb:=by simp[lR,Nat.not_lt.2 h]
    rw[this]at me;rcases me with h|h|h|h<;>cases h
  rw[lT hij]at me;have hst:(D i).st≠1:=λe=>by rw[e]at me;rcases me with h|h|h|h<;>cases h
  have runs:∀i,i<j->B (X.off+(i+1))=E->(D i).st≠1->∃(i:Nat) (g:au),gs[i]?=Y g/\g.status=.running:=λi hi hb' hs=>by
   obtain⟨g,hg,hw⟩:=Lt.wk i hi;rw[hb']at hw;refine⟨_,g,hg,?_⟩;have hss:=hw.status hK;cases hw with
   |run f h1 h2 h3 h4=>
    rcases cN.ways h4 (by simp only;omega)with(h|h)|⟨_,_,h,_⟩
    ·obtain⟨_,_,r,hg⟩:=h w (RX.refl _ _);exact av7 (λ_ _ x=>x.1) w (RW.refl w) hg
    ·exact h.1
    ·exact h
   |lib h1 h2 h3 h4 h5 h6=>
    generalize hs':(D i).st=s at h6 hs;generalize (D i).fu=fu at h6;generalize (D i).df=df at h6;cases h6 with
    |r0 h=>exact av7 (λ_ _ x=>x.1) w (RW.refl w) h
    |k1 h=>exact av7 (λ_ _ x=>x.1) w (RW.refl w) h
    |d1 h=>exact av7 (λ_ _ x=>x.1) w (RW.refl w) h
    |d2 h=>exact av7 (λ_ _ x=>x.1) w (RW.refl w) h
    |d3 h=>exact av7 (λ_ _ x=>x.1) w (RW.refl w) h
    |d4 h=>exact av7 (λ_ _ x=>x.1) w (RW.refl w) h
    |quit h=>exact absurd rfl hs
  cases ZH:B (X.off+(i+1))with
  |false=>exact runs i hij ZH hst
  |true=>
   obtain⟨g,hg,hw⟩:=Lt.wk i hij;rw[ZH]at hw;have hT:∃sv ws,(D i).T=.iJ sv ws:=by
    cases hw with
    |iJ f h1 h2 h3 h4 h6=>exact h6
   obtain⟨sv,ws,hT⟩:=hT;obtain⟨hq,_⟩:=P6.st i hij;obtain⟨k,hkn,qM⟩:=kB.live (P6.mu _ hq).2 hin (by rw[Ka hij rfl,hT];simp);have hkj:k<j/\(D k).q=(D i).q:=by
    refine Classical.byContradiction λh=>qM ?_;have:iS D j (D i).q k=.out:=by simp only[iS,h,if_false]
    rw[this];rfl
   have hTk:iS D j (D i).q k=(D k).T:=Ka hkj.1 hkj.2;rw[hTk]at qM;have hbk:B (X.off+(k+1))=E:=by
    refine Classical.byContradiction λh=>?_;have hb':B (X.off+(k+1))=Z6:=by cases hh:B (X.off+(k+1))with|true=>rfl|false=>exact absurd hh h
    have h0:=P6.iJ k hkj.1 hb';obtain⟨g2,_,Tj⟩:=Lt.wk k hkj.1;rw[hb']at Tj;have rE:∃sv ws,(D k).T=.iJ sv ws:=by
     cases Tj with
     |iJ f h1 h2 h3 h4 h6=>exact h6
    obtain⟨sv2,ws2,rE⟩:=rE;rw[rE,<-hkj.2,h0]at qM;exact qM rfl
   refine runs k hkj.1 hbk λe=>?_;obtain⟨g2,_,Tj⟩:=Lt.wk k hkj.1;rw[hbk]at Tj;cases Tj with
   |run f h1=>rw[e]at h1;cases h1
   |lib h1 h2 h3=>rw[h3]at qM;exact qM rfl
end
def OQ(X:Ph)(gs:Array au)(w:af)(t:Trace):Prop:=∃K j M D B x v gw qs a f,Inv X K j M D B x v gw qs gs w t/\gs[0]?=Y a/\X.uY ⟨M.own,.mn M.c,f⟩ a w/\1<=K
def ND{X:Ph}(hX:rJ X)(μ:Nat×Nat):∀(gs:Array au) (w:af) (sl:Option (Nat×Nat)) (t:Trace),Vn X μ gs w t->∃N gs' w' sl' t',runNT X.P N (crowd gs w sl) t=(.next (crowd gs' w' sl'),t')/\OQ X gs' w' t':=by
 induction μ using Zm.induction with
 |_ μ ih=>
  intro gs w sl t hI;obtain⟨K,j,M,D,B,x,v,gw,qs,hK,Lt,rfl⟩:=hI;obtain⟨idx,g,d,sl',hg,hrun,hst⟩:=crowd_pick (P:=X.P) (w:=w) (sl:=sl) (Lt.awake hX hK) (Lt.live hX hK);have I2:=Lt.at d;have adG:(w.at d).at w.drawn=w:=rfl;have next:Nx X (lX X j M D x v,G7 X j M D B qs) gs (w.at d) sl' t idx->∃N gs' w' sl' t',runNT X.P N (crowd gs w sl) t=(.next (crowd gs' w' sl'),t')/\OQ X gs' w' t':=by rintro⟨gs',w',ops,μ',h1,h2,h3⟩;obtain⟨N,gs2,w2,Tf,t2,h4,h5⟩:=ih μ' h2 gs' w' sl' (t++ops) h3;exact⟨N+1,gs2,w2,Tf,t2,by simp only[runNT,hst,h1];exact h4,h5⟩
  rcases I2.who hg with rfl|⟨h1,h2⟩|⟨i,hi,rfl⟩
  ·obtain⟨a,ha,hj⟩:=I2.main;rw[hg]at ha;cases ha;have hb:B 0=E:=by
    cases hb:B 0 with
    |false=>rfl
    |true=>rw[hb]at hj;have:=hj.status hX hK;rw[hrun]at this;cases this
   rw[hb]at hj;cases hj with
   |run f hf hG=>
    rcases Inv.Sq (sl:=sl') hX hK I2 hg hb hf hG with h|h|h
    ·exact⟨0,gs,w,sl,t,rfl,K,j,M,D,B,x,v,gw,qs,g,f,Lt,hg,hX.two _ _ _ _ h (Sl X.L0 ⟨M.own,.mn M.c,f⟩ (w.at d) w.drawn),hK⟩
    ·exact next (Inv.NN hX hK I2 hg hf h)
    ·exact next h
  ·exact next (Inv.NL hX hK I2 h1 h2 hg hrun)
  ·obtain⟨g0,EA,hw⟩:=I2.wk i hi;rw[hg]at EA;cases EA;have hb:B (X.off+(i+1))=E:=by
    cases hb:B (X.off+(i+1))with
    |false=>rfl
    |true=>rw[hb]at hw;have:=hw.status hK;simp only[if_true]at this;rw[hrun]at this;cases this
   rw[hb]at hw;cases hw with
   |run f h1 h2 h3 h4=>
    rcases Inv.Vy (sl:=sl') hX hK I2 hi hg hb h1 h2 h3 h4 with⟨μ',h5,K',j',M',D',B',x',v',kU,Lj,hK',I',e⟩|h
    ·have I'':=I'.at w.drawn;rw[adG]at I'';exact ih μ' h5 gs w sl t ⟨K',j',M',D',B',x',v',kU,Lj,hK',I'',e⟩
    ·exact next h
   |lib h1 h2 h3 h4 h5 h6=>exact next (Inv.Vz hX hK I2 hi hg h3 h4 h5 h6 hrun)
def OQ.facts{X:Ph}(hX:rJ X){gs:Array au}(h:OQ X gs w t):
 ∃a f own q,gs.size=X.off+X.n+1/\gs[0]?=Y a/\X.uY ⟨own,.mn .rt,f⟩ a w/\Leavers X.P t gs q/\uu (λl=>lQ X.S l\/F6 X.S.Wg l) t/\
  (∀p,p<X.S.np->eE (X.S.pt p) ⟨E,E,E,0⟩ 0 w)/\bZ X.S.tw X.S.Wg ⟨0,E,0⟩ w/\(∀r,1<=r->r<=X.n->∀a u,X.Vx r a u->w.cell? a=Y u)/\(∀(i:Nat) (op:MemOp),t[i]?=Y op->op.g<=X.off+X.n)/\Fy X.w0 w/\(∀b,own b->b<w.heap.size/\¬X.L0.Fx b/\¬X.S.is b/\¬X.S.Sb b):=by
 obtain⟨K,j,M,D,B,x,v,gw,qs,a,f,Lt,ha,hs,hK⟩:=h
 have P6:=Lt.env
 have hc:M.c=.rt:=by have:=(hX.stop _ _ _ hs).1;simpa using this
 have EB:=P6.wg.2
 rw[hc]at EB hs
 have hj:j=X.n:=by have h1:=Ar.left EB;rw[Sr]at h1;simp only[Ct.left]at h1;have:=P6.jn;omega
 subst hj
 have hq:∀i,i<X.n->(D i).st<=1:=λi hi=>Sp (by have:=Ll EB hi;rwa [lT hi]at this)
 have Zn:∀i,i<X.n->∃g,gs[X.off+(i+1)]?=Y g/\(D i).T=.out/\(∀a u,(D i).V a u->w.cell? a=Y u)/\QuitsD X.P (D i).fu (D i).df g:=λi hi=>by
  obtain⟨g,hg,hw⟩:=Lt.wk i hi;have h1:=hq i hi;refine⟨g,hg,?_⟩;generalize B (X.off+(i+1))=bb at hw;cases hw with
  |run f h=>omega
  |iJ f h=>omega
  |lib h1' h2 h3 h4 h5 h6=>
   refine⟨h3,h5,?_⟩;have hs1:(D i).st=1:=I
   rw[hs1]at h6;generalize (D i).fu=fu at h6⊢;generalize (D i).df=df at h6⊢;cases h6 with
   |quit h=>exact h
 refine⟨a,f,M.own,λk=>if k<=X.off then qs k else(D (k-X.off-1)).fu,Lt.size,ha,hs,⟨λi g hi hg=>?_,λk hk=>?_⟩,?_,λp hp=>?_,?_,λr h1 h2 a u hu=>?_,λi op h=>P6.tr.gs i op h,P6.kp,λb hb=>⟨P6.nY.xw 0 b (zcl _) hb,P6.nY.of 0 0 b (zcl _) (zcl _) hb,λh=>(P6.nY.sh 0 b (zcl _) (.inl h)).1 hb,λh=>(P6.nY.sh 0 b (zcl _) (.inr h)).1 hb⟩⟩
 ·rcases Lt.who hg with rfl|⟨h1,h2⟩|⟨k,hk,rfl⟩
  ·omega
  ·obtain⟨g',hg',hl⟩:=Lt.sR i h1 h2
   rw[hg]at hg'
   cases hg'
   simp only[h2,if_true]
   exact hl
  ·obtain⟨g',hg',_,_,hl⟩:=Zn k hk
   rw[hg]at hg'
   cases hg'
   have e1:¬(X.off+(k+1)<=X.off):=I
   have e2:X.off+(k+1)-X.off-1=k:=I
   simp only[e1,if_false,e2]
   rw[P6.Vp k hk]
   exact hl
 ·exact P6.Zi k (by rw[Lt.size]at hk;omega)
 ·obtain⟨q,h1,h2,h3,h4⟩:=P6.acq hc
  refine P6.tr.join (q:=q) (λk k1 k2=>?_) P6.NF h1 h2 h3 (by rw[P6.WE,hc];rfl)
  obtain⟨r,hr,hrq⟩:=h4 (k-X.off-1) I
  have e:X.off+(k-X.off-1+1)=k:=I
  rw[e]at hr
  exact⟨r,hr,hrq⟩
 ·obtain⟨h1,h2⟩:=P6.mu p hp
  obtain⟨e1,e2⟩:=h2.fin λi hi=>by
   unfold iS;split
   ·obtain⟨_,_,h,_⟩:=Zn i hi;exact h
   ·rfl
  rw[e1,e2]at h1
  exact h1
 ·have:=Ar.fin EB rfl rfl
  have e:gw=⟨0,E,0⟩:=by obtain⟨a,b,c⟩:=gw;simp only at this;rw[this.1,this.2.1,this.2.2.1]
  rw[<-e]
  exact P6.wg.1
 ·obtain⟨_,_,_,hV,_⟩:=Zn (X.n-r) I
  have e:X.n-(X.n-r)=r:=I
  exact hV a u ((P6.Vo (X.n-r) I).2 a u (by rw[e];exact hu))
end
end Go.Proofs.YteoahlieielcdaaGreat
