import Derived.Test.YteoahlieielcdaaGreatM1
import Derived.Test.YteoahlieielcdaaGreatLocks
set_option linter.all false
set_option maxHeartbeats 1600000
set_option maxRecDepth 100000
namespace Go.Proofs.YteoahlieielcdaaGreat
open Go Go.Conc Go.ConcN
abbrev zca:=@Nat.le_refl
abbrev zcb:=@Nat.lt_of_lt_of_le
abbrev zcc:=@Nat.le_trans
abbrev zcd:=@Array.getElem?_eq_some_iff
abbrev zce:=@Nat.zero_le
abbrev zcf:=@Array.mem_of_getElem?
abbrev zcg:=@Nat.le_of_eq
abbrev zch:=@Nat.lt_or_ge
abbrev zci:=@Option.map_eq_some_iff
variable{b0 i k j A A' B' idx pb f:Nat}{l:Loc}{e:aC}{es:Array aC}{fn:ay}{pos:String}{x:Wd}{O:aI}{g j7:Gw}{w w':af}{a:aA}{t u:Trace}{g':au}{y:Touch}{r:(Lk×Nat)×Wd×Nat}{ws:Nat->Ws}
section
structure T7 where
 np:Nat
 pt:Nat->Nat
 Wg:Nat
 tw:az
 Sb:Nat->Prop
def T7.is(S:T7)(b:Nat):Prop:=(∃q,q<S.np/\b=S.pt q)\/b=S.Wg
structure Pl where
 own:Nat->Prop
 L:dY
structure Geo(S:T7)(n:Nat)(H:Nat->Pl)(w:af):Prop where
 wg:∀i,i<=n->(H i).L.Wg=S.Wg/\(H i).L.tw=S.tw
 top:∀i,i<=n->(H i).L.N<=w.heap.size
 vO:∀i b,i<=n->(H i).own b->b<w.heap.size
 FA:∀i b,i<=n->(H i).L.Fx b->b<w.heap.size
 C6:∀b,S.is b\/S.Sb b->b<w.heap.size
 oo:∀i k b,i<=n->k<=n->(H i).own b->(H k).own b->i=k
 of:∀i k b,i<=n->k<=n->(H i).own b->¬(H k).L.Fx b
 mo:∀i k a,i<=n->k<=n->(H i).L.Mn a->¬(H k).own a.block
 mf:∀i k a,i<=n->k<=n->(H i).L.Mn a->¬(H k).L.Fx a.block/\¬(H k).L.ny a
 mm:∀i k a,i<=n->k<=n->(H i).L.Mn a->(H k).L.Mn a->i=k
 spot:∀i a,i<=n->(H i).L.Mn a\/(H i).L.ny a->a.spot=none
 co:∀i k a,i<=n->k<=n->(H i).L.ny a->¬(H k).own a.block/\¬(H k).L.Fx a.block
 sh:∀i b,i<=n->S.is b\/S.Sb b->¬(H i).own b/\¬(H i).L.Fx b
 Ry:∀i a,i<=n->(H i).L.ny a\/(H i).L.Mn a->a.block≠S.Wg/\¬S.Sb a.block/\∀q,q<S.np->a.block=S.pt q->2<=a.off
 M5:∀i k b,i<=n->k<=n->(H i).L.Sh b->b<w.heap.size/\¬(H k).own b/\¬(H k).L.Fx b
def Array.same{α:Type}{c c':Array α}(h:∀j:Nat,c'[j]?=c[j]?):c'=c:=Array.ext_getElem? h
section
variable {S:T7}{n i k:Nat}{H:Nat->Pl}{w w':af}{O O':aI}{es:Array aC}
def Geo.QK(G:Geo S n H w)(hi:i<=n)(hk:k<=n)(hne:i≠k)(hO:O.own=(H i).own)(uk:O'.own=(H k).own)(d:DX (H i).L O w w' es):RX (H k).L O' w w':=by
 have whole:∀b,b<w.heap.size->¬O.own b->(∀j,¬(H i).L.Mn ⟨b,j,none⟩)->w'.heap[b]?=w.heap[b]? :=by
  intro b hb hno hm;rcases d.blk b hb hno with e|⟨c,c',e,f,h1,h2,h3,h4⟩
  ·exact e
  ·rw[h1,h2,Array.same fun j=>h4 j (hm j)]
 have cell:∀a:aA,a.spot=none->a.block<w.heap.size->¬O.own a.block->¬(H i).L.Mn a->w'.cell? a=w.cell? a/\w'.frozen? a=w.frozen? a:=by
  intro a hs hb hno hm;rcases d.blk a.block hb hno with e|⟨c,c',e,f,h1,h2,h3,h4⟩
  ·simp[World.cell?,World.frozen?,e]
  ·have:c'[a.off]?=c[a.off]? :=h4 a.off (by obtain⟨ab,ao,asx⟩:=a;simp only at hs;subst hs;exact hm)
   simp[World.cell?,World.frozen?,h1,h2,this]
 refine⟨d.le,fun b hb ho=>?_,fun a ha=>?_,fun a ha=>?_,fun b c e f hb hc=>?_,fun hl=>?_⟩
 ·rcases ho with ho|ho
  ·exact whole b hb (fun x=>hne (G.oo i k b hi hk (hO▸x) (uk▸ho))) fun j hm=>G.mo i k _ hi hk hm (uk▸ho)
  ·exact whole b hb (fun x=>G.of i k b hi hk (hO▸x) ho) fun j hm=>(G.mf i k _ hi hk hm).1 ho
 ·exact(cell a (G.spot k a hk (.inr ha)) (zcb ((H k).L.low a ha) (G.top k hk)) (fun x=>(G.co k i a hk hi ha).1 (hO▸x)) (fun x=>(G.mf i k a hi hk x).2 ha)).1
 ·exact cell a (G.spot k a hk (.inl ha)) (zcb ((H k).L.ID a ha) (G.top k hk)) (fun x=>G.mo k i a hk hi ha (hO▸x)) (fun x=>hne (G.mm i k a hi hk x ha))
 ·have hlt:=(zcd.1 hc).1;rcases d.blk b hlt (fun x=>(G.M5 k i b hk hi hb).2.1 (hO▸x))with q|⟨c1,c',e',f',h1,h2,h3,h4⟩
  ·exact⟨c,q.trans hc,rfl⟩
  ·rw[hc]at h1;cases h1;exact⟨c',h2,h3⟩
 ·obtain⟨st,sm,h⟩:=hl;rw[(G.wg k hk).1,(G.wg k hk).2]at h⊢;refine⟨st,sm,?_⟩;rw[whole S.Wg (zcd.1 h).1 (fun x=>(G.sh i S.Wg hi (.inl (.inr rfl))).1 (hO▸x)) fun j hm=>(G.Ry i _ hi (.inr hm)).1 rfl];exact h
def Geo.II(G:Geo S n H w)(hk:k<=n)(uk:O'.own=(H k).own)(hb:S.is b0)(hc:∃c e f,w.heap[b0]?=some (.cells c e f))(hl:b0=S.Wg->Dt S.tw S.Wg w')(d:bu b0 w w'):RX (H k).L O' w w':=by
 obtain⟨c0,e0,f0,h0⟩:=hc;obtain⟨c1,h1,h2,h3⟩:=d.here c0 e0 f0 h0;have cell:∀a:aA,a.spot=none->((H k).L.ny a\/(H k).L.Mn a)->w'.cell? a=w.cell? a/\w'.frozen? a=w.frozen? a:=by
  intro a hs ha;by_cases e:a.block=b0
  ·have q:=G.Ry k a hk ha;have h2':2<=a.off:=by
    rcases hb with⟨q',hq,rfl⟩|rfl
    ·exact q.2.2 q' hq e
    ·exact absurd e q.1
   rw[<-e]at h0 h1;simp[World.cell?,World.frozen?,h0,h1,h3 a.off h2']
  ·simp[World.cell?,World.frozen?,d.other a.block e]
 refine⟨zcg d.size.symm,fun b _ ho=>d.other b fun e=>?_,fun a ha=>(cell a (G.spot k a hk (.inr ha)) (.inl ha)).1,fun a ha=>cell a (G.spot k a hk (.inl ha)) (.inr ha),fun b c e f hb' hc=>?_,fun hl'=>?_⟩
 ·subst e;exact ho.elim (fun x=>(G.sh k b hk (.inl hb)).1 (uk▸x)) (G.sh k b hk (.inl hb)).2
 ·by_cases e':b=b0
  ·subst e';rw[h0]at hc;cases hc;exact⟨c1,h1,h2⟩
  ·exact⟨c,(d.other b e').trans hc,rfl⟩
 ·rw[(G.wg k hk).1,(G.wg k hk).2]at hl'⊢;by_cases e:b0=S.Wg
  ·exact hl e
  ·obtain⟨st,sm,h⟩:=hl';exact⟨st,sm,(d.other S.Wg fun x=>e x.symm).trans h⟩
def Geo.Yi(G:Geo S n H w)[Go.ConcR.Payload](hi:i<=n)(hk:k<=n)(uk:O'.own=(H k).own){bw m:Nat}(hb:(H i).L.Fx bw)(hf:¬(H k).L.Fx bw)(d:AsideCell bw m 0 w w'):RX (H k).L O' w w':=by
 have no:∀a:aA,((H k).L.ny a\/(H k).L.Mn a)->a.block≠bw:=fun a ha e=>ha.elim (fun x=>(G.co k i a hk hi x).2 (e▸hb)) (fun x=>(G.mf k i a hk hi x).1 (e▸hb));have nsh:¬S.is bw:=fun x=>(G.sh i bw hi (.inl x)).2 hb;refine⟨zcg d.size.symm,fun b _ ho=>d.block b fun e=>?_,fun a ha=>?_,fun a ha=>?_,fun b c e f hb' hc=>?_,fun hl=>?_⟩
 ·subst e;exact ho.elim (fun x=>G.of k i b hk hi (uk▸x) hb) hf
 ·simp[World.cell?,d.block a.block (no a (.inl ha))]
 ·simp[World.cell?,World.frozen?,d.block a.block (no a (.inr ha))]
 ·exact⟨c,(d.block b fun e'=>(G.M5 k i b hk hi hb').2.2 (e'▸hb)).trans hc,rfl⟩
 ·rw[(G.wg k hk).1,(G.wg k hk).2]at hl⊢;obtain⟨st,sm,h⟩:=hl;exact⟨st,sm,(d.block S.Wg fun e=>nsh (e▸.inr rfl)).trans h⟩
def Geo.grow(G:Geo S n H w)(hi:i<=n){gy:Nat->Prop}(hle:w.heap.size<=w'.heap.size)(ho:∀b,gy b->(H i).own b\/(w.heap.size<=b/\b<w'.heap.size)):Geo S n (aR H i ⟨gy,(H i).L⟩) w':=by
 have eL:∀k,(aR H i ⟨gy,(H i).L⟩ k).L=(H k).L:=fun k=>by unfold aR;split<;>simp_all
 have eo:∀k b,(aR H i ⟨gy,(H i).L⟩ k).own b->(H k).own b\/(k=i/\w.heap.size<=b/\b<w'.heap.size):=fun k b x=>by
  by_cases e:k=i
  ·subst e;rw[aT]at x;exact(ho b x).imp id fun y=>⟨rfl,y⟩
  ·rw[bC _ _ e]at x;exact .inl x
 refine⟨fun k hk=>by rw[eL];exact G.wg k hk,fun k hk=>by rw[eL];exact zcc (G.top k hk) hle,fun k b hk x=>?_,fun k b hk x=>by rw[eL]at x;exact zcb (G.FA k b hk x) hle,fun b hb=>zcb (G.C6 b hb) hle,
  fun k l b hk hl x y=>?_,fun k l b hk hl x y=>?_,fun k l a hk hl x y=>?_,fun k l a hk hl x=>by rw[eL]at x⊢;exact G.mf k l a hk hl x,fun k l a hk hl x y=>by rw[eL]at x y;exact G.mm k l a hk hl x y,fun k a hk x=>by rw[eL]at x;exact G.spot k a hk x,fun k l a hk hl x=>⟨fun y=>?_,by rw[eL]at x⊢;exact(G.co k l a hk hl x).2⟩,
  fun k b hk hb=>⟨fun y=>?_,by rw[eL];exact(G.sh k b hk hb).2⟩,fun k a hk x=>by rw[eL]at x;exact G.Ry k a hk x,fun k l b hk hl x=>?_⟩
 ·rcases eo k b x with h|⟨_,_,h⟩
  ·exact zcb (G.vO k b hk h) hle
  ·exact h
 ·rcases eo k b x with h|⟨h,h',_⟩ <;>rcases eo l b y with h1|⟨h1,h1',_⟩
  ·exact G.oo k l b hk hl h h1
  ·have:=G.vO k b hk h;omega
  ·have:=G.vO l b hl h1;omega
  ·rw[h,h1]
 ·rw[eL]at y;rcases eo k b x with h|⟨_,h',_⟩
  ·exact G.of k l b hk hl h y
  ·have:=G.FA l b hl y;omega
 ·rw[eL]at x;rcases eo l _ y with h|⟨_,h',_⟩
  ·exact G.mo k l a hk hl x h
  ·have:=(H k).L.ID a x;have:=G.top k hk;omega
 ·rw[eL]at x;rcases eo l _ y with h|⟨_,h',_⟩
  ·exact(G.co k l a hk hl x).1 h
  ·have:=(H k).L.low a x;have:=G.top k hk;omega
 ·rcases eo k b y with h|⟨_,h',_⟩
  ·exact(G.sh k b hk hb).1 h
  ·have:=G.C6 b hb;omega
 ·rw[eL]at x;obtain⟨h1,h2,h3⟩:=G.M5 k l b hk hl x;refine⟨zcb h1 hle,fun y=>?_,by rw[eL];exact h3⟩;rcases eo l b y with h|⟨_,h',_⟩
  ·exact h2 h
  ·omega
def C7{α:Type}(f:Nat->α)(i:Nat):aR f i (f i)=f:=by funext j;unfold aR;split<;>simp_all
def Geo.size(G:Geo S n H w)(hle:w.heap.size<=w'.heap.size):Geo S n H w':=by have:=G.grow (i:=0) (w':=w') (gy:=(H 0).own) (zce _) hle (fun b x=>.inl x);rwa [C7]at this
end
def FB(h:Pl)(l:Loc):Prop:=(∃a,l=.cell a/\(h.own a.block\/h.L.Mn a))\/∃r,l=.obj r/\h.own r
def Yj(h:Pl)(l:Loc):Prop:=(∃a,l=.cell a/\(h.L.Fx a.block\/h.L.ny a))\/∃r,l=.obj r/\h.L.Fx r
def JW(S:T7)(l:Loc):Prop:=∃a,l=.cell a/\((∃q,q<S.np/\a.block=S.pt q/\a.off<2)\/a.block=S.Wg)
def kU(S:T7)(l:Loc):Prop:=∃a,l=.cell a/\S.Sb a.block
def wB(off j:Nat)(H:Nat->Pl)(k:Nat)(l:Loc):Prop:=off<k/\k<=off+j/\FB (H (k-off)) l
def F6(off j:Nat)(H:Nat->Pl)(k:Nat)(l:Loc):Prop:=off<k/\k<=off+j/\Yj (H (k-off)) l
section
variable {S:T7}{n:Nat}{H:Nat->Pl}{w w':af}{O:aI}{off:Nat}
def Geo.ownRd(G:Geo S n H w)(hi:i<=n)(hk:k<=n)(h:FB (H i) l):¬Yj (H k) l:=by
 rintro(⟨a,rfl,ha⟩|⟨r,rfl,hr⟩)
 ·rcases h with⟨a',e,h⟩|⟨r,e,_⟩
  ·cases e;rcases h with h|h<;>rcases ha with ha|ha
   ·exact G.of i k _ hi hk h ha
   ·exact(G.co k i a hk hi ha).1 h
   ·exact(G.mf i k a hi hk h).1 ha
   ·exact(G.mf i k a hi hk h).2 ha
  ·cases e
 ·rcases h with⟨a',e,h⟩|⟨r',e,h⟩
  ·cases e
  ·cases e;exact G.of i k _ hi hk h hr
def Geo.QL(G:Geo S n H w)(hi:i<=n)(hk:k<=n)(h:FB (H i) l)(h':FB (H k) l):i=k:=by
 rcases h with⟨a,rfl,h⟩|⟨r,rfl,h⟩
 ·rcases h' with⟨a',e,h'⟩|⟨r,e,_⟩
  ·cases e;rcases h with h|h<;>rcases h' with h'|h'
   ·exact G.oo i k _ hi hk h h'
   ·exact absurd h (G.mo k i a hk hi h')
   ·exact absurd h' (G.mo i k a hi hk h)
   ·exact G.mm i k a hi hk h h'
  ·cases e
 ·rcases h' with⟨a',e,h'⟩|⟨r',e,h'⟩
  ·cases e
  ·cases e;exact G.oo i k _ hi hk h h'
def Geo.T8(G:Geo S n H w)(hi:i<=n)(h:FB (H i) l\/Yj (H i) l):¬JW S l/\¬kU S l:=by
 have key:∀a,l=.cell a->(((H i).own a.block\/(H i).L.Fx a.block)\/((H i).L.ny a\/(H i).L.Mn a)):=by
  rintro a rfl;rcases h with(⟨a',e,h⟩|⟨r,e,_⟩)|(⟨a',e,h⟩|⟨r,e,_⟩) <;>cases e
  ·exact h.elim (fun x=>.inl (.inl x)) (fun x=>.inr (.inr x))
  ·exact h.elim (fun x=>.inl (.inr x)) (fun x=>.inr (.inl x))
 constructor
 ·rintro⟨a,e,ha⟩;rcases key a e with h|h
  ·have hs:S.is a.block:=ha.imp (fun⟨q,h1,h2,_⟩=>⟨q,h1,h2⟩) id;exact h.elim (G.sh i _ hi (.inl hs)).1 (G.sh i _ hi (.inl hs)).2
  ·have q:=G.Ry i a hi h;rcases ha with⟨q',h1,h2,h3⟩|h1
   ·have:=q.2.2 q' h1 h2;omega
   ·exact q.1 h1
 ·rintro⟨a,e,ha⟩;rcases key a e with h|h
  ·exact h.elim (G.sh i _ hi (.inr ha)).1 (G.sh i _ hi (.inr ha)).2
  ·exact(G.Ry i a hi h).2.1 ha
def Geo.apart(G:Geo S n H w):CI (JW S) (wB off n H) (F6 off n H):=
 ⟨fun k k' l h h'=>by have:=G.QL (i:=k-off) (k:=k'-off) (by have:=h.2.1;omega) (by have:=h'.2.1;omega) h.2.2 h'.2.2;have:=h.1;have:=h'.1;omega,
  fun k k' l h h'=>G.ownRd (i:=k-off) (k:=k'-off) (by have:=h.2.1;omega) (by have:=h'.2.1;omega) h.2.2 h'.2.2,
  fun k l h=>(G.T8 (i:=k-off) (by have:=h.2.1;omega) (.inl h.2.2)).1,fun k l h=>(G.T8 (i:=k-off) (by have:=h.2.1;omega) (.inr h.2.2)).1⟩
def va{h:Pl}(hO:O.own=h.own)(x:Dv h.L O e):(MemAct.ofEvent e).touch?=some ⟨e.loc,e.write,.plain⟩/\(FB h e.loc\/(Yj h e.loc/\e.write=false)):=by
 obtain⟨hs,h1⟩:=x;obtain⟨loc,wr,sy⟩:=e;simp only at hs;subst hs;rcases h1 with⟨a,rfl,h1⟩|⟨r,rfl,h1⟩
 ·refine⟨rfl,?_⟩;rcases h1 with h1|h1|⟨h1,h2⟩
  ·exact .inl (.inl ⟨a,rfl,.inl (hO▸h1)⟩)
  ·exact .inl (.inl ⟨a,rfl,.inr h1⟩)
  ·exact .inr ⟨.inl ⟨a,rfl,h1⟩,h2⟩
 ·refine⟨by cases wr<;>rfl,?_⟩;rcases h1 with h1|⟨h1,h2⟩
  ·exact .inl (.inr ⟨r,rfl,hO▸h1⟩)
  ·exact .inr ⟨.inr ⟨r,rfl,h1⟩,h2⟩
def qd{L:dY}(x:Dv L O e):(∀m,e.loc≠.mark m):=by rintro m h;rcases x.2 with⟨a,e1,_⟩|⟨r,e1,_⟩ <;>rw[h]at e1<;>cases e1
def Geo.low(G:Geo S n H w){i:Nat}(hi:i<=n)(hO:O.own=(H i).own){e:aC}(x:Dv (H i).L O e):(MemAct.ofEvent e).low w.heap.size:=by
 obtain⟨hs,h1⟩:=x;obtain⟨loc,wr,sy⟩:=e;simp only at hs;subst hs;rcases h1 with⟨a,rfl,h1⟩|⟨r,rfl,h1⟩
 ·show a.block<_;rcases h1 with h1|h1|⟨h1|h1,_⟩
  ·exact G.vO i _ hi (hO▸h1)
  ·exact zcb ((H i).L.ID a h1) (G.top i hi)
  ·exact G.FA i _ hi h1
  ·exact zcb ((H i).L.low a h1) (G.top i hi)
 ·have e0:MemAct.low w.heap.size (MemAct.ofEvent ⟨.obj r,wr,false⟩)=(r<w.heap.size):=by cases wr<;>rfl
  rw[e0];rcases h1 with h1|⟨h1,_⟩
  ·exact G.vO i _ hi (hO▸h1)
  ·exact G.FA i _ hi h1
def Geo.okW(G:Geo S n H w)(hi:i<n)(hO:O.own=(H (i+1)).own)(x:∀e∈es,Dv (H (i+1)).L O e):∀op∈MemOp.ofEvents (off+(i+1)) fn pos es,LM (JW S) (kU S) (wB off n H) (F6 off n H) (off+(i+1)) op:=by
 intro op hop;obtain⟨e,he,rfl⟩:=Go.Conc.mem_ofEvents hop;refine⟨rfl,fun y hy=>?_⟩;obtain⟨h1,h2⟩:=va hO (x e he);rw[h1]at hy;cases hy;have e0:off+(i+1)-off=i+1:=by omega
 refine⟨(G.T8 (show i+1<=n by omega) (h2.imp id (·.1))).2,.inr ?_⟩;rcases h2 with h2|⟨h2,h3⟩
 ·exact .inl ⟨by omega,by omega,by rw[e0];exact h2⟩
 ·exact .inr ⟨⟨by omega,by omega,by rw[e0];exact h2⟩,h3⟩
def Geo.ok0(G:Geo S n H w)(hO:O.own=(H 0).own)(x:∀e∈es,Dv (H 0).L O e):∀op∈MemOp.ofEvents 0 fn pos es,TK (JW S) (kU S) (wB off n H) (F6 off n H) off n op:=by
 intro op hop;obtain⟨e,he,rfl⟩:=Go.Conc.mem_ofEvents hop;refine⟨rfl,fun y hy=>?_⟩;obtain⟨h1,h2⟩:=va hO (x e he);rw[h1]at hy;cases hy;have q:=G.T8 (zce n) (h2.imp id (·.1));refine⟨q.2,.inr ⟨q.1,fun k k1 k2 h=>?_,fun hw k k1 k2 h=>?_⟩⟩
 ·have hk:k-off<=n:=by omega
  rcases h2 with h2|⟨h2,_⟩
  ·have:=G.QL hk (zce n) h.2.2 h2;omega
  ·exact G.ownRd hk (zce n) h.2.2 h2
 ·rcases h2 with h2|⟨_,h3⟩
  ·exact G.ownRd (zce n) (show k-off<=n by omega) h2 h.2.2
  ·simp only at hw;rw[h3]at hw;cases hw
def QM(hsb:∀q,q<S.np->¬S.Sb (S.pt q)){q:Nat}(hq:q<S.np)(h:Bk2 (S.pt q) e){x:Touch}(hx:(MemAct.ofEvent e).touch?=some x):¬kU S x.loc/\JW S x.loc/\x.kind≠.plain/\x.kind≠.said:=by
 have mk:∀m,e.loc=.mark m->(MemAct.ofEvent e)=.mark m:=by intro m hm;obtain⟨l,a,b⟩:=e;simp only at hm;subst hm;rfl
 rcases h with h|h|⟨a,h,_⟩|⟨a,wr,rfl,h1,h2,h3⟩
 ·rw[mk _ h]at hx;cases hx
 ·rw[mk _ h]at hx;cases hx
 ·rcases h with h|h<;>(rw[mk _ h]at hx;cases hx)
 ·have e1:MemAct.ofEvent ⟨.cell a,wr,true⟩=.access ⟨.cell a,wr,true⟩:=rfl;rw[e1]at hx;simp only[MemAct.touch?,Option.some.injEq]at hx;subst hx;exact⟨fun⟨a',e',hs⟩=>by cases e';exact hsb q hq (h1▸hs),⟨a,rfl,.inl ⟨q,hq,h1,h2⟩⟩,by simp,by simp⟩
def T9(hsb:∀q,q<S.np->¬S.Sb (S.pt q)){Own Rd:Nat->Loc->Prop}{q:Nat}(hq:q<S.np)(h:∀e∈es,Bk2 (S.pt q) e):∀op∈MemOp.ofEvents k fn pos es,LM (JW S) (kU S) Own Rd k op:=by intro op hop;obtain⟨e,he,rfl⟩:=Go.Conc.mem_ofEvents hop;exact⟨rfl,fun x hx=>by have:=QM hsb hq (h e he) hx;exact⟨this.1,.inl this.2⟩⟩
def QN(Mh:¬S.Sb S.Wg)(h:KH S.Wg e){x:Touch}(hx:(MemAct.ofEvent e).touch?=some x):¬kU S x.loc/\JW S x.loc/\x.kind≠.plain:=by
 have mk:∀m,e.loc=.mark m->(MemAct.ofEvent e)=.mark m:=by intro m hm;obtain⟨l,a,b⟩:=e;simp only at hm;subst hm;rfl
 have fin:∀(a:aA),a.block=S.Wg->¬kU S (.cell a)/\JW S (.cell a):=fun a ha=>⟨fun⟨a',e',hs⟩=>by cases e';exact Mh (ha▸hs),a,rfl,.inr ha⟩
 rcases h with h|h|h|h|h|⟨a,wr,rfl,h1⟩
 ·rw[mk _ h]at hx;cases hx
 ·rw[mk _ h]at hx;cases hx
 ·rw[mk _ h]at hx;cases hx
 ·rw[mk _ h]at hx;cases hx;exact⟨(fin _ rfl).1,(fin _ rfl).2,by simp⟩
 ·rw[mk _ h]at hx;cases hx;exact⟨(fin _ rfl).1,(fin _ rfl).2,by simp⟩
 ·have e1:MemAct.ofEvent ⟨.cell a,wr,true⟩=.access ⟨.cell a,wr,true⟩:=rfl;rw[e1]at hx;simp only[MemAct.touch?,Option.some.injEq]at hx;subst hx;exact⟨(fin a h1).1,(fin a h1).2,by simp⟩
def Ua(Mh:¬S.Sb S.Wg){Own Rd:Nat->Loc->Prop}(h:∀e∈es,KH S.Wg e):∀op∈MemOp.ofEvents 0 fn pos es,TK (JW S) (kU S) Own Rd off j op:=by intro op hop;obtain⟨e,he,rfl⟩:=Go.Conc.mem_ofEvents hop;exact⟨rfl,fun x hx=>by have:=QN Mh (h e he) hx;exact⟨this.1,.inl this.2⟩⟩
end
end
section
open Go.ConcR (KK wgBlock WgAt stA smA rd wr mk Payload Aside2 DC0)
structure Wk where
 L:dY
 q:Nat
 bw:Nat
 V:aA->aj->Prop
 own:Nat->Prop
 T:Lk
 m:Nat
 st:Nat
 fu:Nat
 df:Nat
structure Md where
 own:Nat->Prop
 c:Ct
 fu:Nat
structure Ph where
 P:aB
 S:T7
 n:Nat
 off:Nat
 N0:Nat
 v0:aj
 L0:dY
 IX:Nat->aA->Prop
 Vx:Nat->aA->aj->Prop
 w0:af
 tY:xC
def Hd(X:Ph)(M:Md)(D:Nat->Wk):Nat->Pl
 | 0=>⟨M.own,X.L0⟩
 |i+1=>⟨(D i).own,(D i).L⟩
def iw(D:Nat->Wk)(j q i:Nat):Lk:=if i<j/\(D i).q=q then(D i).T else .out
def IJ(st:Nat):Ws:=if 5<=st then .wk else if st=4 then .d2 else if st=3 then .d3 else if st=2 then .d4 else .qt
def kX(D:Nat->Wk)(j i:Nat):Ws:=if i<j then IJ (D i).st else .nb
def EC(w w':af):Prop:=w'.tape=w.tape/\w'.output=w.output/\Go.ConcM.OsLater w.os w'.os
def EC.refl(w:af):EC w w:=⟨rfl,rfl,.refl _⟩
def EC.trans{a b c:af}(h:EC a b)(k:EC b c):EC a c:=⟨k.1.trans h.1,k.2.1.trans h.2.1,h.2.2.trans k.2.2⟩
def lx(b A B:Nat):Nat:=A*(b+1)+B
def rV{b B:Nat}(h:A'<A)(hb:B'<=b):lx b A' B'<lx b A B:=by unfold lx;have:=Nat.mul_le_mul_right (b+1) (show A'+1<=A from h);rw[Nat.add_mul]at this;omega
def Mk{b B:Nat}(h:A'=A)(hb:B'<B):lx b A' B'<lx b A B:=by subst h;unfold lx;omega
def mA(X:Ph)(j:Nat)(M:Md)(D:Nat->Wk)(v:Nat->Nat):Nat:=10*M4 X.n (kX D j) M.c+sm (fun q=>msA X.n (iw D j q) (v q)) X.S.np
def mB(X:Ph)(j:Nat)(D:Nat->Wk)(x:Nat->Wd):Nat:=sm (fun q=>Pd X.n (iw D j q) (x q)) X.S.np
def mM(j:Nat)(D:Nat->Wk):Nat:=sm (fun i=>(D i).st+(D i).m) j
def lg(X:Ph)(j:Nat)(M:Md)(D:Nat->Wk)(x:Nat->Wd)(v:Nat->Nat):Nat:=lx (13*X.n) (lx (160*X.n*X.S.np) (mA X j M D v) (mB X j D x)) (mM j D)
def Ym(x:Wd)(T:Lk):DC x T<=160:=by cases T<;>simp only[DC]<;>(try split) <;>omega
def JY(X:Ph)(j:Nat)(D:Nat->Wk)(x:Nat->Wd):mB X j D x<=160*X.n*X.S.np:=AW (fun q=>AW (fun _=>Ym (x q) _) _) _
def JZ{n:Nat}{D:Nat->Wk}(hj:j<=n)(h:∀i,i<j->(D i).st<=8/\(D i).m<=5):mM j D<=13*n:=by
 have key:∀k,k<=j->sm (fun i=>(D i).st+(D i).m) k<=13*k:=by
  intro k;induction k with
  |zero=>intro _;simp[sm]
  |succ k ih=>intro hk;have:=ih (by omega);have:=h k (by omega);simp only[sm];omega
 have:=key j (zca _);unfold mM;omega
def cD.rx{P:aB}{main:Bool}{J:Jm}{L:dY}{Stop:xC}{n:Nat}{g:au}(h:cD P main J (RX L) (DX L) Stop n O g w)(hr:RX L O w w'):cD P main J (RX L) (DX L) Stop n O g w':=cD.rely (aF L) h hr
def jo(P:aB)(g g':au):Bool:=mayWake P g && g'.status != .blocked && g'.status != .waiting
def FC(P:aB)(g g':au)(w':af)(o:au):woken P g g' w' o=if jo P g g' then o.again w' else o:=rfl
variable [Payload]
abbrev M7:Nat->Loc->Prop:=fun _ _=>False
def StW(X:Ph)(bw:Nat)(V:aA->aj->Prop)(O:aI)(g:au)(w:af):Prop:=
 O.pos=.lk .out 0/\(∀a u,V a u->w.cell? a=some u)/\∃r,Goes X.P false (RW X.S.tw X.S.Wg bw 1 0 0) (DWs X.S.Wg M7 M7 bw 1 1) (AtR0 X.P X.S.tw X.S.Wg bw 1 0 1 X.v0) r g w
abbrev GoW(X:Ph)(d:Wk)(fu f:Nat)(g:Goroutine)(w:World):Prop:=
 cD X.P false (iR X.P false (X.S.pt d.q)) (RX d.L) (DX d.L) (StW X d.bw d.V) fu ⟨d.own,.lk d.T d.m,f⟩ g w
inductive WJ(X:Ph)(K:Nat)(d:Wk):Bool->au->af->Prop
 |run {g:au} {w:af} (f:Nat):d.st=8->d.df=wK d.T d.m->K<=f->GoW X d d.fu f g w->WJ X K d false g w
 |gV {g0:au} {w:af} (f:Nat):d.st=8->d.df=wK d.T d.m->K<=f->d.fu=0->(∃sv ws,d.T=.gV sv ws)->g0.status=.running->g0.offers=none->GoW X d 0 f g0 w->WJ X K d true {g0 with status:=.blocked} w
 |lib {g:au} {w:af}:1<=d.st->d.st<=7->d.T=.out->d.m=0->(∀a u,d.V a u->w.cell? a=some u)->WSit X.P X.S.tw X.S.Wg d.bw 1 M7 M7 0 1 X.v0 d.st d.fu d.df g w->WJ X K d false g w
structure acM(X:Ph)(r:Nat)(d:Wk)(w:af)(own gy:Nat->Prop):Prop where
 less:∀b,gy b->own b
 d0:d.T=.uy/\d.m=1/\d.st=8/\d.df=0/\∀b,¬d.own b
 q:d.q<X.S.np
 wg:d.L.Wg=X.S.Wg/\d.L.tw=X.S.tw
 top:d.L.N<=w.heap.size
 fx:∀b,d.L.Fx b->X.L0.Fx b\/(own b/\¬gy b)
 fc:∀a,d.L.ny a->X.L0.ny a
 mn:∀a,d.L.Mn a->X.IX r a
 sh:∀b,d.L.Sh b->X.L0.Sh b
 bw:d.L.Fx d.bw/\own d.bw/\¬gy d.bw
 v:∀a u,d.V a u->d.L.Mn a
 vx:∀a u,X.Vx r a u->d.V a u
def Ph.bO(X:Ph)(r:Nat)(child:au)(w:af)(own gy:Nat->Prop):Prop:=
 ∃d:Wk,child.status=.running/\acM X r d w own gy/\∀f,GoW X d d.fu f child w
abbrev GoM(X:Ph)(M:Md)(fu f:Nat)(g:Goroutine)(w:World):Prop:=
 cD X.P true (iG X.P X.S.tw X.S.Wg X.bO) (RX X.L0) (DX X.L0) X.tY fu ⟨M.own,.mn M.c,f⟩ g w
inductive MJ(X:Ph)(K:Nat)(M:Md):Bool->au->af->Prop
 |run {g:au} {w:af} (f:Nat):K<=f->GoM X M M.fu f g w->MJ X K M false g w
 |gV {g0:au} {w:af} (f:Nat):K<=f->M.fu=0->M.c=.w3->g0.status=.running->g0.offers=none->GoM X M 0 f g0 w->MJ X K M true {g0 with status:=.blocked} w
abbrev TrX(X:Ph)(j:Nat)(M:Md)(D:Nat->Wk)(t:Trace):Prop:=z8 (JW X.S) (kU X.S) (wB X.off j (Hd X M D)) (F6 X.off j (Hd X M D)) X.off X.N0 t j
structure oz(X:Ph)(K j:Nat)(M:Md)(D:Nat->Wk)(B:Nat->Bool)(x:Nat->Wd)(v:Nat->Nat)(gw:Gw)(w:af)(t:Trace):Prop where
 jn:j<=X.n
 st:∀i,i<j->(D i).q<X.S.np/\(D i).L.Fx (D i).bw/\(∀a u,(D i).V a u->(D i).L.Mn a)/\(D i).st<=8/\(D i).m<=5
 Yn:∀i k,i<j->k<=j->k≠i+1->¬(Hd X M D k).L.Fx (D i).bw
 Vu:∀i a,i<j->(D i).L.ny a->X.L0.ny a
 Ud:∀i,i<j->(∀a,(D i).L.Mn a->X.IX (X.n-i) a)/\∀a u,X.Vx (X.n-i) a u->(D i).V a u
 m7:Geo X.S j (Hd X M D) w
 mu:∀q,q<X.S.np->dU (X.S.pt q) (x q) (v q) w/\jR X.n (iw D j q) (x q) (v q)
 wg:bU X.S.tw X.S.Wg gw w/\fM X.n (kX D j) M.c gw
 gV:∀i,i<j->B (X.off+(i+1))=true->v (D i).q=0
 wD:B 0=true->gw.sm=0
 tr:TrX X j M D t
 Vv:Deaf t 0=KG M.c
 Ue:∀i,i<j->Deaf t (X.off+(i+1))=(D i).df
 Yo:∀k,X.off+j<k->Deaf t k=0
 low:∀i a,X.N0<=i->touchAt t i=some a->a.loc.low w.heap.size
 Ml:∀k,X.N0<=k->t.act? k≠some (.mark (.release (stA X.S.Wg)))
 rel:∀i,i<j->(D i).st<=6->∃r,ji (stA X.S.Wg) X.S.Wg t (X.off+(i+1)) r/\X.N0<=r
 acq:M.c=.rt->∃q,t.act? q=some (.mark (.acquire (stA X.S.Wg)))/\t.g? q=some 0/\t.heard q/\∀i,i<j->∃r,(ji (stA X.S.Wg) X.S.Wg t (X.off+(i+1)) r/\X.N0<=r)/\r<q
 Mm:lg X j M D x v<K
 kp:EC X.w0 w
structure Inv(X:Ph)(K j:Nat)(M:Md)(D:Nat->Wk)(B:Nat->Bool)(x:Nat->Wd)(v:Nat->Nat)(gw:Gw)(qs:Nat->Nat)(gs:Array au)(w:af)(t:Trace):Prop where
 size:gs.size=X.off+j+1
 main:∃a,gs[0]?=some a/\MJ X K M (B 0) a w
 rG:∀i,1<=i->i<=X.off->∃g,gs[i]?=some g/\QuitsD X.P (qs i) (Deaf t i) g
 wk:∀i,i<j->∃g,gs[X.off+(i+1)]?=some g/\WJ X K (D i) (B (X.off+(i+1))) g w
 env:oz X K j M D B x v gw w t
structure qy(X:Ph):Prop where
 inj:∀q q',q<X.S.np->q'<X.S.np->X.S.pt q=X.S.pt q'->q=q'
 Vt:∀q,q<X.S.np->X.S.pt q≠X.S.Wg
 psb:∀q,q<X.S.np->¬X.S.Sb (X.S.pt q)
 Zd:¬X.S.Sb X.S.Wg
 ix:∀r a,X.IX r a->a.spot=none/\X.L0.Sh a.block/\¬X.L0.Mn a/\¬X.L0.ny a/\a.block≠X.S.Wg/\¬X.S.Sb a.block/\∀q,q<X.S.np->a.block≠X.S.pt q
 ixd:∀r r' a,X.IX r a->X.IX r' a->r=r'
 big:X.n<=900
 stop:∀O g w,X.tY O g w->O.pos=.mn .rt/\g.status=.running
 two:∀O g w w',X.tY O g w->RX X.L0 O w w'->X.tY O g w'
section
variable {X:Ph}{K K':Nat}{d:Wk}{M:Md}{b:Bool}{g:au}{w w':af}
def QS{L:dY}{bw Wg:Nat}{tw:az}(hx:RX L O w w')(hf:L.Fx bw)(hlt:bw<w.heap.size)(h1:L.Wg=Wg)(h2:L.tw=tw):RW tw Wg bw 1 0 0 w w':=by subst h1 h2;have e:=hx.blk bw hlt (.inr hf);exact⟨fun b hb=>absurd hb (Nat.not_lt_zero _),fun h=>hx.live h,fun⟨cs,hc,hn⟩=>⟨cs,e.trans hc,hn⟩,cell_of_block e 0⟩
def WJ.rely(h:WJ X K d b g w)(hr:∀O:aI,O.own=d.own->RX d.L O w w')(hb:d.L.Fx d.bw)(hlt:d.bw<w.heap.size)(hw:d.L.Wg=X.S.Wg/\d.L.tw=X.S.tw)(hV:∀a u,d.V a u->d.L.Mn a):WJ X K d b g w':=by
 cases h with
 |run f h1 h2 h3 h4=>exact .run f h1 h2 h3 (h4.rx (hr _ rfl))
 |gV f h1 h2 h3 h4 h6 h7 h8 h9=>exact .gV f h1 h2 h3 h4 h6 h7 h8 (h9.rx (hr _ rfl))
 |lib h1 h2 h3 h4 h5 h6=>
  have r:=hr ⟨d.own,.lk .out 0,0⟩ rfl;exact .lib h1 h2 h3 h4 (fun a u hu=>(r.mn a (hV a u hu)).1.trans (h5 a u hu)) (h6.rely (QS r hb hlt hw.1 hw.2))
def WJ.le(h:WJ X K d b g w)(hK:K'<=K):WJ X K' d b g w:=by
 cases h with
 |run f h1 h2 h3 h4=>exact .run f h1 h2 (zcc hK h3) h4
 |gV f h1 h2 h3 h4 h6 h7 h8 h9=>exact .gV f h1 h2 (zcc hK h3) h4 h6 h7 h8 h9
 |lib h1 h2 h3 h4 h5 h6=>exact .lib h1 h2 h3 h4 h5 h6
def MJ.rely(h:MJ X K M b g w)(hr:∀O:aI,O.own=M.own->RX X.L0 O w w'):MJ X K M b g w':=by
 cases h with
 |run f h1 h2=>exact .run f h1 (h2.rx (hr _ rfl))
 |gV f h1 h2 h3 h4 h5 h6=>exact .gV f h1 h2 h3 h4 h5 (h6.rx (hr _ rfl))
def MJ.le(h:MJ X K M b g w)(hK:K'<=K):MJ X K' M b g w:=by
 cases h with
 |run f h1 h2=>exact .run f (zcc hK h1) h2
 |gV f h1 h2 h3 h4 h5 h6=>exact .gV f (zcc hK h1) h2 h3 h4 h5 h6
def WJ.status(h:WJ X K d b g w)(hK:1<=K):if b then g.status=.blocked else(g.status=.running\/g.status=.finished):=by
 cases h with
 |run f h1 h2 h3 h4=>
  rcases cD.ways h4 (by simp only;omega)with(h|h)|⟨_,_,h,_⟩
  ·obtain⟨_,_,r,hg⟩:=h w (RX.refl _ _);exact .inl (Goes.running (fun _ _ x=>x.1) w (RW.refl w) hg)
  ·exact .inl h.1
  ·exact .inl h
 |gV=>rfl
 |lib _ _ _ _ _ h=>exact h.status
def MJ.status(hX:qy X)(h:MJ X K M b g w)(hK:1<=K):g.status=if b then .blocked else .running:=by
 cases h with
 |run f h1 h2=>
  rcases cD.ways h2 (by simp only;omega)with(h|h)|⟨_,_,h,_⟩
  ·exact(hX.stop _ _ _ (h w (RX.refl _ _))).2
  ·exact h.1
  ·exact h
 |gV=>rfl
def WJ.woken(h:WJ X K d b g w)(hK:1<=K)(a a':au)(wa:af):WJ X K d (b && !jo X.P a a') (woken X.P a a' wa g) w:=by
 rw[FC];have hs:=h.status hK;cases h with
 |run f h1 h2 h3 h4=>rw[again_running _ hs,ite_self];exact .run f h1 h2 h3 h4
 |gV f h1 h2 h3 h4 h6 h7 h8 h9=>
  cases jo X.P a a' with
  |false=>exact .gV f h1 h2 h3 h4 h6 h7 h8 h9
  |true=>
   simp only[if_true];rw[Go.ConcR.again_blocked h7 h8];exact .run f h1 h2 h3 (h4▸h9)
 |lib h1 h2 h3 h4 h5 h6=>rw[again_running _ hs,ite_self];exact .lib h1 h2 h3 h4 h5 h6
def MJ.woken(hX:qy X)(h:MJ X K M b g w)(hK:1<=K)(a a':au)(wa:af):MJ X K M (b && !jo X.P a a') (woken X.P a a' wa g) w:=by
 rw[FC];have hs:=h.status hX hK;cases h with
 |run f h1 h2=>rw[again_running _ (.inl hs),ite_self];exact .run f h1 h2
 |gV f h1 h2 h3 h4 h5 h6=>
  cases jo X.P a a' with
  |false=>exact .gV f h1 h2 h3 h4 h5 h6
  |true=>
   simp only[if_true];rw[Go.ConcR.again_blocked h4 h5];exact .run f h1 (h2▸h6)
end
end
section
open Go.ConcR (KK wgBlock WgAt stA smA rd wr mk Payload Aside2 DC0)
def lU{N0:Nat}(h:∀k,N0<=k->t.act? k≠some (.mark (.release a))){g:Nat}(hes:∀e∈es,e.loc≠.mark (.release a)):∀k,N0<=k->(t++MemOp.ofEvents g fn pos es).act? k≠some (.mark (.release a)):=by
 intro k Zy hk;obtain⟨op,ho,hx⟩:=zci.1 hk;rcases getElem?_append_cases ho with⟨hlt,h1⟩|⟨_,h1⟩
 ·exact h k Zy (by simp[Trace.act?,h1,hx])
 ·obtain⟨e,he,rfl⟩:=Go.Conc.mem_ofEvents h1;exact hes e he (Go.ConcR.loc_of_ofEvent hx)
def jV{g:Nat}:∀op∈MemOp.ofEvents g fn pos es,op.g=g:=fun op hop=>by obtain⟨e,_,rfl⟩:=Go.Conc.mem_ofEvents hop;rfl
def wW{B N0:Nat}(h:∀i a,N0<=i->touchAt t i=some a->a.loc.low B)(hB:B<=B'){g:Nat}(hes:∀e∈es,∀y,(MemAct.ofEvent e).touch?=some y->y.loc.low B):∀i a,N0<=i->touchAt (t++MemOp.ofEvents g fn pos es) i=some a->a.loc.low B':=by
 intro i a hi0 ha;obtain⟨op,ho,hx⟩:=touch_of ha;rcases getElem?_append_cases ho with⟨_,h1⟩|⟨_,h1⟩
 ·exact Go.Loc.low_mono hB (h i a hi0 (by rw[touchAt_of h1];exact hx))
 ·obtain⟨e,he,rfl⟩:=Go.Conc.mem_ofEvents h1;exact Go.Loc.low_mono hB (hes e he a hx)
def C8{Wg off N0:Nat}
 (h:∃q,t.act? q=some (.mark (.acquire (stA Wg)))/\t.g? q=some 0/\t.heard q/\∀i,i<j->∃r,(ji (stA Wg) Wg t (off+(i+1)) r/\N0<=r)/\r<q)
 (hu:∀i r,i<j->ji (stA Wg) Wg t (off+(i+1)) r->ji (stA Wg) Wg (t++u) (off+(i+1)) r):
 ∃q,(t++u).act? q=some (.mark (.acquire (stA Wg)))/\(t++u).g? q=some 0/\(t++u).heard q/\∀i,i<j->∃r,(ji (stA Wg) Wg (t++u) (off+(i+1)) r/\N0<=r)/\r<q:=by obtain⟨q,h1,h2,h3,h4⟩:=h;have hq:=lt_of_act? h1;exact⟨q,by rw[act?_old hq];exact h1,by rw[g?_old hq];exact h2,(heard_old hq).2 h3,fun i hi=>let ⟨r,hr,hrq⟩:=h4 i hi;⟨r,⟨hu i r hi hr.1,hr.2⟩,hrq⟩⟩
def qz(P:aB)(B:Nat->Bool)(idx:Nat)(b:Bool)(g g':au):Nat->Bool:=fun k=>if k=idx then b else(B k && !jo P g g')
section
variable {X:Ph}{M M':Md}{D:Nat->Wk}{i:Nat}{d':Wk}
structure jq(d d':Wk):Prop where
 L:d'.L=d.L
 q:d'.q=d.q
 bw:d'.bw=d.bw
 V:d'.V=d.V
def jq.C9(h:jq (D i) d')(k:Nat):(aR D i d' k).L=(D k).L:=by unfold aR;split<;>simp_all [h.L]
def jq.Uf(h:jq (D i) d')(k:Nat):(aR D i d' k).q=(D k).q:=by unfold aR;split<;>simp_all [h.q]
def jq.J0(h:jq (D i) d')(k:Nat):(aR D i d' k).bw=(D k).bw:=by unfold aR;split<;>simp_all [h.bw]
def jq.Ug(h:jq (D i) d')(k:Nat):(aR D i d' k).V=(D k).V:=by unfold aR;split<;>simp_all [h.V]
def jq.lM(h:jq (D i) d')(k:Nat):(Hd X M (aR D i d') k).L=(Hd X M D k).L:=by
 cases k with
 |zero=>rfl
 |succ k=>exact h.C9 k
def jq.hd(h:jq (D i) d'):Hd X M (aR D i d')=aR (Hd X M D) (i+1) ⟨d'.own,(Hd X M D (i+1)).L⟩:=by
 funext k;cases k with
 |zero=>rw[bC _ _ (by omega)];rfl
 |succ k=>
  by_cases e:k=i
  ·subst e;rw[aT];simp only[Hd,aT,h.L]
  ·rw[bC _ _ (by omega)];simp only[Hd,bC _ _ e]
def Uh:Hd X M' D=aR (Hd X M D) 0 ⟨M'.own,(Hd X M D 0).L⟩:=by
 funext k;cases k with
 |zero=>rw[aT];rfl
 |succ k=>rw[bC _ _ (by omega)];rfl
def QT{off:Nat}{H H':Nat->Pl}(h:∀k,(H' k).L=(H k).L):F6 off j H'=F6 off j H:=by funext k l;unfold F6 Yj;rw[h]
def Mo{off:Nat}:wB off j (Hd X M' D)=wB off j (Hd X M D):=by
 funext k l;unfold wB;apply propext;constructor
 ·rintro⟨h1,h2,h3⟩;refine⟨h1,h2,?_⟩;obtain⟨m,hm⟩:∃m,k-off=m+1:=⟨k-off-1,by omega⟩
  rw[hm]at h3⊢;exact h3
 ·rintro⟨h1,h2,h3⟩;refine⟨h1,h2,?_⟩;obtain⟨m,hm⟩:∃m,k-off=m+1:=⟨k-off-1,by omega⟩
  rw[hm]at h3⊢;exact h3
def QU{off:Nat}:F6 off j (Hd X M' D)=F6 off j (Hd X M D):=QT fun k=>by cases k<;>rfl
end
section
variable {X:Ph}{K K' j:Nat}{M M':Md}{D D':Nat->Wk}{B B':Nat->Bool}{x x':Nat->Wd}{v v':Nat->Nat}{gw j7:Gw}{qs J1:Nat->Nat}{gs:Array au}{w w':af}{t:Trace}{sl:Option (Nat×Nat)}
def QV(L:dY)(O:aI)(w:af)(d:Nat):RX L O w (w.at d):=⟨zca _,fun _ _ _=>rfl,fun _ _=>rfl,fun _ _=>⟨rfl,rfl⟩,fun _ c _ _ _ h=>⟨c,h,rfl⟩,id⟩
def oz.stepW(E:oz X K j M D B x v gw w t)(hi:i<j){d':Wk}(hs:jq (D i) d')(hst:d'.st<=8/\d'.m<=5)
 (hle:w.heap.size<=w'.heap.size) (hown:∀b,d'.own b↔((D i).own b\/(w.heap.size<=b/\b<w'.heap.size)))
 (Yl:∀q,q<X.S.np->dU (X.S.pt q) (x' q) (v' q) w'/\jR X.n (iw (aR D i d') j q) (x' q) (v' q)) (hwg:bU X.S.tw X.S.Wg j7 w'/\fM X.n (kX (aR D i d') j) M.c j7)
 (hB:∀k,k<j->B' (X.off+(k+1))=true->v' (D k).q=0) (sK:B' 0=true->j7.sm=0)
 (hok:∀op∈MemOp.ofEvents (X.off+(i+1)) fn pos es,LM (JW X.S) (kU X.S) (wB X.off j (Hd X M D)) (F6 X.off j (Hd X M D)) (X.off+(i+1)) op)
 (hdf:deafBehind (D i).df es=d'.df) (BO:∀e∈es,∀y,(MemAct.ofEvent e).touch?=some y->y.loc.low w.heap.size) (hnr:∀e∈es,e.loc≠.mark (.release (stA X.S.Wg)))
 (hrel:d'.st<=6->∃r,ji (stA X.S.Wg) X.S.Wg (t++MemOp.ofEvents (X.off+(i+1)) fn pos es) (X.off+(i+1)) r/\X.N0<=r)
 (zk:M.c=.rt->∀op∈MemOp.ofEvents (X.off+(i+1)) fn pos es,op.act.touch?=none) (Yp:lg X j M (aR D i d') x' v'<K') (hkp:EC w w'):
 oz X K' j M (aR D i d') B' x' v' j7 w' (t++MemOp.ofEvents (X.off+(i+1)) fn pos es):=by
 have hne:∀k,k≠i->X.off+(i+1)≠X.off+(k+1):=fun k h e=>h (by omega);have Mp:Geo X.S j (Hd X M (aR D i d')) w':=by rw[hs.hd];exact E.m7.grow (i:=i+1) (by omega) hle fun b hb=>(hown b).1 hb
 refine⟨E.jn,fun k hk=>?_,fun a k ha hk hka=>?_,fun k a hk=>by rw[hs.C9];exact E.Vu k a hk,fun k hk=>by rw[hs.C9,hs.Ug];exact E.Ud k hk,Mp,Yl,hwg,fun k hk hb=>by rw[hs.Uf];exact hB k hk hb,sK,?_,?_,fun k hk=>?_,fun k hk=>?_,wW E.low hle BO,lU E.Ml hnr,fun k hk h6=>?_,fun hc=>?_,Yp,E.kp.trans hkp⟩
 ·obtain⟨q1,q2,q3,q4⟩:=E.st k hk;refine⟨by rw[hs.Uf];exact q1,by rw[hs.C9,hs.J0];exact q2,by rw[hs.C9,hs.Ug];exact q3,?_⟩;by_cases e:k=i
  ·subst e;rw[aT];exact hst
  ·rw[bC _ _ e];exact q4
 ·rw[hs.lM,hs.J0];exact E.Yn a k ha hk hka
 ·have h1:=E.tr.appW (E.m7.apart (off:=X.off)) (k:=X.off+(i+1)) (by omega) (by omega) hok;have eR:F6 X.off j (Hd X M (aR D i d'))=F6 X.off j (Hd X M D):=QT fun k=>hs.lM k;unfold TrX;rw[eR];refine h1.grow (fun k l h=>?_) (fun k l h=>?_)
  ·refine⟨h.1,h.2.1,?_⟩;have h3:=h.2.2;rw[hs.hd];by_cases e:k-X.off=i+1
   ·rw[e]at h3⊢;rw[aT];exact h3.imp (fun⟨a,e1,e2⟩=>⟨a,e1,e2.imp (fun y=>(hown _).2 (.inl y)) id⟩) (fun⟨r,e1,e2⟩=>⟨r,e1,(hown _).2 (.inl e2)⟩)
   ·rw[bC _ _ e];exact h3
  ·have h3:=h.2.2;rw[hs.hd]at h3;by_cases e:k-X.off=i+1
   ·rw[e,aT]at h3;have hl0:=wW (B':=w.heap.size) (g:=X.off+(i+1)) (fn:=fn) (pos:=pos) E.low (zca _) BO;rcases h3 with⟨a,rfl,h3|h3⟩|⟨r,rfl,h3⟩
    ·rcases(hown _).1 h3 with h4|h4
     ·exact .inl ⟨h.1,h.2.1,by rw[e];exact .inl ⟨a,rfl,.inl h4⟩⟩
     ·refine .inr fun m y hm0 hy ey=>?_;have:=hl0 m y hm0 hy;rw[ey]at this;have:a.block<w.heap.size:=this;omega
    ·exact .inl ⟨h.1,h.2.1,by rw[e];exact .inl ⟨a,rfl,.inr h3⟩⟩
    ·rcases(hown _).1 h3 with h4|h4
     ·exact .inl ⟨h.1,h.2.1,by rw[e];exact .inr ⟨r,rfl,h4⟩⟩
     ·refine .inr fun m y hm0 hy ey=>?_;have:=hl0 m y hm0 hy;rw[ey]at this;have:r<w.heap.size:=this;omega
   ·rw[bC _ _ e]at h3;exact .inl ⟨h.1,h.2.1,h3⟩
 ·rw[Deaf_other t (by omega) _ jV];exact E.Vv
 ·by_cases e:k=i
  ·subst e;rw[Deaf_own,aT,E.Ue k hk];exact hdf
  ·rw[Deaf_other t (hne k e) _ jV,bC _ _ e];exact E.Ue k hk
 ·rw[Deaf_other t (by omega) _ jV];exact E.Yo k hk
 ·by_cases e:k=i
  ·subst e;rw[aT]at h6;exact hrel h6
  ·rw[bC _ _ e]at h6;obtain⟨r,hr⟩:=E.rel k hk h6;exact⟨r,hr.1.appOther jV (hne k e),hr.2⟩
 ·exact C8 (E.acq hc) fun k r _ hr=>hr.appMute (zk hc)
def oz.step0(E:oz X K j M D B x v gw w t)
 (hle:w.heap.size<=w'.heap.size) (hown:∀b,M'.own b->M.own b\/(w.heap.size<=b/\b<w'.heap.size))
 (Yl:∀q,q<X.S.np->dU (X.S.pt q) (x q) (v q) w') (hwg:bU X.S.tw X.S.Wg j7 w'/\fM X.n (kX D j) M'.c j7)
 (hB:∀k,k<j->B' (X.off+(k+1))=true->v (D k).q=0) (sK:B' 0=true->j7.sm=0)
 (hok:∀op∈MemOp.ofEvents 0 fn pos es,TK (JW X.S) (kU X.S) (wB X.off j (Hd X M D)) (F6 X.off j (Hd X M D)) X.off j op)
 (hdf:deafBehind (KG M.c) es=KG M'.c) (BO:∀e∈es,∀y,(MemAct.ofEvent e).touch?=some y->y.loc.low w.heap.size) (hnr:∀e∈es,e.loc≠.mark (.release (stA X.S.Wg)))
 (hacq:M'.c=.rt->(M.c=.rt\/(∀i,i<j->(D i).st<=6)/\es=#[Go.ConcR.mk (.acquire (stA X.S.Wg))]/\KG M.c=0)) (Yp:lg X j M' D x v<K') (hkp:EC w w'):
 oz X K' j M' D B' x v j7 w' (t++MemOp.ofEvents 0 fn pos es):=by
 have Mp:Geo X.S j (Hd X M' D) w':=by rw[Uh (M:=M)];exact E.m7.grow (i:=0) (zce _) hle fun b hb=>hown b hb
 have hrel:∀k r,ji (stA X.S.Wg) X.S.Wg t (X.off+(k+1)) r->ji (stA X.S.Wg) X.S.Wg (t++MemOp.ofEvents 0 fn pos es) (X.off+(k+1)) r:=fun k r hr=>hr.appOther jV (by omega);refine⟨E.jn,E.st,fun a k ha hk hka=>?_,E.Vu,E.Ud,Mp,fun q hq=>⟨Yl q hq,(E.mu q hq).2⟩,hwg,hB,sK,?_,?_,fun k hk=>?_,fun k hk=>?_,wW E.low hle BO,lU E.Ml hnr,fun k hk h6=>?_,fun hc=>?_,Yp,E.kp.trans hkp⟩
 ·have:=E.Yn a k ha hk hka;cases k<;>exact this
 ·unfold TrX;rw[Mo (M:=M),QU (M:=M)];exact E.tr.app0 (E.m7.apart (off:=X.off)) hok
 ·rw[Deaf_own,E.Vv];exact hdf
 ·rw[Deaf_other t (by omega) _ jV];exact E.Ue k hk
 ·rw[Deaf_other t (by omega) _ jV];exact E.Yo k hk
 ·obtain⟨r,hr⟩:=E.rel k hk h6;exact⟨r,hrel k r hr.1,hr.2⟩
 ·rcases hacq hc with h1|⟨h1,rfl,h0⟩
  ·exact C8 (E.acq h1) fun k r _ hr=>hrel k r hr
  ·have e1:MemOp.ofEvents 0 fn pos #[Go.ConcR.mk (.acquire (stA X.S.Wg))]=#[{g:=0,fn,pos,act:=.mark (.acquire (stA X.S.Wg))}]:=by rw[ofEvents_eq];simp[Go.ConcR.mk,MemAct.ofEvent]
   have hy:(t++#[({g:=0,fn,pos,act:=.mark (.acquire (stA X.S.Wg))}:MemOp)])[t.size]?=some {g:=0,fn,pos,act:=.mark (.acquire (stA X.S.Wg))}:=by simp
   refine⟨t.size,by rw[e1,act?_of hy],by rw[e1];simp[Trace.g?],⟨0,by rw[e1];simp[Trace.g?],by rw[deaf_old (zca _)];exact E.Vv.trans h0⟩,fun k hk=>?_⟩;obtain⟨r,hr⟩:=E.rel k hk (h1 k hk);exact⟨r,⟨hrel k r hr.1,hr.2⟩,lt_of_act? hr.1.act⟩
def oz.Pk(E:oz X K j M D B x v gw w t)(h1:1<=idx)(h2:idx<=X.off)(hm:∀e∈es,e.mute=true)
 (hB:∀k,B' k=true->B k=true):oz X K j M D B' x v gw w (t++MemOp.ofEvents idx fn pos es):=by
 have hn:∀op∈MemOp.ofEvents idx fn pos es,op.act.touch?=none:=fun op hop=>by obtain⟨e,he,rfl⟩:=Go.Conc.mem_ofEvents hop;exact touch_mute (hm e he)
 refine⟨E.jn,E.st,E.Yn,E.Vu,E.Ud,E.m7,E.mu,E.wg,fun k hk h=>E.gV k hk (hB _ h),fun h=>E.wD (hB _ h),E.tr.appMute (by omega) jV hn,?_,fun k hk=>?_,fun k hk=>?_,wW E.low (zca _) (fun e he y hy=>by rw[touch_mute (hm e he)]at hy;cases hy),lU E.Ml fun e he h=>?_,fun k hk h6=>?_,fun hc=>C8 (E.acq hc) fun k r _ hr=>hr.appMute hn,E.Mm,E.kp⟩
 ·rw[Deaf_other t (by omega) _ jV];exact E.Vv
 ·rw[Deaf_other t (by omega) _ jV];exact E.Ue k hk
 ·rw[Deaf_other t (by omega) _ jV];exact E.Yo k hk
 ·have:=hm e he;obtain⟨l,a,b⟩:=e;simp only at h;subst h;simp[Event.mute]at this
 ·obtain⟨r,hr⟩:=E.rel k hk h6;exact⟨r,hr.1.appMute hn,hr.2⟩
end
variable [Payload]
section
variable {X:Ph}{K K' j:Nat}{M M':Md}{D D':Nat->Wk}{B B':Nat->Bool}{x x':Nat->Wd}{v v':Nat->Nat}{gw j7:Gw}{qs J1:Nat->Nat}{gs:Array au}{w w':af}{t:Trace}{sl:Option (Nat×Nat)}
def Inv.step(hX:qy X)(I:Inv X K j M D B x v gw qs gs w t)(hK':1<=K')(hKK:K'<=K){g:au}(hg:gs[idx]?=some g)(hgo:stepG X.P (idx == 0) g w=.go g' w' es){b:Bool}
 (hM:idx≠0->M'=M) (hD:∀i,i<j->idx≠X.off+(i+1)->D' i=D i) (hq:∀i,i≠idx->J1 i=qs i)
 (ahC:idx≠0->∀O:aI,O.own=M.own->RX X.L0 O w w') (OM:∀i,i<j->idx≠X.off+(i+1)->∀O:aI,O.own=(D i).own->RX (D i).L O w w')
 (j0:idx=0->MJ X K' M' b g' w') (jw:∀i,i<j->idx=X.off+(i+1)->WJ X K' (D' i) b g' w') (jl:1<=idx->idx<=X.off->QuitsD X.P (J1 idx) (deafBehind (Deaf t idx) es) g')
 (hE:oz X K' j M' D' (qz X.P B idx b g g') x' v' j7 w' (t++MemOp.ofEvents idx g.frame.fn g.frame.place es)):
 runT X.P (crowd gs w sl) idx=(.next (crowd ((gs.map (woken X.P g g' w')).setIfInBounds idx g') w' sl),MemOp.ofEvents idx g.frame.fn g.frame.place es)/\
  Inv X K' j M' D' (qz X.P B idx b g g') x' v' j7 J1 ((gs.map (woken X.P g g' w')).setIfInBounds idx g') w' (t++MemOp.ofEvents idx g.frame.fn g.frame.place es):=by
 have hlt:idx<gs.size:=(zcd.1 hg).1
 refine⟨runT_crowd_go hg hgo,by simp[I.size],?_,fun i h1 h2=>?_,fun i hi=>?_,hE⟩
 ·by_cases e:idx=0
  ·refine⟨g',by rw[<-e];exact get_map_set_same _ _ _ hlt,?_⟩
   have:qz X.P B idx b g g' 0=b:=by simp[qz,e]
   rw[this]
   exact j0 e
  ·obtain⟨a,ha,hj⟩:=I.main
   refine⟨woken X.P g g' w' a,by rw[get_map_set _ _ _ _ e,ha];rfl,?_⟩
   have:qz X.P B idx b g g' 0=(B 0 && !jo X.P g g'):=by simp[qz,Ne.symm e]
   rw[this,hM e]
   exact((hj.rely (ahC e)).le hKK).woken hX hK' g g' w'
 ·by_cases e:idx=i
  ·subst e
   exact⟨g',get_map_set_same _ _ _ hlt,by rw[Deaf_own];exact jl h1 h2⟩
  ·obtain⟨a,ha,hj⟩:=I.rG i h1 h2
   refine⟨woken X.P g g' w' a,by rw[get_map_set _ _ _ _ e,ha];rfl,?_⟩
   rw[woken_quitsD hj,Deaf_other t e _ jV,hq i (Ne.symm e)]
   exact hj
 ·by_cases e:idx=X.off+(i+1)
  ·refine⟨g',by rw[<-e];exact get_map_set_same _ _ _ hlt,?_⟩
   have:qz X.P B idx b g g' (X.off+(i+1))=b:=by simp[qz,e]
   rw[this]
   exact jw i hi e
  ·obtain⟨a,ha,hj⟩:=I.wk i hi
   refine⟨woken X.P g g' w' a,by rw[get_map_set _ _ _ _ e,ha];rfl,?_⟩
   have:qz X.P B idx b g g' (X.off+(i+1))=(B (X.off+(i+1))&& !jo X.P g g'):=by simp[qz,Ne.symm e]
   rw[this,hD i hi e]
   obtain⟨q1,q2,q3,_⟩:=I.env.st i hi
   exact((hj.rely (OM i hi e) q2 (I.env.m7.FA (i+1) _ (by omega) q2) (I.env.m7.wg (i+1) (by omega)) q3).le hKK).woken hK' g g' w'
def Inv.at(I:Inv X K j M D B x v gw qs gs w t)(d:Nat):Inv X K j M D B x v gw qs gs (w.at d) t:=by
 refine⟨I.size,?_,I.rG,fun i hi=>?_,?_⟩
 ·obtain⟨a,ha,hj⟩:=I.main;exact⟨a,ha,hj.rely fun O _=>QV _ O w d⟩
 ·obtain⟨a,ha,hj⟩:=I.wk i hi;obtain⟨q1,q2,q3,_⟩:=I.env.st i hi;exact⟨a,ha,hj.rely (fun O _=>QV _ O w d) q2 (I.env.m7.FA (i+1) _ (by omega) q2) (I.env.m7.wg (i+1) (by omega)) q3⟩
 ·obtain⟨h1,h2,h3,h4,h5,h6,h7,h8,h9,Jr,Wx,h12,h13,WX,Z9,h16,h17,h18,h19,UM⟩:=I.env;exact⟨h1,h2,h3,h4,h5,h6.size (zca _),fun q hq=>⟨⟨(h7 q hq).1.word,(h7 q hq).1.sema,(h7 q hq).1.thaw⟩,(h7 q hq).2⟩,h8,h9,Jr,Wx,h12,h13,WX,Z9,h16,h17,h18,h19,UM⟩
end
end
section
open Go.ConcR (KK wgBlock WgAt stA smA rd wr mk Payload Aside2 DC0)
def By{f g:Nat->Nat}{q:Nat}:∀{n:Nat},q<n->(∀k,k<n->k≠q->f k=g k)->sm f n+g q=sm g n+f q
 |n+1,h,he=>by
  rcases zch q n with hlt|hge
  ·have:=By hlt fun k hk hne=>he k (by omega) hne;have:=he n (by omega) (by omega);simp only[sm];omega
  ·obtain rfl:q=n:=by omega
   simp only[sm];rw[xZ (f:=f) (g:=g) fun k hk=>he k (by omega) (by omega)];omega
section
variable {S:T7}{n i q:Nat}{H:Nat->Pl}{w w':af}{O:aI}{es:Array aC}
def dU.zl{v:Nat}(h:dU pb x v w)(e:w'.heap[pb]?=w.heap[pb]?):dU pb x v w':=
 ⟨by rw[<-h.word];simp[World.cell?,e],by rw[<-h.sema];simp[World.cell?,e],fun o=>by rw[<-h.thaw o];simp[World.frozen?,e]⟩
def Geo.Vw(G:Geo S n H w)(hi:i<=n)(hO:O.own=(H i).own)(hq:q<S.np)(d:DX (H i).L O w w' es){v:Nat}(h:dU (S.pt q) x v w):dU (S.pt q) x v w':=by
 have hlt:=G.C6 (S.pt q) (.inl (.inl ⟨q,hq,rfl⟩));rcases d.blk (S.pt q) hlt (fun y=>(G.sh i _ hi (.inl (.inl ⟨q,hq,rfl⟩))).1 (hO▸y))with e|⟨c,c',e,f,h1,h2,h3,h4⟩
 ·exact h.zl e
 ·have k:∀o,o<2->c'[o]?=c[o]? :=fun o ho=>h4 o fun hm=>by have:=(G.Ry i _ hi (.inr hm)).2.2 q hq rfl;simp only at this;omega
  have a1:=h.word;have a2:=h.sema;have a3:=h.thaw;simp only[World.cell?,World.frozen?,h1]at a1 a2 a3;exact⟨by simp only[World.cell?,h2];rw[k 0 (by omega)];exact a1,by simp only[World.cell?,h2];rw[k 1 (by omega)];exact a2,fun o=>by simp only[World.frozen?,h2];exact a3 o⟩
def Geo.Vy(G:Geo S n H w)(hi:i<=n)(hO:O.own=(H i).own)(d:DX (H i).L O w w' es):w'.heap[S.Wg]?=w.heap[S.Wg]? :=by
 have hlt:=G.C6 S.Wg (.inl (.inr rfl));rcases d.blk S.Wg hlt (fun y=>(G.sh i _ hi (.inl (.inr rfl))).1 (hO▸y))with e|⟨c,c',e,f,h1,h2,h3,h4⟩
 ·exact e
 ·rw[h1,h2,Array.same fun j=>h4 j fun hm=>(G.Ry i _ hi (.inr hm)).1 rfl]
def Bz(h:∀e∈es,Dv (H i).L O e)(d:Nat):deafBehind d es=d:=Go.ConcN.deafBehind_idle (fun e he=>⟨qd (h e he) _,qd (h e he) _⟩) d
def Geo.acO(G:Geo S n H w)(hi:i<=n)(hO:O.own=(H i).own)(h:Dv (H i).L O e)(hy:(MemAct.ofEvent e).touch?=some y):y.loc.low w.heap.size:=by
 have h1:=G.low hi hO h;obtain⟨h2,_⟩:=va hO h;rw[h2]at hy;cases hy;obtain⟨hs,h3⟩:=h;obtain⟨loc,wr,sy⟩:=e;simp only at hs;subst hs;rcases h3 with⟨a,rfl,_⟩|⟨r,rfl,_⟩
 ·exact h1
 ·cases wr<;>exact h1
end
def Wk.fuel(d:Wk)(fu:Nat):Wk:=⟨d.L,d.q,d.bw,d.V,d.own,d.T,d.m,d.st,fu,d.df⟩
def Wk.stage(d:Wk)(st fu df:Nat):Wk:=⟨d.L,d.q,d.bw,d.V,d.own,d.T,d.m,st,fu,df⟩
def Wk.place(d:Wk)(T:Lk)(m fu:Nat):Wk:=⟨d.L,d.q,d.bw,d.V,d.own,T,m,d.st,fu,wK T m⟩
def Wk.grown(d:Wk)(w w':af)(fu:Nat):Wk:=⟨d.L,d.q,d.bw,d.V,fun b=>d.own b\/(w.heap.size<=b/\b<w'.heap.size),d.T,d.m,d.st,fu,d.df⟩
section
variable {D:Nat->Wk}{i j q:Nat}{d':Wk}
def kY(h1:d'.T=(D i).T)(h2:d'.q=(D i).q):iw (aR D i d') j q=iw D j q:=by
 funext k;unfold iw aR;by_cases e:k=i
 ·subst e;simp[h1,h2]
 ·simp[e]
def Ui(hi:i<j)(h2:d'.q=(D i).q)(hq:(D i).q=q):iw (aR D i d') j q=aR (iw D j q) i d'.T:=by
 funext k;unfold iw aR;by_cases e:k=i
 ·subst e;simp[h2,hq,hi]
 ·simp[e]
def Mq(h2:d'.q=(D i).q)(hq:(D i).q≠q):iw (aR D i d') j q=iw D j q:=by
 funext k;unfold iw aR;by_cases e:k=i
 ·subst e;simp[h2,hq]
 ·simp[e]
def IK(hi:i<j)(hq:(D i).q=q):iw D j q i=(D i).T:=by simp[iw,hi,hq]
def gT(h:IJ d'.st=IJ (D i).st):kX (aR D i d') j=kX D j:=by
 funext k;unfold kX aR;by_cases e:k=i
 ·subst e;simp[h]
 ·simp[e]
def Uj(hi:i<j):kX (aR D i d') j=aR (kX D j) i (IJ d'.st):=by
 funext k;unfold kX aR;by_cases e:k=i
 ·subst e;simp[hi]
 ·simp[e]
def kZ(hi:i<j):kX D j i=IJ (D i).st:=by simp[kX,hi]
def IL(hi:i<j):mM j (aR D i d')+((D i).st+(D i).m)=mM j D+(d'.st+d'.m):=lP (fun d:Wk=>d.st+d.m) D d' hi
def IM(hi:i<j):sm (fun k=>(aR D i d' k).fu) j+(D i).fu=sm (fun k=>(D k).fu) j+d'.fu:=lP (fun d:Wk=>d.fu) D d' hi
end
def BA{T:Lk}{m:Nat}{v:Nat}(h:r∈gf T m x v):(r.1.1=T/\r.1.2<m/\r.2=(x,v))\/(r.1.2=gD r.1.1/\(r.1.1,r.2)∈gH T x v):=by
 unfold gf at h;split at h
 ·rename_i h1;simp only[List.mem_singleton]at h;subst h;exact .inl ⟨h1.1.symm,by simp only;omega,rfl⟩
 ·split at h
  ·rename_i h1;simp only[List.mem_singleton]at h;subst h;exact .inl ⟨h1.1.symm,by simp only;omega,rfl⟩
  ·split at h
   ·rename_i h1;simp only[List.mem_singleton]at h;subst h;exact .inl ⟨h1.1.symm,by simp only;omega,rfl⟩
   ·obtain⟨a,ha,rfl⟩:=List.mem_map.1 h;exact .inr ⟨rfl,ha⟩
def Yq(T:Lk):gD T<=5:=by cases T<;>simp[gD]
def acP{T:Lk}{v:Nat}{r:Lk×Wd×Nat}(h:r∈gH T x v):r.2.2=v\/(T=.tok\/T=.hand)\/v≠0:=by
 cases T with
 |tok=>exact .inr (.inl (.inl rfl))
 |hand=>exact .inr (.inl (.inr rfl))
 |gV sv ws=>
  simp only[gH]at h;split at h
  ·cases h
  ·rename_i hv;exact .inr (.inr hv)
 |_=>refine .inl ?_;simp only[gH]at h;(repeat' split at h) <;>(simp at h;try(first|(rcases h with rfl|rfl<;>rfl)|(subst h;rfl)))
def acQ{T:Lk}{m:Nat}{v:Nat}(h:r∈gf T m x v):r.2.2=v\/(T=.tok\/T=.hand)\/v≠0:=by
 rcases BA h with⟨_,_,e⟩|⟨_,h1⟩
 ·exact .inl (by rw[e])
 ·exact acP h1
def Uk{sv ws:Bool}{m:Nat}{v:Nat}(h:gf (.gV sv ws) m x v= []):v=0:=by simp[gf,gH]at h;exact h
def jR.vbd{n:Nat}{th:Nat->Lk}{v:Nat}(h:jR n th x v):v<=1:=by
 have hb:∀b,b1 b<=1:=by intro b;cases b<;>simp[b1]
 cases hs:x.s with
 |false=>have:=h.norm hs;have:=hb x.w;omega
 |true=>have:=h.AX hs;omega
def J2{n:Nat}(h:fM n ws .rt g)(hi:i<n):ws i=.qt:=by
 have h1:=zf.fin h rfl rfl;have h2:=zf.left h;have l1:=dV (f:=fun j=>kN (ws j)) hi;have l2:=dV (f:=fun j=>kW (ws j)) hi;have l3:=dV (f:=fun j=>kD (ws j)) hi;simp only[Ct.left]at h2;have key:∀T:Ws,kN T=0->kW T=0->kD T=0->T=.qt:=by intro T;cases T<;>simp[kN,kW,kD]
 exact key _ (by omega) (by omega) (by omega)
def QW(X:Ph)(j:Nat)(M:Md)(D:Nat->Wk)(qs:Nat->Nat):Nat:=M.fu+sm (fun i=>(D i).fu) j+sm qs (X.off+1)
def Ul(X:Ph)(j:Nat)(B:Nat->Bool):Nat:=sm (fun k=>b1 (!B k)) (X.off+j+1)
def F7(X:Ph)(j:Nat)(M:Md)(D:Nat->Wk)(B:Nat->Bool)(qs:Nat->Nat):Nat:=lx (X.off+X.n+1) (QW X j M D qs) (Ul X j B)
def Vz(b:Bool):b1 b<=1:=by cases b<;>simp[b1]
def ve{X:Ph}(hj:j<=X.n)(B:Nat->Bool):Ul X j B<=X.off+X.n+1:=by have:=AW (f:=fun k=>b1 (!B k)) (c:=1) (fun k=>Vz _) (X.off+j+1);unfold Ul;omega
abbrev Lt2:Nat×Nat->Nat×Nat->Prop:=Prod.Lex (· < ·) (· < ·)
section
variable {X:Ph}{j:Nat}{M:Md}{D:Nat->Wk}{x:Nat->Wd}{v:Nat->Nat}{i:Nat}
def jW{P:aB}{B:Nat->Bool}{g:au}(h:qz P B idx false g g' k=true):B k=true/\jo P g g'=false/\k≠idx:=by
 unfold qz at h;split at h
 ·cases h
 ·rename_i e;simp at h;exact⟨h.1,h.2,e⟩
def mW{d':Wk}(h1:d'.T=(D i).T)(h2:d'.q=(D i).q)(h3:d'.st=(D i).st)(h4:d'.m=(D i).m):lg X j M (aR D i d') x v=lg X j M D x v:=by
 have e1:∀q,iw (aR D i d') j q=iw D j q:=fun q=>kY h1 h2;have e2:kX (aR D i d') j=kX D j:=gT (by rw[h3]);have e3:mM j (aR D i d')=mM j D:=by
  unfold mM;congr 1;funext k;unfold aR;split
  ·rename_i e;subst e;rw[h3,h4]
  ·rfl
 unfold lg mA mB;simp only[e1,e2,e3]
end
variable [Payload]
def Uc(X:Ph)(μ:Nat×Nat)(gs:Array au)(w:af)(t:Trace):Prop:=
 ∃K j M D B x v gw qs,1<=K/\Inv X K j M D B x v gw qs gs w t/\μ=(lg X j M D x v,F7 X j M D B qs)
def Nx(X:Ph)(μ:Nat×Nat)(gs:Array au)(w:af)(sl:Option (Nat×Nat))(t:Trace)(idx:Nat):Prop:=
 ∃gs' w' ops μ',runT X.P (crowd gs w sl) idx=(.next (crowd gs' w' sl),ops)/\Lt2 μ' μ/\Uc X μ' gs' w' (t++ops)
section
variable {X:Ph}{K j:Nat}{M:Md}{D:Nat->Wk}{B:Nat->Bool}{x:Nat->Wd}{v:Nat->Nat}{gw:Gw}{qs:Nat->Nat}{gs:Array au}{w:af}{t:Trace}{sl:Option (Nat×Nat)}{i:Nat}{g:au}
def Inv.Um(hX:qy X)(hK:1<=K)(I:Inv X K j M D B x v gw qs gs w t)(hi:i<j)(hg:gs[X.off+(i+1)]?=some g)(hb:B (X.off+(i+1))=false)(hst:(D i).st=8)(hdf:(D i).df=wK (D i).T (D i).m)(hf:K<=f)(hj:GoW X (D i) (D i).fu f g w):
 (∃μ',Lt2 μ' (lg X j M D x v,F7 X j M D B qs)/\Uc X μ' gs w t)\/Nx X (lg X j M D x v,F7 X j M D B qs) gs w sl t (X.off+(i+1)):=by
 have E:=I.env;have hin:i<X.n:=zcb hi E.jn;obtain⟨hq,Rs,hVm,_,hm5⟩:=E.st i hi;have lf:kX D j i=.wk:=by rw[kZ hi,hst];rfl
 have hnr:M.c≠.rt:=fun e=>by have:=E.wg.2;rw[e]at this;have:=J2 this hin;rw[lf]at this;cases this
 have hidx:(X.off+(i+1)== 0)=false:=by simp
 have M8:((⟨(D i).own,.lk (D i).T (D i).m,f⟩:aI)).own=(Hd X M D (i+1)).own:=rfl;rcases cD.ways hj (by simp only;omega)with(hstop|⟨hrun,FD⟩)|⟨m,hm,hrun,hstep⟩
 ·left;obtain⟨hpos,hV,r,hgo⟩:=hstop w (RX.refl _ _);simp only[Tp.lk.injEq]at hpos;have hs:jq (D i) ((D i).stage 7 r 0):=⟨rfl,rfl,rfl,rfl⟩
  have e1:∀q,iw (aR D i ((D i).stage 7 r 0)) j q=iw D j q:=fun q=>kY rfl rfl;have e2:kX (aR D i ((D i).stage 7 r 0)) j=kX D j:=gT (by rw[hst];rfl);have e3:=IL (D:=D) (d':=((D i).stage 7 r 0)) hi;have hlt:lg X j M (aR D i ((D i).stage 7 r 0)) x v<lg X j M D x v:=by unfold lg;refine Mk (by unfold mA mB;simp only[e1,e2]) ?_;simp only[Wk.stage,hst]at e3⊢;omega
  refine⟨(lg X j M (aR D i ((D i).stage 7 r 0)) x v,F7 X j M (aR D i ((D i).stage 7 r 0)) B qs),Prod.Lex.left _ _ hlt,K,j,M,_,B,x,v,gw,qs,hK,⟨I.size,I.main,I.rG,fun k hk=>?_,?_⟩,rfl⟩
  ·by_cases e:k=i
   ·subst e;rw[aT,hb];exact⟨g,hg,.lib (by simp[Wk.stage]) (by simp[Wk.stage]) hpos.1 hpos.2 hV (.r0 hgo)⟩
   ·rw[bC _ _ e];exact I.wk k hk
  ·have hHd:Hd X M (aR D i ((D i).stage 7 r 0))=Hd X M D:=by rw[hs.hd];exact C7 (Hd X M D) (i+1)
   refine⟨E.jn,fun k hk=>?_,fun a k ha hk hka=>by rw[hHd,hs.J0];exact E.Yn a k ha hk hka,fun k a hk=>by rw[hs.C9];exact E.Vu k a hk,fun k hk=>by rw[hs.C9,hs.Ug];exact E.Ud k hk,by rw[hHd];exact E.m7,fun q hq=>by rw[e1];exact E.mu q hq,by rw[e2];exact E.wg,fun k hk h=>by rw[hs.Uf];exact E.gV k hk h,E.wD,by unfold TrX;rw[hHd];exact E.tr,E.Vv,fun k hk=>?_,E.Yo,E.low,E.Ml,fun k hk h6=>?_,E.acq,Nat.lt_trans hlt E.Mm,E.kp⟩
   ·obtain⟨q1,q2,q3,q4⟩:=E.st k hk;refine⟨by rw[hs.Uf];exact q1,by rw[hs.C9,hs.J0];exact q2,by rw[hs.C9,hs.Ug];exact q3,?_⟩;by_cases e:k=i
    ·subst e;rw[aT];exact⟨by simp[Wk.stage],q4.2⟩
    ·rw[bC _ _ e];exact q4
   ·by_cases e:k=i
    ·subst e;rw[aT,E.Ue k hk,hdf,hpos.1,hpos.2];rfl
    ·rw[bC _ _ e];exact E.Ue k hk
   ·by_cases e:k=i
    ·subst e;rw[aT]at h6;simp[Wk.stage]at h6
    ·rw[bC _ _ e]at h6;exact E.rel k hk h6
 ·right;obtain⟨nZ,hI1⟩:=E.mu _ hq;have hth:iw D j (D i).q i=(D i).T:=IK hi rfl;have good:∀r∈gf (D i).T (D i).m (x (D i).q) (v (D i).q),r.1.1≠.bad/\r.1.2<=5/\jR X.n (aR (iw D j (D i).q) i r.1.1) r.2.1 r.2.2/\
   (msA X.n (aR (iw D j (D i).q) i r.1.1) r.2.2<msA X.n (iw D j (D i).q) (v (D i).q)\/(r.2=(x (D i).q,v (D i).q)/\msA X.n (aR (iw D j (D i).q) i r.1.1) (v (D i).q)=msA X.n (iw D j (D i).q) (v (D i).q)/\(Pd X.n (aR (iw D j (D i).q) i r.1.1) (x (D i).q)<Pd X.n (iw D j (D i).q) (x (D i).q)\/(Pd X.n (aR (iw D j (D i).q) i r.1.1) (x (D i).q)=Pd X.n (iw D j (D i).q) (x (D i).q)/\r.1.2< (D i).m)))):=by
   intro r hr;rcases BA hr with⟨h1,h2,h3⟩|⟨h1,h2⟩
   ·have e0:aR (iw D j (D i).q) i r.1.1=iw D j (D i).q:=by rw[h1,<-hth];exact C7 _ i
    rw[e0,h3];refine⟨?_,by omega,hI1,.inr ⟨rfl,rfl,.inr ⟨rfl,h2⟩⟩⟩;have:=hI1.ok i hin;rw[hth]at this;rw[h1];intro e;rw[e]at this;exact this
   ·have:=Pk hI1 hin (r:=(r.1.1,r.2)) (by rw[hth];exact h2);obtain⟨g1,g2,g3⟩:=this;refine⟨g1,by rw[h1];exact Yq _,g2,?_⟩;rcases g3 with g3|⟨g3,g4,g5,g6⟩
    ·exact .inl g3
    ·simp only at g3 g4 g5 g6;refine .inr ⟨Prod.ext g3 g4,by rw[g4]at g5;exact g5,.inl g6⟩
  have hto:=FD w (RX.refl _ _) (D i).T (D i).m (x (D i).q) (v (D i).q) rfl nZ (by have:=hI1.cbd;have:=hX.big;omega) (zcc hI1.vbd (by omega)) fun r hr=>(good r hr).1;by_cases hnil:gf (D i).T (D i).m (x (D i).q) (v (D i).q)= []
  ·obtain⟨⟨sv,ws,hT⟩,hoff,hgo⟩:=hto.1 hnil;have hv0:v (D i).q=0:=by rw[hT]at hnil;exact Uk hnil
   have Ze:jo X.P g {g with status:=.blocked}=false:=by simp[jo]
   have hs:jq (D i) ((D i).fuel 0):=⟨rfl,rfl,rfl,rfl⟩
   have hgj:GoW X ((D i).fuel 0) 0 f g w:=cD.jump hrun FD;have hE:oz X K j M (aR D i ((D i).fuel 0)) (qz X.P B (X.off+(i+1)) true g {g with status:=.blocked}) x v gw w (t++MemOp.ofEvents (X.off+(i+1)) g.frame.fn g.frame.place #[]):=by
    refine E.stepW hi hs ⟨zcg hst,hm5⟩ (zca _) (fun b=>⟨.inl,fun h=>h.elim id fun h=>by omega⟩) (fun q hq=>?_) ⟨E.wg.1,by rw[gT (D:=D) (i:=i) (d':=(D i).fuel 0) rfl];exact E.wg.2⟩ (fun k hk h=>?_) (fun h=>?_) (fun op hop=>by simp[MemOp.ofEvents]at hop) rfl (fun e he=>by simp at he) (fun e he=>by simp at he) (fun h=>absurd (hst▸h:(8:Nat)<=6) (by omega)) (fun h=>absurd h hnr) (by rw[mW (D:=D) (i:=i) (d':=(D i).fuel 0) rfl rfl rfl rfl];exact E.Mm) (EC.refl w)
    ·rw[kY (D:=D) (i:=i) (d':=(D i).fuel 0) rfl rfl];exact E.mu q hq
    ·unfold qz at h;split at h
     ·rename_i e;have:k=i:=by omega
      subst this;exact hv0
     ·simp[Ze]at h;exact E.gV k hk h
    ·unfold qz at h;simp[Ze]at h;exact E.wD h
   obtain⟨h1,h2⟩:=I.step (sl:=sl) (M':=M) (D':=aR D i ((D i).fuel 0)) (x':=x) (v':=v) (j7:=gw) (J1:=qs) (b:=true) hX hK (zca K) hg (by rw[hidx];exact hgo) (fun _=>rfl) (fun k _ hk=>bC _ _ fun e=>hk (by rw[e])) (fun _ _=>rfl) (fun _ _ _=>RX.refl _ _) (fun _ _ _ _ _=>RX.refl _ _) (fun h=>by omega)
    (fun k hk e=>by
      have:k=i:=by omega
      subst this;rw[aT];exact .gV f hst hdf hf rfl ⟨sv,ws,hT⟩ hrun hoff hgj) (fun _ h=>by omega) hE
   refine⟨_,_,_,_,h1,?_,K,j,M,_,_,x,v,gw,qs,hK,h2,rfl⟩;rw[mW (D:=D) (i:=i) (d':=(D i).fuel 0) rfl rfl rfl rfl];refine Prod.Lex.right _ ?_;have hfu:=IM (D:=D) (d':=((D i).fuel 0)) hi;have gW:Ul X j (qz X.P B (X.off+(i+1)) true g {g with status:=.blocked})<Ul X j B:=by
    have:=By (f:=fun k=>b1 (!qz X.P B (X.off+(i+1)) true g {g with status:=.blocked} k)) (g:=fun k=>b1 (!B k)) (q:=X.off+(i+1)) (n:=X.off+j+1) (by omega) fun k _ hne=>by simp[qz,hne,Ze]
    simp only[hb,qz,if_true]at this;have z1:b1 (!true)=0:=rfl;have z2:b1 (!false)=1:=rfl;rw[z1,z2]at this;unfold Ul;simp only[qz];omega
   unfold F7;rcases zch (QW X j M (aR D i ((D i).fuel 0)) qs) (QW X j M D qs)with h|h
   ·exact rV h (ve E.jn _)
   ·refine Mk ?_ gW;unfold QW at h⊢;have z:((D i).fuel 0).fu=0:=rfl;rw[z]at hfu;omega
  ·obtain⟨g',w',es,hgo,r,hr,uj,n',hn'⟩:=hto.2 hnil;obtain⟨r1,r2,r3,r4⟩:=good r hr;have hs:jq (D i) ((D i).place r.1.1 r.1.2 n'):=⟨rfl,rfl,rfl,rfl⟩
   have ahG:X.S.is (X.S.pt (D i).q):=.inl ⟨_,hq,rfl⟩;have qY:∃c e fr,w.heap[X.S.pt (D i).q]?=some (.cells c e fr):=by
    have:=nZ.word;unfold World.cell? at this;split at this
    ·rename_i c e fr h;exact⟨c,e,fr,h⟩
    ·cases this
   have OM:∀k,k<=j->∀O:aI,O.own=(Hd X M D k).own->RX (Hd X M D k).L O w w':=fun k hk O hO=>E.m7.II hk hO ahG qY (fun e=>absurd e (hX.Vt _ hq)) uj.Jl;have hsz:=uj.Jl.size;have eth:∀q,q≠(D i).q->iw (aR D i ((D i).place r.1.1 r.1.2 n')) j q=iw D j q:=fun q hne=>Mq rfl (Ne.symm hne);have acT:iw (aR D i ((D i).place r.1.1 r.1.2 n')) j (D i).q=aR (iw D j (D i).q) i r.1.1:=Ui hi rfl rfl;have Zf:kX (aR D i ((D i).place r.1.1 r.1.2 n')) j=kX D j:=gT rfl;have emM:=IL (D:=D) (d':=((D i).place r.1.1 r.1.2 n')) hi;have hlt:lg X j M (aR D i ((D i).place r.1.1 r.1.2 n')) (aR x (D i).q r.2.1) (aR v (D i).q r.2.2)<lg X j M D x v:=by
    have sA:=By (f:=fun q=>msA X.n (iw (aR D i ((D i).place r.1.1 r.1.2 n')) j q) (aR v (D i).q r.2.2 q)) (g:=fun q=>msA X.n (iw D j q) (v q)) hq fun q _ hne=>by rw[eth q hne,bC _ _ hne]
    have sB:=By (f:=fun q=>Pd X.n (iw (aR D i ((D i).place r.1.1 r.1.2 n')) j q) (aR x (D i).q r.2.1 q)) (g:=fun q=>Pd X.n (iw D j q) (x q)) hq fun q _ hne=>by rw[eth q hne,bC _ _ hne]
    simp only[acT,aT]at sA sB;have hmM:mM j (aR D i ((D i).place r.1.1 r.1.2 n'))<=13*X.n:=by
     refine JZ E.jn fun k hk=>?_;by_cases e:k=i
     ·subst e;rw[aT];exact⟨zcg hst,r2⟩
     ·rw[bC _ _ e];exact(E.st k hk).2.2.2
    unfold lg;rcases r4 with r4|⟨r5,r6,r7⟩
    ·refine rV (rV ?_ (JY _ _ _ _)) hmM;unfold mA;rw[Zf];omega
    ·rw[r5]at sA sB⊢;simp only at sA sB⊢;rw[r6]at sA;have eA:mA X j M (aR D i ((D i).place r.1.1 r.1.2 n')) (aR v (D i).q (v (D i).q))=mA X j M D v:=by unfold mA;rw[Zf];omega
     rcases r7 with r7|⟨r7,r8⟩
     ·refine rV (Mk eA ?_) hmM;unfold mB;omega
     ·refine Mk ?_ (by simp only[Wk.place]at emM⊢;omega);rw[eA];have:mB X j (aR D i ((D i).place r.1.1 r.1.2 n')) (aR x (D i).q (x (D i).q))=mB X j D x:=by unfold mB;omega
      rw[this]
   have M1:1<=K-1:=by have:=E.Mm;omega
   have hv':∀k,k<j->k≠i->B (X.off+(k+1))=true->jo X.P g g'=false->aR v (D i).q r.2.2 (D k).q=0:=by
    intro k hk hne hB hw;have h0:=E.gV k hk hB;by_cases e:(D k).q=(D i).q
    ·rw[e,aT];rw[e]at h0;rcases acQ hr with h|h|h
     ·rw[h,h0]
     ·have:=uj.aeQ h;simp[jo,this,uj.run]at hw
     ·exact absurd h0 h
    ·rw[bC _ _ e];exact h0
   have hE:oz X (K-1) j M (aR D i ((D i).place r.1.1 r.1.2 n')) (qz X.P B (X.off+(i+1)) false g g') (aR x (D i).q r.2.1) (aR v (D i).q r.2.2) gw w' (t++MemOp.ofEvents (X.off+(i+1)) g.frame.fn g.frame.place es):=by
    refine E.stepW hi hs ⟨zcg hst,r2⟩ (zcg hsz.symm) (fun b=>⟨.inl,fun h=>h.elim id fun h=>by omega⟩) (fun q fA=>?_) ⟨?_,by rw[Zf];exact E.wg.2⟩ (fun k hk h=>?_) (fun h=>?_) (T9 hX.psb hq uj.bk) (by rw[hdf];exact uj.deaf) (fun e he y hy=>?_) (fun e he h=>?_) (fun h=>absurd (hst▸h:(8:Nat)<=6) (by omega)) (fun h=>absurd h hnr) (by have:=E.Mm;omega) ⟨uj.Jl.tape,uj.Jl.output,uj.Jl.os⟩
    ·by_cases e:q=(D i).q
     ·subst e;rw[aT,aT,acT];exact⟨uj.rep,r3⟩
     ·rw[bC _ _ e,bC _ _ e,eth q e];exact⟨(E.mu q fA).1.zl (uj.Jl.other _ fun h=>e (hX.inj _ _ fA hq h)),(E.mu q fA).2⟩
    ·have:=uj.Jl.other X.S.Wg (Ne.symm (hX.Vt _ hq));unfold bU;rw[this];exact E.wg.1
    ·obtain⟨h1,h2,h3⟩:=jW h;exact hv' k hk (fun e=>h3 (by rw[e])) h1 h2
    ·exact E.wD (jW h).1
    ·have:=QM hX.psb hq (uj.bk e he) hy;obtain⟨a,e1,h1⟩:=this.2.1;rw[e1];show a.block<_;exact E.m7.C6 _ (.inl (h1.imp (fun⟨q,h1,h2,_⟩=>⟨q,h1,h2⟩) id))
    ·rcases uj.bk e he with h1|h1|⟨a,h1|h1,_⟩|⟨a,wr,h1,_⟩
     ·rw[h1]at h;cases h
     ·rw[h1]at h;cases h
     ·rw[h1]at h;cases h
     ·rw[h1]at h;cases h
     ·rw[h1]at h;cases h
   obtain⟨h1,h2⟩:=I.step (sl:=sl) (M':=M) (D':=aR D i ((D i).place r.1.1 r.1.2 n')) (x':=aR x (D i).q r.2.1) (v':=aR v (D i).q r.2.2) (j7:=gw) (J1:=qs) (b:=false) hX M1 (Nat.sub_le _ _) hg (by rw[hidx];exact hgo) (fun _=>rfl) (fun k _ hk=>bC _ _ fun e=>hk (by rw[e])) (fun _ _=>rfl)
    (fun _ O hO=>OM 0 (zce _) O hO) (fun k hk _ O hO=>OM (k+1) (by omega) O hO) (fun h=>by omega)
    (fun k hk e=>by
      have:k=i:=by omega
      subst this;rw[aT];exact .run (f-1) hst rfl (by omega) hn') (fun _ h=>by omega) hE
   exact⟨_,_,_,_,h1,Prod.Lex.left _ _ hlt,K-1,j,M,_,_,_,_,gw,qs,M1,h2,rfl⟩
 ·right;have Mh:=hstep w (RX.refl _ _);cases hgo:stepG X.P false g w with
  |go g' w' es=>
   rw[hgo]at Mh;obtain⟨hd,hg'⟩:=Mh;have hs:jq (D i) ((D i).grown w w' m):=⟨rfl,rfl,rfl,rfl⟩
   have hE:oz X K j M (aR D i ((D i).grown w w' m)) (qz X.P B (X.off+(i+1)) false g g') x v gw w' (t++MemOp.ofEvents (X.off+(i+1)) g.frame.fn g.frame.place es):=by
    refine E.stepW hi hs ⟨zcg hst,hm5⟩ hd.le (fun b=>Iff.rfl) (fun q hq=>?_) ⟨?_,by rw[gT (D:=D) (i:=i) (d':=(D i).grown w w' m) rfl];exact E.wg.2⟩ (fun k hk h=>E.gV k hk (jW h).1) (fun h=>E.wD (jW h).1) (E.m7.okW (off:=X.off) hi M8 hd.ev) (Bz (H:=Hd X M D) (i:=i+1) hd.ev _) (fun e he y hy=>E.m7.acO (show i+1<=j by omega) M8 (hd.ev e he) hy) (fun e he=>qd (hd.ev e he) _) (fun h=>absurd (hst▸h:(8:Nat)<=6) (by omega)) (fun h=>absurd h hnr) (by rw[mW (D:=D) (i:=i) (d':=(D i).grown w w' m) rfl rfl rfl rfl];exact E.Mm) ⟨hd.tape,hd.out,by rw[hd.os];exact .refl _⟩
    ·rw[kY (D:=D) (i:=i) (d':=(D i).grown w w' m) rfl rfl];exact⟨E.m7.Vw (show i+1<=j by omega) M8 hq hd (E.mu q hq).1,(E.mu q hq).2⟩
    ·unfold bU;rw[E.m7.Vy (show i+1<=j by omega) M8 hd];exact E.wg.1
   obtain⟨h1,h2⟩:=I.step (sl:=sl) (M':=M) (D':=aR D i ((D i).grown w w' m)) (x':=x) (v':=v) (j7:=gw) (J1:=qs) (b:=false) hX hK (zca K) hg (by rw[hidx];exact hgo) (fun _=>rfl) (fun k _ hk=>bC _ _ fun e=>hk (by rw[e])) (fun _ _=>rfl)
    (fun _ O hO=>E.m7.QK (k:=0) (show i+1<=j by omega) (zce _) (by omega) M8 hO hd) (fun k hk hne O hO=>E.m7.QK (k:=k+1) (show i+1<=j by omega) (by omega) (by omega) M8 hO hd) (fun h=>by omega)
    (fun k hk e=>by
      have:k=i:=by omega
      subst this;rw[aT];exact .run f hst hdf hf hg') (fun _ h=>by omega) hE
   refine⟨_,_,_,_,h1,?_,K,j,M,_,_,x,v,gw,qs,hK,h2,rfl⟩;rw[mW (D:=D) (i:=i) (d':=(D i).grown w w' m) rfl rfl rfl rfl];refine Prod.Lex.right _ (rV ?_ (ve E.jn _));have hfu:=IM (D:=D) (d':=((D i).grown w w' m)) hi;unfold QW;simp only[Wk.grown]at hfu⊢;omega
  |_=>rw[hgo]at Mh;exact Mh.elim
end
end
section
open Go.ConcR (KK wgBlock WgAt stA smA rd wr mk Payload Aside2 DC0 Bk bk_of_mute)
def zm{Wg:Nat}(h:Bk Wg e)(hy:(MemAct.ofEvent e).touch?=some y):∃a,y.loc=.cell a/\a.block=Wg/\y.kind=.atomic:=by
 rcases h with h|h|⟨a,wr,rfl,h1⟩
 ·rw[Go.ConcR.ofEvent_loc_mark h]at hy;cases hy
 ·rw[Go.ConcR.ofEvent_loc_mark h]at hy;cases hy
 ·rw[Go.ConcR.ofEvent_cell]at hy;simp only[MemAct.touch?,Option.some.injEq]at hy;subst hy;exact⟨a,rfl,h1,by simp⟩
def ji.appOwn{Wg:Nat}{r:Nat}(h:ji a Wg t k r)(fn:ay)(pos:String)(hbk:∀e∈es,Bk Wg e)
 (hes:∀j e,es[j]?=some e->(MemAct.ofEvent e).touch?=none\/0<deafBehind (Deaf t k) (es.extract 0 j)):ji a Wg (t++MemOp.ofEvents k fn pos es) k r:=by
 refine h.app fun i x hi hg hx=>?_;obtain⟨op,ho,LO⟩:=touch_of hx;have hj:(MemOp.ofEvents k fn pos es)[i-t.size]?=some op:=by rw[Array.getElem?_append]at ho;simpa[Nat.not_lt.2 hi]using ho
 rw[ofEvents_eq,Array.getElem?_map]at hj;obtain⟨e,he,rfl⟩:=zci.1 hj;have hjs:i-t.size<=es.size:=by
  rcases zch (i-t.size) es.size with h'|h'
  ·omega
  ·rw[Array.getElem?_eq_none h']at he;cases he
 simp only at LO;rcases hes _ e he with h0|h0
 ·rw[h0]at LO;cases LO
 ·obtain⟨ad,h1,h2,h3⟩:=zm (hbk e (zcf he)) LO;refine⟨⟨ad,h1,h2⟩,h3,fun⟨g,hg',hdf⟩=>?_⟩;have xY:g=k:=by rw[hg]at hg';exact(Option.some.inj hg').symm
  subst xY;have:=deaf_inside t g fn pos es (i-t.size) hjs;rw[show t.size+(i-t.size)=i by omega,hdf]at this;omega
def ji.new{Wg:Nat}(hd:Deaf t k=0)(fn:ay)(pos:String):ji a Wg (t++MemOp.ofEvents k fn pos #[Go.ConcR.mk (.releaseMerge a)]) k t.size:=by
 have e1:MemOp.ofEvents k fn pos #[Go.ConcR.mk (.releaseMerge a)]=#[{g:=k,fn,pos,act:=.mark (.releaseMerge a)}]:=by rw[ofEvents_eq];simp[Go.ConcR.ofEvent_mk]
 have hy:(t++#[({g:=k,fn,pos,act:=.mark (.releaseMerge a)}:MemOp)])[t.size]?=some {g:=k,fn,pos,act:=.mark (.releaseMerge a)}:=by simp
 rw[e1];refine⟨by rw[act?_of hy],by simp[Trace.g?],⟨k,by simp[Trace.g?],by rw[deaf_old (zca _)];exact hd⟩,fun i x hi hg _=>?_⟩;obtain⟨op,ho,_⟩:=zci.1 hg;have:=lt_size_of_getElem? ho;simp at this;omega
def fM.counted{n:Nat}{c:Ct}(h:fM n ws c g)(hi:i<n)(hw:ws i=.wk):1<=g.v/\g.v<=n+1/\g.sm=0/\c≠.rt:=by
 have lW:kW (ws i)<=sm (fun j=>kW (ws j)) n:=dV (f:=fun j=>kW (ws j)) hi;have hbd:=QF n ws;have hp:c.pend<=1:=by cases c<;>simp[Ct.pend]
 have hk1:kW (ws i)=1:=by rw[hw];rfl
 rw[hk1]at lW;obtain⟨h1,ha,h2,h3,h4,h5⟩:=h;cases ho:c.open with
 |true=>have:=h2 ho;exact⟨by omega,by omega,by omega,(by rintro rfl;cases ho)⟩
 |false=>
  cases hw':c.waits with
  |true=>
   rcases h4 hw' with q|q|q
   ·exact⟨by omega,by omega,by omega,(by rintro rfl;cases hw')⟩
   ·omega
   ·omega
  |false=>have:=h5 ho hw';omega
def fM.last{n:Nat}{c:Ct}(h:fM n ws c g)(hi:i<n)(hw:ws i=.d2\/ws i=.d3\/ws i=.d4):g.v=0/\g.sm=0/\c≠.rt/\c.waits=true/\(ws i≠.d4->g.wt=true)/\(ws i=.d4->g.wt=false):=by
 have lD:kD (ws i)<=sm (fun j=>kD (ws j)) n:=dV (f:=fun j=>kD (ws j)) hi;have hk:kD (ws i)=1:=by rcases hw with e|e|e<;>rw[e]<;>rfl
 rw[hk]at lD;have key:sm (fun j=>kD (ws j)) n=1->(ws i≠.d4->sm (fun j=>k4 (ws j)) n=0)/\(ws i=.d4->1<=sm (fun j=>k4 (ws j)) n):=fun h1=>by
  refine⟨fun hne=>?_,fun e=>?_⟩
  ·have:=x7 (fun j=>k4 (ws j)) (fun j=>kD (ws j)-k4 (ws j)) n;have e2:(fun j=>k4 (ws j)+(kD (ws j)-k4 (ws j)))=fun j=>kD (ws j):=by funext j;cases ws j<;>rfl
   rw[e2]at this;have h3:kD (ws i)-k4 (ws i)<=sm (fun j=>kD (ws j)-k4 (ws j)) n:=dV (f:=fun j=>kD (ws j)-k4 (ws j)) hi;have hk1:kD (ws i)-k4 (ws i)=1:=by rcases hw with e|e|e<;>first|(rw[e];rfl)|exact absurd e hne
   rw[hk1]at h3;omega
  ·have:=dV (f:=fun j=>k4 (ws j)) hi;rw[e]at this;exact this
 obtain⟨h1,ha,h2,h3,h4,h5⟩:=h;cases ho:c.open with
 |true=>have:=h2 ho;omega
 |false=>
  cases hw':c.waits with
  |true=>
   rcases h4 hw' with q|q|q
   ·omega
   ·obtain⟨k1,k2⟩:=key q.2.2.2.1;refine⟨q.1,q.2.2.1,(by rintro rfl;cases hw'),rfl,(fun e=>by rw[q.2.2.2.2,k1 e];rfl),(fun e=>by rw[q.2.2.2.2];have:=k2 e;simp;omega)⟩
   ·omega
  |false=>have:=h5 ho hw';omega
variable [Payload]
section
variable {X:Ph}{K j:Nat}{M:Md}{D:Nat->Wk}{B:Nat->Bool}{x:Nat->Wd}{v:Nat->Nat}{gw:Gw}{qs:Nat->Nat}{gs:Array au}{w:af}{t:Trace}{sl:Option (Nat×Nat)}{i:Nat}{g:au}
def Inv.Da(hX:qy X)(hK:1<=K)(I:Inv X K j M D B x v gw qs gs w t)(hi:i<j)(hg:gs[X.off+(i+1)]?=some g)(hT:(D i).T=.out)(hm:(D i).m=0){s' m' dd':Nat}
 (hgo:stepG X.P false g w=.go g' w' es) (hsz:w'.heap.size=w.heap.size) (OM:∀k,k<=j->k≠i+1->∀O:aI,O.own=(Hd X M D k).own->RX (Hd X M D k).L O w w') (Yl:∀q,q<X.S.np->dU (X.S.pt q) (x q) (v q) w')
 (uh:bU X.S.tw X.S.Wg j7 w') (DH:fM X.n (kX (aR D i ((D i).stage s' m' dd')) j) M.c j7)
 (hok:∀op∈MemOp.ofEvents (X.off+(i+1)) g.frame.fn g.frame.place es,LM (JW X.S) (kU X.S) (wB X.off j (Hd X M D)) (F6 X.off j (Hd X M D)) (X.off+(i+1)) op)
 (hdf:deafBehind (D i).df es=dd') (BO:∀e∈es,∀y,(MemAct.ofEvent e).touch?=some y->y.loc.low w.heap.size) (hnr:∀e∈es,e.loc≠.mark (.release (stA X.S.Wg)))
 (hrel:s'<=6->∃r,ji (stA X.S.Wg) X.S.Wg (t++MemOp.ofEvents (X.off+(i+1)) g.frame.fn g.frame.place es) (X.off+(i+1)) r/\X.N0<=r)
 (zk:M.c=.rt->∀op∈MemOp.ofEvents (X.off+(i+1)) g.frame.fn g.frame.place es,op.act.touch?=none)
 (hs1:1<=s') (hs7:s'<=7) (hV:∀a u,(D i).V a u->w'.cell? a=some u) (QY:WSit X.P X.S.tw X.S.Wg (D i).bw 1 M7 M7 0 1 X.v0 s' m' dd' g' w')
 (hsm:B 0=true->jo X.P g g'=false->j7.sm=0)
 (uj:lg X j M (aR D i ((D i).stage s' m' dd')) x v<lg X j M D x v\/(s'=(D i).st/\m'< (D i).fu)) (hkp:EC w w'):Nx X (lg X j M D x v,F7 X j M D B qs) gs w sl t (X.off+(i+1)):=by
 have E:=I.env;have hs:jq (D i) ((D i).stage s' m' dd'):=⟨rfl,rfl,rfl,rfl⟩
 have hle:lg X j M (aR D i ((D i).stage s' m' dd')) x v<=lg X j M D x v:=by
  rcases uj with h|⟨h,_⟩
  ·omega
  ·rw[mW (D:=D) (i:=i) (d':=(D i).stage s' m' dd') rfl rfl h rfl];exact zca _
 have hE:oz X K j M (aR D i ((D i).stage s' m' dd')) (qz X.P B (X.off+(i+1)) false g g') x v j7 w' (t++MemOp.ofEvents (X.off+(i+1)) g.frame.fn g.frame.place es):=by refine E.stepW hi hs ⟨show s'<=8 by omega,by rw[show ((D i).stage s' m' dd').m=0 from hm];omega⟩ (zcg hsz.symm) (fun b=>⟨.inl,fun h=>h.elim id fun h=>by omega⟩) (fun q hq=>?_) ⟨uh,DH⟩ (fun k hk h=>E.gV k hk (jW h).1) (fun h=>hsm (jW h).1 (jW h).2.1) hok hdf BO hnr hrel zk (Nat.lt_of_le_of_lt hle E.Mm) hkp;rw[kY (D:=D) (i:=i) (d':=(D i).stage s' m' dd') rfl rfl];exact⟨Yl q hq,(E.mu q hq).2⟩
 obtain⟨h1,h2⟩:=I.step (sl:=sl) (M':=M) (D':=aR D i ((D i).stage s' m' dd')) (x':=x) (v':=v) (j7:=j7) (J1:=qs) (b:=false) hX hK (zca K) hg (by rw[show (X.off+(i+1)== 0)=false by simp];exact hgo) (fun _=>rfl) (fun k _ hk=>bC _ _ fun e=>hk (by rw[e])) (fun _ _=>rfl)
  (fun _ O hO=>OM 0 (zce _) (by omega) O hO) (fun k hk hne O hO=>OM (k+1) (by omega) (by omega) O hO) (fun h=>by omega)
  (fun k hk e=>by
    have:k=i:=by omega
    subst this;rw[aT];exact .lib hs1 hs7 hT hm hV QY) (fun _ h=>by omega) hE
 refine⟨_,_,_,_,h1,?_,K,j,M,_,_,x,v,j7,qs,hK,h2,rfl⟩;rcases uj with h|⟨h,hf⟩
 ·exact Prod.Lex.left _ _ h
 ·rw[mW (D:=D) (i:=i) (d':=(D i).stage s' m' dd') rfl rfl h rfl];refine Prod.Lex.right _ (rV ?_ (ve E.jn _));have hfu:=IM (D:=D) (d':=(D i).stage s' m' dd') hi;have z:((D i).stage s' m' dd').fu=m':=rfl;rw[z]at hfu;unfold QW;omega
def Inv.Uo(hX:qy X)(hK:1<=K)(I:Inv X K j M D B x v gw qs gs w t)(hi:i<j)(hg:gs[X.off+(i+1)]?=some g)(hT:(D i).T=.out)(hm:(D i).m=0)(hV:∀a u,(D i).V a u->w.cell? a=some u)
 (h:WSit X.P X.S.tw X.S.Wg (D i).bw 1 M7 M7 0 1 X.v0 (D i).st (D i).fu (D i).df g w) (hrun:g.status=.running):Nx X (lg X j M D x v,F7 X j M D B qs) gs w sl t (X.off+(i+1)):=by
 have E:=I.env;have hin:i<X.n:=zcb hi E.jn;obtain⟨hq,Rs,hVm,_,hm5⟩:=E.st i hi;have hdk:Deaf t (X.off+(i+1))=(D i).df:=E.Ue i hi;have hwA:WgAt X.S.tw X.S.Wg w ((gw.v*4294967296+b1 gw.wt:Nat):Int) ((gw.sm:Nat):Int):=E.wg.1;have qY:∃c e fr,w.heap[X.S.Wg]?=some (.cells c e fr):=⟨_,_,_,E.wg.1⟩
 have PD:=E.m7.C6 X.S.Wg (.inl (.inr rfl));have rxW:∀{w':af} {j7:Gw},bu X.S.Wg w w'->bU X.S.tw X.S.Wg j7 w'->∀k,k<=j->∀O:aI,O.own=(Hd X M D k).own->RX (Hd X M D k).L O w w':=fun he uh k hk O hO=>E.m7.II hk hO (.inr rfl) qY (fun _=>uh.live) he;have muW:∀{w':af},bu X.S.Wg w w'->∀q,q<X.S.np->dU (X.S.pt q) (x q) (v q) w':=fun he q hq=>(E.mu q hq).1.zl (he.other _ (hX.Vt q hq));have vW:∀{w':af},bu X.S.Wg w w'->∀a u,(D i).V a u->w'.cell? a=some u:=fun he a u hu=>by have:=(E.m7.Ry (i+1) a (by omega) (.inr (hVm a u hu))).1;rw[<-hV a u hu];simp[World.cell?,he.other a.block this]
 have okB:∀{es:Array aC},(∀e∈es,Bk X.S.Wg e)->∀op∈MemOp.ofEvents (X.off+(i+1)) g.frame.fn g.frame.place es,LM (JW X.S) (kU X.S) (wB X.off j (Hd X M D)) (F6 X.off j (Hd X M D)) (X.off+(i+1)) op:=fun hbk op hop=>by obtain⟨e,he,rfl⟩:=Go.Conc.mem_ofEvents hop;refine⟨rfl,fun y hy=>?_⟩;obtain⟨a,h1,h2,h3⟩:=zm (hbk e he) hy;exact⟨fun⟨a',e',hs⟩=>by rw[h1]at e';cases e';exact hX.Zd (h2▸hs),.inl ⟨⟨a,h1,.inr h2⟩,by rw[h3];simp,by rw[h3];simp⟩⟩
 have ahJ:∀{es:Array aC},(∀e∈es,Bk X.S.Wg e)->∀e∈es,∀y,(MemAct.ofEvent e).touch?=some y->y.loc.low w.heap.size:=fun hbk e he y hy=>by obtain⟨a,h1,h2,_⟩:=zm (hbk e he) hy;rw[h1];show a.block<_;rw[h2];exact PD
 have book:∀{g':au} {w':af} {es:Array aC} {s' m' dd':Nat} {j7:Gw},stepG X.P false g w=.go g' w' es->bu X.S.Wg w w'->bU X.S.tw X.S.Wg j7 w'->fM X.n (kX (aR D i ((D i).stage s' m' dd')) j) M.c j7->(∀e∈es,Bk X.S.Wg e)->
  (∀jx e,es[jx]?=some e->(MemAct.ofEvent e).touch?=none\/0<deafBehind (D i).df (es.extract 0 jx))->WSit X.P X.S.tw X.S.Wg (D i).bw 1 M7 M7 0 1 X.v0 s' m' dd' g' w'->deafBehind (D i).df es=dd'->(D i).st<=6->1<=s'->s'<=6->(M.c=.rt->∀e∈es,(MemAct.ofEvent e).touch?=none)->(B 0=true->jo X.P g g'=false->j7.sm=0)->
  (lg X j M (aR D i ((D i).stage s' m' dd')) x v<lg X j M D x v\/(s'=(D i).st/\m'< (D i).fu))->Nx X (lg X j M D x v,F7 X j M D B qs) gs w sl t (X.off+(i+1)):=by
  intro g' w' es s' m' dd' j7 hgo he uh DH hbk VA QY hdd h6 hs1 hs6 hmt hsm uj;refine I.Da hX hK hi hg hT hm hgo he.size (fun k hk _=>rxW he uh k hk) (muW he) uh DH (okB hbk) hdd (ahJ hbk) (fun e hee h=>?_) (fun _=>?_) (fun hc op hop=>?_) hs1 (by omega) (vW he) QY hsm uj ⟨he.tape,he.output,he.os⟩
  ·rcases hbk e hee with h1|h1|⟨a,wr,rfl,_⟩
   ·rw[h1]at h;cases h
   ·rw[h1]at h;cases h
   ·cases h
  ·obtain⟨r,hr,BK⟩:=E.rel i hi h6;exact⟨r,hr.appOwn _ _ hbk (by rw[hdk];exact VA),BK⟩
  ·obtain⟨e,hee,rfl⟩:=Go.Conc.mem_ofEvents hop;exact hmt hc e hee
 have idle:∀{g':au} {m':Nat},stepG X.P false g w=.go g' w #[]->WSit X.P X.S.tw X.S.Wg (D i).bw 1 M7 M7 0 1 X.v0 (D i).st m' (D i).df g' w->m'< (D i).fu->1<=(D i).st->(D i).st<=6->Nx X (lg X j M D x v,F7 X j M D B qs) gs w sl t (X.off+(i+1)):=by intro g' m' hgo QY SR h1 h6;exact book (j7:=gw) hgo (bu.refl _ _) E.wg.1 (by rw[gT (D:=D) (i:=i) (d':=(D i).stage (D i).st m' (D i).df) rfl];exact E.wg.2) (by simp) (by simp) QY rfl h6 h1 h6 (by simp) (fun h _=>E.wD h) (.inr ⟨rfl,SR⟩)
 have muM:∀{s' m' dd':Nat},IJ s'=IJ (D i).st->s'< (D i).st->lg X j M (aR D i ((D i).stage s' m' dd')) x v<lg X j M D x v:=fun{s' m' dd'} h1 h2=>by have e1:∀q,iw (aR D i ((D i).stage s' m' dd')) j q=iw D j q:=fun q=>kY rfl rfl;have e2:kX (aR D i ((D i).stage s' m' dd')) j=kX D j:=gT h1;have e3:=IL (D:=D) (d':=(D i).stage s' m' dd') hi;have z1:((D i).stage s' m' dd').st=s':=rfl;have z2:((D i).stage s' m' dd').m=(D i).m:=rfl;rw[z1,z2]at e3;unfold lg;refine Mk (by unfold mA mB;simp only[e1,e2]) ?_;omega
 have muA:∀{s' m' dd':Nat} {j7:Gw},s'<=8->QE (kX D j i) gw=some (IJ s',j7)->fM X.n (kX (aR D i ((D i).stage s' m' dd')) j) M.c j7/\lg X j M (aR D i ((D i).stage s' m' dd')) x v<lg X j M D x v:=fun{s' m' dd' j7} h8 wL=>by
  obtain⟨h1,h2⟩:=stepW E.wg.2 hin wL;have e2:kX (aR D i ((D i).stage s' m' dd')) j=aR (kX D j) i (IJ s'):=Uj hi;have e1:∀q,iw (aR D i ((D i).stage s' m' dd')) j q=iw D j q:=fun q=>kY rfl rfl;refine⟨by rw[e2];exact h1,?_⟩;unfold lg;refine rV (rV ?_ (JY _ _ _ _)) (JZ E.jn fun k hk=>?_)
  ·unfold mA;rw[e2];simp only[e1];omega
  ·by_cases e:k=i
   ·subst e;rw[aT];exact⟨h8,hm5⟩
   ·rw[bC _ _ e];exact(E.st k hk).2.2.2
 generalize hst:(D i).st=s at h;generalize hfu:(D i).fu=m at h;generalize hdd:(D i).df=dd at h;cases h with
 |r0 h=>
  have lf:kX D j i=.wk:=by rw[kZ hi,hst];rfl
  have rW:=(fM.counted E.wg.2 hin lf).2.2.2;rcases Goes.cases h with hstop|⟨m',rfl,hstep⟩
  ·obtain⟨_,hhas,g',hgo,m₂,hk⟩:=hstop w (RW.refl w);refine I.Da (j7:=gw) (s':=6) (m':=m₂) (dd':=0) hX hK hi hg hT hm hgo rfl (fun k hk _ O hO=>RX.refl _ _) (fun q hq=>(E.mu q hq).1) E.wg.1 (by rw[gT (D:=D) (i:=i) (d':=(D i).stage 6 m₂ 0) (by rw[hst];rfl)];exact E.wg.2) (fun op hop=>?_) (by rw[hdd];rfl) (fun e he y hy=>?_) (fun e he h=>?_) (fun _=>⟨t.size,ji.new (by rw[hdk,hdd]) _ _,E.tr.size⟩) (fun h=>absurd h rW) (by omega) (by omega) hV (.k1 hk) (fun h _=>E.wD h) (.inl (muM (by rw[hst];rfl) (by omega))) (EC.refl w)
   ·obtain⟨e,he,rfl⟩:=Go.Conc.mem_ofEvents hop;simp at he;subst he;exact⟨rfl,fun y hy=>by cases hy⟩
   ·simp at he;subst he;cases hy
   ·simp at he;subst he;simp[Go.ConcR.mk]at h
  ·obtain⟨g',w',es,hgo,⟨hac,hev⟩,hg'⟩:=hstep w (RW.refl w);have acU:∀e∈es,∀y,(MemAct.ofEvent e).touch?=some y->∃a,y.loc=.cell a/\a.block=X.S.Wg/\y.kind≠.plain/\y.kind≠.said:=fun e he y hy=>by
    rcases((hev e he).1 0 "").2 y hy with⟨⟨a,h1,h2⟩,h3⟩|h1|⟨h1,_⟩
    ·exact⟨a,h1,h2,h3⟩
    ·exact h1.elim
    ·exact h1.elim
   have hnb:X.S.Wg≠(D i).bw:=fun e=>(E.m7.sh (i+1) X.S.Wg (by omega) (.inl (.inr rfl))).2 (e▸Rs);refine I.Da (j7:=gw) (s':=7) (m':=m') (dd':=0) hX hK hi hg hT hm hgo hac.size (fun k hk hne O hO=>E.m7.Yi (i:=i+1) (by omega) hk hO Rs (E.Yn i k hi hk hne) hac) (fun q hq=>(E.mu q hq).1.zl (hac.block _ fun e=>(E.m7.sh (i+1) _ (by omega) (.inl (.inl ⟨q,hq,rfl⟩))).2 (e▸Rs))) (by unfold bU;rw[hac.block _ hnb];exact E.wg.1) (by rw[gT (D:=D) (i:=i) (d':=(D i).stage 7 m' 0) (by rw[hst];rfl)];exact E.wg.2) (fun op hop=>?_) (by rw[hdd];exact Go.ConcN.deafBehind_idle (fun e he=>⟨(hev e he).2.1,(hev e he).2.2.1⟩) 0) (fun e he y hy=>?_) (fun e he=>(hev e he).2.2.2) (fun h=>by omega) (fun h=>absurd h rW) (by omega) (by omega) (fun a u hu=>?_) (.r0 hg') (fun h _=>E.wD h) (.inr ⟨by omega,by omega⟩) ⟨hac.tape,hac.output,by rw[hac.os];exact .refl _⟩
   ·obtain⟨e,he,rfl⟩:=Go.Conc.mem_ofEvents hop;refine⟨rfl,fun y hy=>?_⟩;obtain⟨a,h1,h2,h3,h4⟩:=acU e he y hy;exact⟨fun⟨a',e',hs⟩=>by rw[h1]at e';cases e';exact hX.Zd (h2▸hs),.inl ⟨⟨a,h1,.inr h2⟩,h3,h4⟩⟩
   ·obtain⟨a,h1,h2,_⟩:=acU e he y hy;rw[h1];show a.block<_;rw[h2];exact PD
   ·rw[<-hV a u hu];simp[World.cell?,hac.block a.block fun e=>(E.m7.mf (i+1) (i+1) a (by omega) (by omega) (hVm a u hu)).1 (e▸Rs)]
 |k1 h=>
  have lf:kX D j i=.wk:=by rw[kZ hi,hst];rfl
  have rW:=(fM.counted E.wg.2 hin lf).2.2.2;rcases Goes.cases h with hstop|⟨m',rfl,hstep⟩
  ·obtain⟨_,g',hgo,m₂,hk⟩:=hstop w (RW.refl w);exact book (s':=5) (m':=m₂) (dd':=1) (j7:=gw) hgo (bu.refl _ _) E.wg.1 (by rw[gT (D:=D) (i:=i) (d':=(D i).stage 5 m₂ 1) (by rw[hst];rfl)];exact E.wg.2) (by intro e he;simp at he;subst he;exact .inl rfl) (by intro jx e he;exact .inl (by have:=zcf he;simp at this;subst this;rfl)) (.d1 hk) (by rw[hdd];rfl) (by omega) (by omega) (by omega) (fun h=>absurd h rW) (fun h _=>E.wD h) (.inl (muM (by rw[hst];rfl) (by omega)))
  ·obtain⟨g',w',es,hgo,⟨rfl,rfl⟩,hg'⟩:=hstep w (RW.refl w);exact idle hgo (by rw[hst,hdd];exact .k1 hg') (by omega) (by omega) (by omega)
 |d1 h=>
  have lf:kX D j i=.wk:=by rw[kZ hi,hst];rfl
  obtain⟨Wy,Hf,wE,rW⟩:=fM.counted E.wg.2 hin lf;rcases Goes.cases h with hstop|⟨m',rfl,hstep⟩
  ·obtain⟨_,hall⟩:=hstop w (RW.refl w);obtain⟨vv,hvv⟩:∃vv,gw.v=vv+1:=⟨gw.v-1,by omega⟩
   have ahK:=hX.big;have iz:=Vz gw.wt;have hw1:WgAt X.S.tw X.S.Wg w (((vv:Nat)+1)*KK+((b1 gw.wt:Nat):Int)) 0:=by
    have e1:((gw.v*4294967296+b1 gw.wt:Nat):Int)=((vv:Nat)+1)*KK+((b1 gw.wt:Nat):Int):=by rw[hvv];unfold KK;omega
    rw[<-e1];have:=hwA;rw[wE]at this;exact this
   obtain⟨g',hgo,hl,fA⟩:=hall vv (b1 gw.wt) iz (by omega) hw1;have e2:(((vv:Nat):Int)*KK+((b1 gw.wt:Nat):Int))=((vv*4294967296+b1 gw.wt:Nat):Int):=by unfold KK;omega
   rw[e2]at hgo hl;have hef:bu X.S.Wg w (w.setCell (stA X.S.Wg) (.int .u64 ((vv*4294967296+b1 gw.wt:Nat):Int))):=bu.set _ _ 0 _ (by omega);have uh:bU X.S.tw X.S.Wg {gw with v:=vv} (w.setCell (stA X.S.Wg) (.int .u64 ((vv*4294967296+b1 gw.wt:Nat):Int))):=E.wg.1.m9 (y:={gw with v:=vv}) rfl;have bk2:∀e∈#[rd (stA X.S.Wg),wr (stA X.S.Wg)],Bk X.S.Wg e:=by intro e he;simp at he;rcases he with rfl|rfl<;>exact .inr (.inr ⟨_,_,rfl,rfl⟩)
   have df2:∀jx e,(#[rd (stA X.S.Wg),wr (stA X.S.Wg)]:Array aC)[jx]?=some e->(MemAct.ofEvent e).touch?=none\/0<deafBehind (D i).df ((#[rd (stA X.S.Wg),wr (stA X.S.Wg)]:Array aC).extract 0 jx):=by
    intro jx e he;rw[hdd];match jx,he with
    | 0,_=>exact .inr (by simp[deafBehind])
    | 1,_=>exact .inr (by simp[deafBehind,rd])
    |jx+2,he=>simp at he
   by_cases J3:gw.v=1/\gw.wt=true
   ·obtain⟨m₂,hk⟩:=hl ⟨by omega,by rw[J3.2];rfl⟩;obtain⟨a1,a2⟩:=muA (s':=4) (m':=m₂) (dd':=1) (j7:={gw with v:=vv}) (by omega) (by rw[lf];simp only[QE];rw[if_neg (by omega),if_pos J3,show gw.v-1=vv by omega];rfl);exact book hgo hef uh a1 bk2 df2 (.d2 hk) (by rw[hdd];rfl) (by omega) (by omega) (by omega) (fun h=>absurd h rW) (fun _ _=>wE) (.inl a2)
   ·obtain⟨q2,BJ⟩:=fA (fun⟨h1,h2⟩=>J3 ⟨by omega,by cases hwt:gw.wt with|true=>rfl|false=>rw[hwt]at h2;cases h2⟩);obtain⟨a1,a2⟩:=muA (s':=1) (m':=q2) (dd':=1) (j7:={gw with v:=vv}) (by omega) (by rw[lf];simp only[QE];rw[if_neg (by omega),if_neg J3,show gw.v-1=vv by omega];rfl);exact book hgo hef uh a1 bk2 df2 (.quit BJ) (by rw[hdd];rfl) (by omega) (by omega) (by omega) (fun h=>absurd h rW) (fun _ _=>wE) (.inl a2)
  ·obtain⟨g',w',es,hgo,⟨rfl,rfl⟩,hg'⟩:=hstep w (RW.refl w);exact idle hgo (by rw[hst,hdd];exact .d1 hg') (by omega) (by omega) (by omega)
 |d2 h=>
  have lf:kX D j i=.d2:=by rw[kZ hi,hst];rfl
  obtain⟨hv0,wE,rW,hcw,hwt,_⟩:=fM.last E.wg.2 hin (.inl lf);have Mr:=hwt (by rw[lf];simp);have hw1:WgAt X.S.tw X.S.Wg w 1 0:=by
   have:=hwA;have z:((0*4294967296+b1 true:Nat):Int)=1:=by simp[b1]
   rw[hv0,Mr,wE,z]at this;exact this
  rcases Goes.cases h with hstop|⟨m',rfl,hstep⟩
  ·obtain⟨_,hx⟩:=hstop w (RW.refl w);obtain⟨g',hgo,m₂,hk⟩:=hx hw1;obtain⟨a1,a2⟩:=muA (s':=3) (m':=m₂) (dd':=1) (j7:=gw) (by omega) (by rw[lf];simp only[QE];rw[if_pos ⟨hv0,Mr⟩];rfl);exact book hgo (bu.refl _ _) E.wg.1 a1 (by intro e he;simp at he;subst he;exact .inr (.inr ⟨_,_,rfl,rfl⟩)) (by intro jx e he;rw[hdd];match jx,he with| 0,_=>exact .inr (by simp[deafBehind])|jx+1,he=>simp at he) (.d3 hk) (by rw[hdd];rfl) (by omega) (by omega) (by omega) (fun h=>absurd h rW) (fun _ _=>wE) (.inl a2)
  ·obtain⟨g',w',es,hgo,⟨rfl,rfl⟩,hg'⟩:=hstep w (RW.refl w);exact idle hgo (by rw[hst,hdd];exact .d2 hg') (by omega) (by omega) (by omega)
 |d3 h=>
  have lf:kX D j i=.d3:=by rw[kZ hi,hst];rfl
  obtain⟨hv0,wE,rW,hcw,hwt,_⟩:=fM.last E.wg.2 hin (.inr (.inl lf));have Mr:=hwt (by rw[lf];simp);have hw1:WgAt X.S.tw X.S.Wg w 1 0:=by
   have:=hwA;have z:((0*4294967296+b1 true:Nat):Int)=1:=by simp[b1]
   rw[hv0,Mr,wE,z]at this;exact this
  rcases Goes.cases h with hstop|⟨m',rfl,hstep⟩
  ·obtain⟨_,hx⟩:=hstop w (RW.refl w);obtain⟨g',hgo,m₂,hk⟩:=hx hw1;obtain⟨a1,a2⟩:=muA (s':=2) (m':=m₂) (dd':=1) (j7:={gw with v:=0,wt:=false}) (by omega) (by rw[lf];rfl);have uh:bU X.S.tw X.S.Wg {gw with v:=0,wt:=false} (w.setCell (stA X.S.Wg) (.int .u64 0)):=by
    have:=E.wg.1.m9 (y:={gw with v:=0,wt:=false}) rfl;have z:((0*4294967296+b1 false:Nat):Int)=0:=by simp[b1]
    simp only[z]at this;exact this
   exact book hgo (bu.set _ _ 0 _ (by omega)) uh a1 (by intro e he;simp at he;subst he;exact .inr (.inr ⟨_,_,rfl,rfl⟩)) (by intro jx e he;rw[hdd];match jx,he with| 0,_=>exact .inr (by simp[deafBehind])|jx+1,he=>simp at he) (.d4 hk) (by rw[hdd];rfl) (by omega) (by omega) (by omega) (fun h=>absurd h rW) (fun _ _=>wE) (.inl a2)
  ·obtain⟨g',w',es,hgo,⟨rfl,rfl⟩,hg'⟩:=hstep w (RW.refl w);exact idle hgo (by rw[hst,hdd];exact .d3 hg') (by omega) (by omega) (by omega)
 |d4 h=>
  have lf:kX D j i=.d4:=by rw[kZ hi,hst];rfl
  obtain⟨hv0,wE,rW,hcw,_,hwt⟩:=fM.last E.wg.2 hin (.inr (.inr lf));have Mr:=hwt lf;have hw1:WgAt X.S.tw X.S.Wg w 0 0:=by
   have:=hwA;have z:((0*4294967296+b1 false:Nat):Int)=0:=by simp[b1]
   rw[hv0,Mr,wE,z]at this;exact this
  rcases Goes.cases h with hstop|⟨m',rfl,hstep⟩
  ·obtain⟨_,hmw,hx⟩:=hstop w (RW.refl w);obtain⟨g',hgo,q2,BJ⟩:=hx hw1;have jd:g'.status=.running:=by
    cases q2 with
    |zero=>exact absurd BJ.2 (by decide)
    |succ q=>exact BJ.elim (fun x=>absurd x.2 (by decide)) (fun x=>x.1)
   obtain⟨a1,a2⟩:=muA (s':=1) (m':=q2) (dd':=1) (j7:={gw with sm:=gw.sm+1}) (by omega) (by rw[lf];rfl);have uh:bU X.S.tw X.S.Wg {gw with sm:=gw.sm+1} (w.setCell (smA X.S.Wg) (.int .u32 1)):=by have:=E.wg.1.sO (y:={gw with sm:=gw.sm+1}) rfl rfl;rw[wE]at this⊢;exact this
   refine book hgo (bu.set _ _ 1 _ (by omega)) uh a1 (es:=semEvents (smA X.S.Wg)) ?_ ?_ (.quit BJ) (by rw[hdd];simp[deafBehind,semEvents]) (by omega) (by omega) (by omega) (fun h=>absurd h rW) (fun _ hw=>?_) (.inl a2)
   ·intro e he;simp[semEvents]at he;rcases he with rfl|rfl|rfl|rfl
    ·exact .inl rfl
    ·exact .inr (.inr ⟨_,_,rfl,rfl⟩)
    ·exact .inr (.inr ⟨_,_,rfl,rfl⟩)
    ·exact .inr (.inl rfl)
   ·intro jx e he;rw[hdd];match jx,he with
    | 0,he=>simp[semEvents]at he;subst he;exact .inl rfl
    | 1,_=>exact .inr (by simp[deafBehind,semEvents])
    | 2,_=>exact .inr (by simp[deafBehind,semEvents])
    | 3,he=>simp[semEvents]at he;subst he;exact .inl rfl
    |jx+4,he=>simp[semEvents]at he
   ·simp[jo,hmw,jd]at hw
  ·obtain⟨g',w',es,hgo,⟨rfl,rfl⟩,hg'⟩:=hstep w (RW.refl w);exact idle hgo (by rw[hst,hdd];exact .d4 hg') (by omega) (by omega) (by omega)
 |quit h=>
  cases m with
  |zero=>rw[h.1]at hrun;cases hrun
  |succ q2=>
   rcases h with⟨hf,_⟩|⟨_,g',es,zk,hstep,BJ⟩
   ·rw[hf]at hrun;cases hrun
   ·have hbk:∀e∈es,Bk X.S.Wg e:=fun e he=>bk_of_mute (zk e he);exact book (s':=1) (m':=q2) (j7:=gw) (hstep w) (bu.refl _ _) E.wg.1 (by rw[gT (D:=D) (i:=i) (d':=(D i).stage 1 q2 (deafBehind dd es)) (by rw[hst];rfl)];exact E.wg.2) hbk (fun jx e he=>.inl (touch_mute (zk e (zcf he)))) (.quit BJ) (by rw[hdd]) (by omega) (by omega) (by omega) (fun _ e he=>touch_mute (zk e he)) (fun h _=>E.wD h) (.inr ⟨by omega,by omega⟩)
end
end
section
open Go.ConcR (KK wgBlock WgAt stA smA rd wr mk Payload Aside2 DC0 Bk bk_of_mute)
def fM.ahL{n:Nat}{c:Ct}(h:fM n ws c g)(h1:c≠.rt)(h2:∀r,c≠.go r)(h3:¬(c=.w3/\g.sm=0)):∃r,oM c g=some r:=by
 have h5:=zf.fin h;cases c with
 |go r=>exact absurd rfl (h2 r)
 |rt=>exact absurd rfl h1
 |w3=>exact⟨_,by simp only[oM];rw[if_neg (fun e=>h3 ⟨rfl,e⟩)]⟩
 |w4=>have:=h5 rfl rfl;exact⟨_,by simp only[oM];rw[if_pos ⟨this.1,this.2.1⟩]⟩
 |_=>exact⟨_,rfl⟩
def fM.bds{n:Nat}{c:Ct}(h:fM n ws c g):g.v<=n+1/\g.sm<=1/\(c.open=true->g.wt=false):=by
 have hbd:=QF n ws;have hp:c.pend<=1:=by cases c<;>simp[Ct.pend]
 obtain⟨h1,ha,h2,h3,h4,h5⟩:=h;cases ho:c.open with
 |true=>have:=h2 ho;exact⟨by omega,by omega,fun _=>this.2.1⟩
 |false=>
  cases hw':c.waits with
  |true=>rcases h4 hw' with q|q|q<;>exact⟨by omega,by omega,fun h=>by cases h⟩
  |false=>have:=h5 ho hw';exact⟨by omega,by omega,fun h=>by cases h⟩
def fM.Up{n:Nat}{c:Ct}(h:fM n ws c g)(h1:c.open=false)(h2:c.waits=false)(hi:i<n):ws i=.qt:=by
 have q1:=zf.fin h h1 h2;have q2:=zf.left h;have hl:c.left=0:=by cases c<;>first|rfl|cases h1
 have l1:=dV (f:=fun j=>kN (ws j)) hi;have l2:=dV (f:=fun j=>kW (ws j)) hi;have l3:=dV (f:=fun j=>kD (ws j)) hi;have key:∀T:Ws,kN T=0->kW T=0->kD T=0->T=.qt:=by intro T;cases T<;>simp[kN,kW,kD]
 exact key _ (by omega) (by omega) (by omega)
def QZ{st:Nat}(h:IJ st=.qt):st<=1:=by
 unfold IJ at h;split at h
 ·cases h
 ·split at h
  ·cases h
  ·split at h
   ·cases h
   ·split at h
    ·cases h
    ·omega
def Yr{c:Ct}{g':Gw}(h:oM c g=some (.rt,g')):c=.aq:=by
 cases c<;>simp only[oM]at h<;>(try split at h) <;>first|rfl|simp at h|(simp at h;try(split at h<;>simp at h))|cases h
variable [Payload]
section
variable {X:Ph}{K j:Nat}{M:Md}{D:Nat->Wk}{B:Nat->Bool}{x:Nat->Wd}{v:Nat->Nat}{gw:Gw}{qs:Nat->Nat}{gs:Array au}{w:af}{t:Trace}{sl:Option (Nat×Nat)}{g:au}
def J4(X:Ph)(M:Md)(f:Nat)(g:au)(w:af):Prop:=
 ∃r g' child gy n',M.c=.go r/\stepG X.P true g w=.spawn g' child w #[]/\g'.status=.running/\X.bO r child w M.own gy/\GoM X ⟨gy,.sp (r-1),n'⟩ n' (f-1) g' w
def Inv.Q0(hX:qy X)(hK:1<=K)(I:Inv X K j M D B x v gw qs gs w t)(hg:gs[0]?=some g)(hb:B 0=false)(hf:K<=f)(hj:GoM X M M.fu f g w):
 (X.tY ⟨M.own,.mn M.c,f⟩ g w)\/J4 X M f g w\/Nx X (lg X j M D x v,F7 X j M D B qs) gs w sl t 0:=by
 have E:=I.env;have M8:((⟨M.own,.mn M.c,f⟩:aI)).own=(Hd X M D 0).own:=rfl;have PD:=E.m7.C6 X.S.Wg (.inl (.inr rfl));have qY:∃c e fr,w.heap[X.S.Wg]?=some (.cells c e fr):=⟨_,_,_,E.wg.1⟩
 rcases cD.ways hj (by simp only;omega)with(hstop|⟨hrun,FD⟩)|⟨m,hm,hrun,hstep⟩
 ·exact .inl (hstop w (RX.refl _ _))
 ·right;obtain⟨b1',b2',b3'⟩:=fM.bds E.wg.2;have ahK:=hX.big;obtain⟨rW,hsp,gW,wL⟩:=FD w (RX.refl _ _) M.c gw rfl E.wg.1 (by omega) (by omega) b3';by_cases acV:∃r,M.c=.go r
  ·obtain⟨r,hr⟩:=acV;obtain⟨g',child,gy,h1,h2,h3,n',h4⟩:=hsp r hr;exact .inl ⟨r,g',child,gy,n',hr,h1,h2,h3,h4⟩
  right;by_cases xf:M.c=.w3/\gw.sm=0
  ·obtain⟨hoff,hgo⟩:=gW xf.1 xf.2;have Ze:jo X.P g {g with status:=.blocked}=false:=by simp[jo]
   have hgj:GoM X ⟨M.own,M.c,0⟩ 0 f g w:=cD.jump hrun FD;have hE:oz X K j ⟨M.own,M.c,0⟩ D (qz X.P B 0 true g {g with status:=.blocked}) x v gw w (t++MemOp.ofEvents 0 g.frame.fn g.frame.place #[]):=by refine E.step0 (M':=⟨M.own,M.c,0⟩) (zca _) (fun b h=>.inl h) (fun q hq=>(E.mu q hq).1) E.wg (fun k hk h=>?_) (fun _=>xf.2) (fun op hop=>by simp[MemOp.ofEvents]at hop) rfl (fun e he=>by simp at he) (fun e he=>by simp at he) (fun h=>.inl h) E.Mm (EC.refl w);unfold qz at h;simp[Ze]at h;exact E.gV k hk h
   obtain⟨h1,h2⟩:=I.step (sl:=sl) (M':=⟨M.own,M.c,0⟩) (D':=D) (x':=x) (v':=v) (j7:=gw) (J1:=qs) (b:=true) hX hK (zca K) hg hgo (fun h=>absurd rfl h) (fun _ _ _=>rfl) (fun _ _=>rfl) (fun _ _ _=>RX.refl _ _) (fun _ _ _ _ _=>RX.refl _ _) (fun _=>.gV f hf rfl xf.1 hrun hoff hgj) (fun k hk e=>by omega) (fun h=>by omega) hE;refine⟨_,_,_,_,h1,?_,K,j,_,D,_,x,v,gw,qs,hK,h2,rfl⟩;refine Prod.Lex.right _ ?_;have VJ:Ul X j (qz X.P B 0 true g {g with status:=.blocked})<Ul X j B:=by
    have:=By (f:=fun k=>b1 (!qz X.P B 0 true g {g with status:=.blocked} k)) (g:=fun k=>b1 (!B k)) (q:=0) (n:=X.off+j+1) (by omega) fun k _ hne=>by simp[qz,hne,Ze]
    simp only[hb,qz,if_true]at this;have z1:b1 (!true)=0:=rfl;have z2:b1 (!false)=1:=rfl;rw[z1,z2]at this;unfold Ul;simp only[qz];omega
   unfold F7;rcases zch (QW X j ⟨M.own,M.c,0⟩ D qs) (QW X j M D qs)with h|h
   ·exact rV h (ve E.jn _)
   ·refine Mk ?_ VJ;unfold QW at h⊢;simp only at h⊢;omega
  ·obtain⟨r,hr⟩:=fM.ahL E.wg.2 rW (fun r e=>acV ⟨r,e⟩) xf;obtain⟨g',w',es,hgo,hcs,n',hn'⟩:=wL r hr;obtain⟨i1,i2⟩:=acv E.wg.2 (c':=r.1) (g':=r.2) hr;have OM:∀k,k<=j->∀O:aI,O.own=(Hd X M D k).own->RX (Hd X M D k).L O w w':=fun k hk O hO=>E.m7.II hk hO (.inr rfl) qY (fun _=>hcs.rep.live) hcs.Jl;have hlt:lg X j ⟨M.own,r.1,n'⟩ D x v<lg X j M D x v:=by unfold lg;refine rV (rV ?_ (JY _ _ _ _)) (JZ E.jn fun k hk=>(E.st k hk).2.2.2);unfold mA;simp only;omega
   have M1:1<=K-1:=by have:=E.Mm;omega
   have hE:oz X (K-1) j ⟨M.own,r.1,n'⟩ D (qz X.P B 0 false g g') x v r.2 w' (t++MemOp.ofEvents 0 g.frame.fn g.frame.place es):=by
    refine E.step0 (M':=⟨M.own,r.1,n'⟩) (zcg hcs.Jl.size.symm) (fun b h=>.inl h) (fun q hq=>(E.mu q hq).1.zl (hcs.Jl.other _ (hX.Vt q hq))) ⟨hcs.rep,i1⟩ (fun k hk h=>E.gV k hk (jW h).1) (fun h=>absurd rfl (jW h).2.2) (Ua hX.Zd hcs.bk) hcs.deaf (fun e he y hy=>?_) (fun e he h=>?_) (fun h=>.inr ?_) (by have:=E.Mm;omega) ⟨hcs.Jl.tape,hcs.Jl.output,hcs.Jl.os⟩
    ·obtain⟨a,e1,h1⟩:=(QN hX.Zd (hcs.bk e he) hy).2.1;rw[e1];show a.block<_;exact E.m7.C6 _ (.inl (h1.imp (fun⟨q,h1,h2,_⟩=>⟨q,h1,h2⟩) id))
    ·rcases hcs.bk e he with h1|h1|h1|h1|h1|⟨a,wr,h1,_⟩
     ·rw[h1]at h;cases h
     ·rw[h1]at h;cases h
     ·rw[h1]at h;cases h
     ·rw[h1]at h;cases h
     ·rw[h1]at h;cases h
     ·rw[h1]at h;cases h
    ·have hc:M.c=.aq:=Yr (g:=gw) (g':=r.2) (by rw[hr];simp only at h;rw[<-h]);refine⟨fun k hk=>?_,hcs.acq hc,by rw[hc];rfl⟩;have:=fM.Up E.wg.2 (by rw[hc];rfl) (by rw[hc];rfl) (zcb hk E.jn);rw[kZ hk]at this;have:=QZ this;omega
   obtain⟨h1,h2⟩:=I.step (sl:=sl) (M':=⟨M.own,r.1,n'⟩) (D':=D) (x':=x) (v':=v) (j7:=r.2) (J1:=qs) (b:=false) hX M1 (Nat.sub_le _ _) hg hgo (fun h=>absurd rfl h) (fun _ _ _=>rfl) (fun _ _=>rfl) (fun h=>absurd rfl h) (fun k hk _ O hO=>OM (k+1) (by omega) O hO) (fun _=>.run (f-1) (by omega) hn') (fun k hk e=>by omega) (fun h=>by omega) hE;exact⟨_,_,_,_,h1,Prod.Lex.left _ _ hlt,K-1,j,_,D,_,x,v,r.2,qs,M1,h2,rfl⟩
 ·right;right;have Mh:=hstep w (RX.refl _ _);cases hgo:stepG X.P true g w with
  |go g' w' es=>
   rw[hgo]at Mh;obtain⟨hd,hg'⟩:=Mh;have hE:oz X K j ⟨fun b=>M.own b\/(w.heap.size<=b/\b<w'.heap.size),M.c,m⟩ D (qz X.P B 0 false g g') x v gw w' (t++MemOp.ofEvents 0 g.frame.fn g.frame.place es):=by refine E.step0 (M':=⟨fun b=>M.own b\/(w.heap.size<=b/\b<w'.heap.size),M.c,m⟩) hd.le (fun b h=>h) (fun q hq=>E.m7.Vw (zce _) M8 hq hd (E.mu q hq).1) ⟨?_,E.wg.2⟩ (fun k hk h=>E.gV k hk (jW h).1) (fun h=>E.wD (jW h).1) (E.m7.ok0 (off:=X.off) M8 hd.ev) (Bz (H:=Hd X M D) (i:=0) hd.ev _) (fun e he y hy=>E.m7.acO (zce _) M8 (hd.ev e he) hy) (fun e he=>qd (hd.ev e he) _) (fun h=>.inl h) E.Mm ⟨hd.tape,hd.out,by rw[hd.os];exact .refl _⟩;unfold bU;rw[E.m7.Vy (zce _) M8 hd];exact E.wg.1
   obtain⟨h1,h2⟩:=I.step (sl:=sl) (M':=⟨fun b=>M.own b\/(w.heap.size<=b/\b<w'.heap.size),M.c,m⟩) (D':=D) (x':=x) (v':=v) (j7:=gw) (J1:=qs) (b:=false) hX hK (zca K) hg hgo (fun h=>absurd rfl h) (fun _ _ _=>rfl) (fun _ _=>rfl) (fun h=>absurd rfl h) (fun k hk hne O hO=>E.m7.QK (k:=k+1) (zce _) (by omega) (by omega) M8 hO hd) (fun _=>.run f hf hg') (fun k hk e=>by omega) (fun h=>by omega) hE;refine⟨_,_,_,_,h1,Prod.Lex.right _ (rV ?_ (ve E.jn _)),K,j,_,D,_,x,v,gw,qs,hK,h2,rfl⟩;unfold QW;simp only;omega
  |_=>rw[hgo]at Mh;exact Mh.elim
def Inv.Ms(hX:qy X)(hK:1<=K)(I:Inv X K j M D B x v gw qs gs w t)(h1:1<=idx)(h2:idx<=X.off)(hg:gs[idx]?=some g)(hrun:g.status=.running):Nx X (lg X j M D x v,F7 X j M D B qs) gs w sl t idx:=by
 have E:=I.env;obtain⟨g0,DF,hq⟩:=I.rG idx h1 h2;rw[hg]at DF;cases DF;cases JH:qs idx with
 |zero=>rw[JH]at hq;rw[hq.1]at hrun;cases hrun
 |succ k=>
  rw[JH]at hq;rcases hq with⟨hf,_⟩|⟨_,g',es,hm,Qj,fA⟩
  ·rw[hf]at hrun;cases hrun
  have hE:=E.Pk (B':=qz X.P B idx false g g') (fn:=g.frame.fn) (pos:=g.frame.place) h1 h2 hm (fun k h=>(jW h).1);obtain⟨q1,q2⟩:=I.step (sl:=sl) (M':=M) (D':=D) (x':=x) (v':=v) (j7:=gw) (J1:=aR qs idx k) (b:=false) hX hK (zca K) hg (by rw[show (idx == 0)=false by simp;omega];exact Qj w) (fun _=>rfl) (fun _ _ _=>rfl) (fun i hi=>bC _ _ hi) (fun _ _ _=>RX.refl _ _) (fun _ _ _ _ _=>RX.refl _ _) (fun h=>by omega) (fun i hi e=>by omega) (fun _ _=>by rw[aT];exact fA) hE;refine⟨_,_,_,_,q1,Prod.Lex.right _ (rV ?_ (ve E.jn _)),K,j,M,D,_,x,v,gw,_,hK,q2,rfl⟩;have:=lP (fun n:Nat=>n) qs k (i:=idx) (n:=X.off+1) (by omega);rw[JH]at this;unfold QW;have e:sm (aR qs idx k) (X.off+1)=sm (fun j=>aR qs idx k j) (X.off+1):=rfl;have e':sm qs (X.off+1)=sm (fun j=>qs j) (X.off+1):=rfl;omega
end
end
section
open Go.ConcR (KK wgBlock WgAt stA smA rd wr mk Payload Aside2 DC0 Bk bk_of_mute)
def Q1(D:Nat->Wk)(j:Nat):∀n,sm (fun i=>kN (kX D j i)) n=n-j:=by
 have key:∀st,kN (IJ st)=0:=by intro st;unfold IJ;(repeat' split) <;>rfl
 intro n;induction n with
 |zero=>simp[sm]
 |succ n ih=>
  simp only[sm];rw[ih];rcases zch n j with h|h
  ·have:kX D j n=IJ (D n).st:=kZ h;rw[this,key];omega
  ·have:kX D j n=.nb:=by simp[kX,Nat.not_lt.2 h]
   rw[this];simp only[kN];omega
section
variable {X:Ph}{M:Md}{D:Nat->Wk}{j:Nat}{d:Wk}
def J5{q:Nat}(hq:d.q=q):iw (aR D j d) (j+1) q=aR (iw D j q) j d.T:=by
 funext k;unfold iw aR;by_cases e:k=j
 ·subst e;simp[hq]
 ·have:k<j+1↔k<j:=by omega
  simp[e,this]
def FE{q:Nat}(hq:d.q≠q):iw (aR D j d) (j+1) q=iw D j q:=by
 funext k;unfold iw aR;by_cases e:k=j
 ·subst e;simp[hq]
 ·have:k<j+1↔k<j:=by omega
  simp[e,this]
def Uq:kX (aR D j d) (j+1)=aR (kX D j) j (IJ d.st):=by
 funext k;unfold kX aR;by_cases e:k=j
 ·subst e;simp
 ·have:k<j+1↔k<j:=by omega
  simp[e,this]
def pO{M':Md}(hk:k<=j):(Hd X M' (aR D j d) k).L=(Hd X M D k).L/\(k≠0->(Hd X M' (aR D j d) k).own=(Hd X M D k).own):=by
 cases k with
 |zero=>exact⟨rfl,fun h=>absurd rfl h⟩
 |succ k=>simp only[Hd,bC D d (show k≠j by omega)];exact⟨trivial,fun _=>trivial⟩
def IP{M':Md}:Hd X M' (aR D j d) (j+1)=⟨d.own,d.L⟩:=by simp only[Hd,aT]
end
section
variable {X:Ph}{M M':Md}{D:Nat->Wk}{j:Nat}{w:af}
def Geo.child(hX:qy X)(G:Geo X.S j (Hd X M D) w)(Vu:∀i a,i<j->(D i).L.ny a->X.L0.ny a)(Ud:∀i,i<j->∀a,(D i).L.Mn a->X.IX (X.n-i) a)(hjn:j<X.n){d:Wk}(k:acM X (X.n-j) d w M.own M'.own):Geo X.S (j+1) (Hd X M' (aR D j d)) w:=by
 have hL:∀i,i<=j->(Hd X M' (aR D j d) i).L=(Hd X M D i).L:=fun i hi=>(pO hi).1;have hO:∀i b,i<=j->(Hd X M' (aR D j d) i).own b->(Hd X M D i).own b:=fun i b hi h=>by
  by_cases e:i=0
  ·subst e;exact k.less b h
  ·rwa [(pO (M:=M) hi).2 e]at h
 have VB:∀b,¬(Hd X M' (aR D j d) (j+1)).own b:=fun b=>by rw[IP];exact k.d0.2.2.2.2 b
 have FF:(Hd X M' (aR D j d) (j+1)).L=d.L:=by rw[IP]
 have cs:∀i,i<=j+1->i<=j\/i=j+1:=fun i hi=>by omega
 have h0:(Hd X M D 0).L=X.L0:=rfl;have acW:∀i a,i<=j->(Hd X M D i).L.ny a->X.L0.ny a:=fun i a hi h=>by
  cases i with
  |zero=>exact h
  |succ i=>exact Vu i a (by omega) h
 have ix:=fun a (h:d.L.Mn a)=>hX.ix _ a (k.mn a h);have nfx:∀b,(X.L0.Fx b->False)->(M.own b->False)->¬d.L.Fx b:=fun b h1 h2 h=>(k.fx b h).elim h1 fun x=>h2 x.1;refine⟨fun i hi=>?_,fun i hi=>?_,fun i b hi h=>?_,fun i b hi h=>?_,G.C6,fun a c b ha hc h h'=>?_,fun a c b ha hc h h'=>?_,fun a c y ha hc h h'=>?_,fun a c y ha hc h=>?_,fun a c y ha hc h h'=>?_,fun a y ha h=>?_,fun a c y ha hc h=>?_,fun a b ha hb=>?_,fun a y ha h=>?_,fun a c b ha hc h=>?_⟩
 ·rcases cs i hi with h|rfl
  ·rw[hL i h];exact G.wg i h
  ·rw[FF];exact k.wg
 ·rcases cs i hi with h|rfl
  ·rw[hL i h];exact G.top i h
  ·rw[FF];exact k.top
 ·rcases cs i hi with h1|rfl
  ·exact G.vO i b h1 (hO i b h1 h)
  ·exact absurd h (VB b)
 ·rcases cs i hi with h1|rfl
  ·rw[hL i h1]at h;exact G.FA i b h1 h
  ·rw[FF]at h;exact(k.fx b h).elim (fun x=>G.FA 0 b (zce _) x) fun x=>G.vO 0 b (zce _) x.1
 ·rcases cs a ha with h1|rfl
  ·rcases cs c hc with h2|rfl
   ·exact G.oo a c b h1 h2 (hO a b h1 h) (hO c b h2 h')
   ·exact absurd h' (VB b)
  ·exact absurd h (VB b)
 ·rcases cs a ha with h1|rfl
  ·rcases cs c hc with h2|rfl
   ·rw[hL c h2]at h';exact G.of a c b h1 h2 (hO a b h1 h) h'
   ·rw[FF]at h';rcases k.fx b h' with x|⟨x,y⟩
    ·exact G.of a 0 b h1 (zce _) (hO a b h1 h) x
    ·have:=G.oo a 0 b h1 (zce _) (hO a b h1 h) x;subst this;exact y h
  ·exact absurd h (VB b)
 ·rcases cs c hc with h2|rfl
  ·rcases cs a ha with h1|rfl
   ·rw[hL a h1]at h;exact G.mo a c y h1 h2 h (hO c _ h2 h')
   ·rw[FF]at h;exact(G.M5 0 c _ (zce _) h2 (ix y h).2.1).2.1 (hO c _ h2 h')
  ·exact absurd h' (VB _)
 ·rcases cs a ha with h1|rfl
  ·rw[hL a h1]at h;rcases cs c hc with h2|rfl
   ·rw[hL c h2];exact G.mf a c y h1 h2 h
   ·rw[FF];exact⟨nfx _ (fun x=>(G.mf a 0 y h1 (zce _) h).1 x) (fun x=>G.mo a 0 y h1 (zce _) h x),fun x=>(G.mf a 0 y h1 (zce _) h).2 (k.fc y x)⟩
  ·rw[FF]at h;have q:=ix y h;rcases cs c hc with h2|rfl
   ·rw[hL c h2];exact⟨(G.M5 0 c _ (zce _) h2 q.2.1).2.2,fun x=>q.2.2.2.1 (acW c y h2 x)⟩
   ·rw[FF];exact⟨nfx _ (G.M5 0 0 _ (zce _) (zce _) q.2.1).2.2 (G.M5 0 0 _ (zce _) (zce _) q.2.1).2.1,fun x=>q.2.2.2.1 (k.fc y x)⟩
 ·have new:∀i,i<=j->(Hd X M D i).L.Mn y->d.L.Mn y->False:=fun i hi x z=>by
   cases i with
   |zero=>exact(ix y z).2.2.1 x
   |succ i=>
    have:=hX.ixd _ _ y (Ud i (by omega) y x) (k.mn y z);omega
  rcases cs a ha with h1|rfl
  ·rw[hL a h1]at h;rcases cs c hc with h2|rfl
   ·rw[hL c h2]at h';exact G.mm a c y h1 h2 h h'
   ·rw[FF]at h';exact(new a h1 h h').elim
  ·rw[FF]at h;rcases cs c hc with h2|rfl
   ·rw[hL c h2]at h';exact(new c h2 h' h).elim
   ·rfl
 ·rcases cs a ha with h1|rfl
  ·rw[hL a h1]at h;exact G.spot a y h1 h
  ·rw[FF]at h;exact h.elim (fun x=>(ix y x).1) fun x=>G.spot 0 y (zce _) (.inr (k.fc y x))
 ·have K4:∀c,c<=j->X.L0.ny y->¬(Hd X M D c).own y.block/\¬(Hd X M D c).L.Fx y.block:=fun c hc x=>G.co 0 c y (zce _) hc x;have hy:X.L0.ny y:=by
   rcases cs a ha with h1|rfl
   ·rw[hL a h1]at h;exact acW a y h1 h
   ·rw[FF]at h;exact k.fc y h
  rcases cs c hc with h2|rfl
  ·rw[hL c h2];exact⟨fun x=>(K4 c h2 hy).1 (hO c _ h2 x),(K4 c h2 hy).2⟩
  ·rw[FF];exact⟨VB _,nfx _ (K4 0 (zce _) hy).2 (K4 0 (zce _) hy).1⟩
 ·rcases cs a ha with h1|rfl
  ·rw[hL a h1];exact⟨fun x=>(G.sh a b h1 hb).1 (hO a b h1 x),(G.sh a b h1 hb).2⟩
  ·rw[FF];exact⟨VB _,nfx _ (G.sh 0 b (zce _) hb).2 (G.sh 0 b (zce _) hb).1⟩
 ·rcases cs a ha with h1|rfl
  ·rw[hL a h1]at h;exact G.Ry a y h1 h
  ·rw[FF]at h;rcases h with h|h
   ·exact G.Ry 0 y (zce _) (.inl (k.fc y h))
   ·have q:=ix y h;exact⟨q.2.2.2.2.1,q.2.2.2.2.2.1,fun p hp e=>absurd e (q.2.2.2.2.2.2 p hp)⟩
 ·have key:∀a',a'<=j->(Hd X M D a').L.Sh b->b<w.heap.size/\¬(Hd X M' (aR D j d) c).own b/\¬(Hd X M' (aR D j d) c).L.Fx b:=fun a' ha' x=>by
   refine⟨(G.M5 a' 0 b ha' (zce _) x).1,?_⟩;rcases cs c hc with h2|rfl
   ·rw[hL c h2];exact⟨fun z=>(G.M5 a' c b ha' h2 x).2.1 (hO c b h2 z),(G.M5 a' c b ha' h2 x).2.2⟩
   ·rw[FF];exact⟨VB _,nfx _ (G.M5 a' 0 b ha' (zce _) x).2.2 (G.M5 a' 0 b ha' (zce _) x).2.1⟩
  rcases cs a ha with h1|rfl
  ·rw[hL a h1]at h;exact key a h1 h
  ·rw[FF]at h;exact key 0 (zce _) (k.sh b h)
end
variable [Payload]
section
variable {X:Ph}{K j:Nat}{M M':Md}{D:Nat->Wk}{B:Nat->Bool}{x:Nat->Wd}{v:Nat->Nat}{gw:Gw}{qs:Nat->Nat}{gs:Array au}{w:af}{t:Trace}{sl:Option (Nat×Nat)}{g:au}
def Inv.Mt(hX:qy X)(hK:1<=K)(I:Inv X K j M D B x v gw qs gs w t)(hg:gs[0]?=some g)(hf:K<=f)(hs:J4 X M f g w):Nx X (lg X j M D x v,F7 X j M D B qs) gs w sl t 0:=by
 have E:=I.env;obtain⟨r,g',child,gy,n',hc,hgo,hrun,⟨d,WU,kg,hch⟩,hm⟩:=hs;have DH:=E.wg.2;rw[hc]at DH;have FZ:1<=r:=zf.a1 DH r (.inr (.inr (.inr rfl)));have hrn:X.n-j=r:=by have:=zf.left DH;rw[Q1]at this;exact this
 have hjn:j<X.n:=by omega
 obtain⟨r',rfl⟩:∃r',r=r'+1:=⟨r-1,by omega⟩
 have hwj:kX D j j=.nb:=by simp[kX]
 obtain⟨i1,i2⟩:=Yd DH hjn hwj;rw[<-hrn]at kg;have e0:r'+1-1=r':=rfl;rw[e0]at hm;have Mp:Geo X.S (j+1) (Hd X ⟨gy,.sp r',n'⟩ (aR D j d)) w:=E.m7.child (M':=⟨gy,.sp r',n'⟩) hX E.Vu (fun i hi=>(E.Ud i hi).1) hjn kg;have Zf:kX (aR D j d) (j+1)=aR (kX D j) j .wk:=by rw[Uq,kg.d0.2.2.1];rfl
 have hD:∀i,i<j->aR D j d i=D i:=fun i hi=>bC _ _ (by omega);have hlt:lg X (j+1) ⟨gy,.sp r',n'⟩ (aR D j d) x v<lg X j M D x v:=by
  unfold lg;refine rV (rV ?_ (JY _ _ _ _)) (JZ hjn fun k hk=>?_)
  ·have sA:=By (f:=fun q=>msA X.n (iw (aR D j d) (j+1) q) (v q)) (g:=fun q=>msA X.n (iw D j q) (v q)) kg.q fun q _ hne=>by rw[FE (Ne.symm hne)]
   have e1:iw (aR D j d) (j+1) d.q=aR (iw D j d.q) j .uy:=by rw[J5 rfl,kg.d0.1]
   have e2:=Jz (th:=iw D j d.q) hjn .uy (v d.q);have e3:iw D j d.q j=.out:=by simp[iw]
   rw[e3]at e2;simp only[e1]at sA;have e4:msA X.n (iw D j d.q) (v d.q)=sm (fun i=>m6 (iw D j d.q i)) X.n+3*v d.q:=rfl;have w1:m6 .out=0:=rfl;have w2:m6 .uy=9:=rfl;unfold mA;rw[Zf,hc];simp only;omega
  ·by_cases e:k=j
   ·subst e;rw[aT,kg.d0.2.2.1,kg.d0.2.1];omega
   ·rw[hD k (by omega)];exact(E.st k (by omega)).2.2.2
 have M1:1<=K-1:=by have:=E.Mm;omega
 have hsz:=I.size;have ahM:(((MemOp.ofEvents 0 g.frame.fn g.frame.place #[]).push {g:=0,fn:=g.frame.fn,pos:=g.frame.place,act:=.go gs.size}).push {g:=gs.size,fn:=child.frame.fn,pos:=g.frame.place,act:=.start})=#[{g:=0,fn:=g.frame.fn,pos:=g.frame.place,act:=.go (X.off+j+1)},{g:=X.off+j+1,fn:=child.frame.fn,pos:=g.frame.place,act:=.start}]:=by rw[ofEvents_eq,hsz];simp
 have hrT:=runT_crowd_spawn (sl:=sl) (i:=0) hg hgo;rw[ahM]at hrT;generalize hx:({g:=0,fn:=g.frame.fn,pos:=g.frame.place,act:=.go (X.off+j+1)}:MemOp)=o1 at hrT;generalize hy:({g:=X.off+j+1,fn:=child.frame.fn,pos:=g.frame.place,act:=.start}:MemOp)=o2 at hrT;have Zn:o1.g=0/\o1.act=.go (X.off+j+1):=by rw[<-hx];exact⟨rfl,rfl⟩
 have Zo:o2.g=X.off+j+1/\o2.act=.start:=by rw[<-hy];exact⟨rfl,rfl⟩
 have hm2:∀op∈(#[o1,o2]:Array MemOp),op=o1\/op=o2:=by intro op hop;simpa using hop
 have hnt:∀op∈(#[o1,o2]:Array MemOp),op.act.touch?=none:=fun op hop=>by rcases hm2 op hop with rfl|rfl<;>first|(rw[Zn.2];rfl)|(rw[Zo.2];rfl)
 have hdf:∀k,Deaf (t++#[o1,o2]) k=Deaf t k:=fun k=>Go.ConcN.Deaf_still t k _ fun op hop=>by rcases hm2 op hop with rfl|rfl<;>first|(rw[Zn.2];simp)|(rw[Zo.2];simp)
 have dL:∀i,1<=i->i<gs.size->((gs.setIfInBounds 0 g').push child)[i]?=gs[i]? :=fun i h1 h2=>by rw[Array.getElem?_push_lt (by simpa using h2)];rw[<-Array.getElem?_eq_getElem,Array.getElem?_setIfInBounds_ne (by omega)]
 refine⟨_,_,_,(lg X (j+1) ⟨gy,.sp r',n'⟩ (aR D j d) x v,F7 X (j+1) ⟨gy,.sp r',n'⟩ (aR D j d) (aR (aR B (X.off+(j+1)) false) 0 false) qs),hrT,Prod.Lex.left _ _ hlt,K-1,j+1,⟨gy,.sp r',n'⟩,aR D j d,aR (aR B (X.off+(j+1)) false) 0 false,x,v,gw,qs,M1,⟨by simp[hsz];omega,?_,fun i h1 h2=>?_,fun i hi=>?_,?_⟩,rfl⟩
 ·refine⟨g',?_,?_⟩
  ·rw[Array.getElem?_push_lt (by simp;omega)];simp
  ·rw[aT];exact .run (f-1) (by omega) hm
 ·obtain⟨a,ha,hq⟩:=I.rG i h1 h2;exact⟨a,by rw[dL i h1 (by omega)];exact ha,by rw[hdf];exact hq⟩
 ·rw[bC _ _ (show X.off+(i+1)≠0 by omega)];by_cases e:i=j
  ·subst e;refine⟨child,?_,?_⟩
   ·have:X.off+(i+1)=(gs.setIfInBounds 0 g').size:=by simp[hsz];omega
    rw[this,Array.getElem?_push_size]
   ·rw[aT,aT];exact .run (K-1) kg.d0.2.2.1 (by rw[kg.d0.1,kg.d0.2.1,kg.d0.2.2.2.1];rfl) (zca _) (hch (K-1))
  ·obtain⟨a,ha,hw⟩:=I.wk i (by omega);rw[bC _ _ (show X.off+(i+1)≠X.off+(j+1) by omega),hD i (by omega)];exact⟨a,by rw[dL _ (by omega) (by omega)];exact ha,hw.le (Nat.sub_le _ _)⟩
 ·refine⟨hjn,fun k hk=>?_,fun a k ha hk hka=>?_,fun k a hk h=>?_,fun k hk=>?_,Mp,fun q hq=>⟨(E.mu q hq).1,?_⟩,⟨E.wg.1,by rw[Zf];exact i1⟩,fun k hk h=>?_,fun h=>?_,?_,by rw[hdf,E.Vv,hc];rfl,fun k hk=>?_,fun k hk=>by rw[hdf];exact E.Yo k (by omega),fun i a hi0 ha=>?_,fun k Zy h=>?_,fun k hk h6=>?_,(by intro h;cases h),by have:=E.Mm;omega,E.kp⟩
  ·by_cases e:k=j
   ·subst e;rw[aT];exact⟨kg.q,kg.bw.1,kg.v,by rw[kg.d0.2.2.1];omega,by rw[kg.d0.2.1];omega⟩
   ·rw[hD k (by omega)];exact E.st k (by omega)
  ·by_cases e:a=j
   ·subst e;rw[aT,(pO (M:=M) (show k<=a by omega)).1];exact E.m7.of 0 k _ (zce _) (by omega) kg.bw.2.1
   ·rw[hD a (by omega)];rcases zch j k with h|h
    ·obtain rfl:k=j+1:=by omega
     rw[IP];intro hf;rcases kg.fx _ hf with y|y
     ·exact E.Yn a 0 (by omega) (zce _) (by omega) y
     ·exact E.m7.of 0 (a+1) _ (zce _) (by omega) y.1 (E.st a (by omega)).2.1
    ·rw[(pO (M:=M) h).1];exact E.Yn a k (by omega) h hka
  ·by_cases e:k=j
   ·subst e;rw[aT]at h;exact kg.fc a h
   ·rw[hD k (by omega)]at h;exact E.Vu k a (by omega) h
  ·by_cases e:k=j
   ·subst e;rw[aT];exact⟨kg.mn,kg.vx⟩
   ·rw[hD k (by omega)];exact E.Ud k (by omega)
  ·by_cases e:d.q=q
   ·rw[J5 e,kg.d0.1];exact(E.mu q hq).2.begin hjn (by simp[iw])
   ·rw[FE e];exact(E.mu q hq).2
  ·rw[bC _ _ (show X.off+(k+1)≠0 by omega)]at h;by_cases e:k=j
   ·subst e;rw[aT]at h;cases h
   ·rw[bC _ _ (show X.off+(k+1)≠X.off+(j+1) by omega)]at h;rw[hD k (by omega)];exact E.gV k (by omega) h
  ·rw[aT]at h;cases h
  ·have hA:=Mp.apart (off:=X.off);refine E.tr.fork hA (fun k hk=>?_) (fun k hk=>?_) Zn Zo (by rw[E.Vv,hc];rfl)
   ·funext l;unfold wB;apply propext;constructor
    ·rintro⟨h1,h2,h3⟩;refine⟨h1,hk,?_⟩;have q:=pO (X:=X) (M:=M) (M':=⟨gy,.sp r',n'⟩) (D:=D) (d:=d) (show k-X.off<=j by omega);unfold FB at h3⊢;rw[q.1,q.2 (by omega)]at h3;exact h3
    ·rintro⟨h1,h2,h3⟩;refine⟨h1,by omega,?_⟩;have q:=pO (X:=X) (M:=M) (M':=⟨gy,.sp r',n'⟩) (D:=D) (d:=d) (show k-X.off<=j by omega);unfold FB at h3⊢;rw[q.1,q.2 (by omega)];exact h3
   ·funext l;unfold F6;apply propext;constructor
    ·rintro⟨h1,h2,h3⟩;refine⟨h1,hk,?_⟩;have q:=pO (X:=X) (M:=M) (M':=⟨gy,.sp r',n'⟩) (D:=D) (d:=d) (show k-X.off<=j by omega);unfold Yj at h3⊢;rw[q.1]at h3;exact h3
    ·rintro⟨h1,h2,h3⟩;refine⟨h1,by omega,?_⟩;have q:=pO (X:=X) (M:=M) (M':=⟨gy,.sp r',n'⟩) (D:=D) (d:=d) (show k-X.off<=j by omega);unfold Yj at h3⊢;rw[q.1];exact h3
  ·by_cases e:k=j
   ·subst e;rw[aT,hdf,kg.d0.2.2.2.1];exact E.Yo _ (by omega)
   ·rw[hD k (by omega),hdf];exact E.Ue k (by omega)
  ·obtain⟨op,ho,K8⟩:=touch_of ha;rcases getElem?_append_cases ho with⟨_,h1⟩|⟨_,h1⟩
   ·exact E.low i a hi0 (by rw[touchAt_of h1];exact K8)
   ·rw[hnt op h1]at K8;cases K8
  ·obtain⟨op,ho,K8⟩:=zci.1 h;rcases getElem?_append_cases ho with⟨_,h1⟩|⟨_,h1⟩
   ·exact E.Ml k Zy (by simp[Trace.act?,h1,K8])
   ·rcases hm2 op h1 with rfl|rfl
    ·rw[Zn.2]at K8;cases K8
    ·rw[Zo.2]at K8;cases K8
  ·by_cases e:k=j
   ·subst e;rw[aT,kg.d0.2.2.1]at h6;omega
   ·rw[hD k (by omega)]at h6;obtain⟨r2,Rl⟩:=E.rel k (by omega) h6;exact⟨r2,Rl.1.appMute hnt,Rl.2⟩
end
end
section
open Go.ConcR (KK wgBlock WgAt stA smA rd wr mk Payload Aside2 DC0 Bk bk_of_mute)
def Ys:WellFounded Lt2:=(Prod.lex Nat.lt_wfRel Nat.lt_wfRel).wf
variable [Payload]
section
variable {X:Ph}{K j:Nat}{M:Md}{D:Nat->Wk}{B:Nat->Bool}{x:Nat->Wd}{v:Nat->Nat}{gw:Gw}{qs:Nat->Nat}{gs:Array au}{w:af}{t:Trace}{sl:Option (Nat×Nat)}{g:au}
def Inv.who(I:Inv X K j M D B x v gw qs gs w t)(hg:gs[idx]?=some g):idx=0\/(1<=idx/\idx<=X.off)\/∃i,i<j/\idx=X.off+(i+1):=by
 have:=(zcd.1 hg).1;rw[I.size]at this;rcases zch X.off idx with h|h
 ·exact .inr (.inr ⟨idx-X.off-1,by omega,by omega⟩)
 ·rcases Nat.eq_zero_or_pos idx with e|e
  ·exact .inl e
  ·exact .inr (.inl ⟨e,h⟩)
def Inv.awake(hX:qy X)(hK:1<=K)(I:Inv X K j M D B x v gw qs gs w t):∀g∈gs,awake g:=by
 intro g hg;obtain⟨idx,hi,rfl⟩:=Array.mem_iff_getElem.1 hg;have F4:gs[idx]?=some gs[idx]:=Array.getElem?_eq_getElem hi;rcases I.who F4 with rfl|⟨h1,h2⟩|⟨i,h1,rfl⟩
 ·obtain⟨a,ha,hj⟩:=I.main;rw[F4]at ha;cases ha;have:=hj.status hX hK;intro s e;rw[e]at this;split at this<;>cases this
 ·obtain⟨a,ha,hj⟩:=I.rG idx h1 h2;rw[F4]at ha;cases ha;exact awake_of (hj.status.elim .inl fun x=>.inr (.inr x))
 ·obtain⟨a,ha,hj⟩:=I.wk i h1;rw[F4]at ha;cases ha;have:=hj.status hK;intro s e;rw[e]at this;split at this
  ·cases this
  ·rcases this with h|h<;>cases h
def Inv.live(hX:qy X)(hK:1<=K)(I:Inv X K j M D B x v gw qs gs w t):∃(i:Nat) (g:au),gs[i]?=some g/\g.status=.running:=by
 have E:=I.env;obtain⟨a,ha,hj⟩:=I.main;cases hb:B 0 with
 |false=>
  rw[hb]at hj;exact⟨0,a,ha,hj.status hX hK⟩
 |true=>
  have hc:M.c=.w3:=by
   rw[hb]at hj;cases hj with
   |gV f h1 h2 h3 h4 h5 h6=>exact h3
  have DH:=E.wg.2;rw[hc]at DH;obtain⟨i,hin,lf⟩:=fM.live DH (E.wD hb);have hij:i<j:=by
   rcases zch i j with h|h
   ·exact h
   ·have:kX D j i=.nb:=by simp[kX,Nat.not_lt.2 h]
    rw[this]at lf;rcases lf with h|h|h|h<;>cases h
  rw[kZ hij]at lf;have hst:(D i).st≠1:=fun e=>by rw[e]at lf;rcases lf with h|h|h|h<;>cases h
  have runs:∀i,i<j->B (X.off+(i+1))=false->(D i).st≠1->∃(i:Nat) (g:au),gs[i]?=some g/\g.status=.running:=fun i hi hb' hs=>by
   obtain⟨g,hg,hw⟩:=I.wk i hi;rw[hb']at hw;refine⟨_,g,hg,?_⟩;have hss:=hw.status hK;cases hw with
   |run f h1 h2 h3 h4=>
    rcases cD.ways h4 (by simp only;omega)with(h|h)|⟨_,_,h,_⟩
    ·obtain⟨_,_,r,hg⟩:=h w (RX.refl _ _);exact Goes.running (fun _ _ x=>x.1) w (RW.refl w) hg
    ·exact h.1
    ·exact h
   |lib h1 h2 h3 h4 h5 h6=>
    generalize hs':(D i).st=s at h6 hs;generalize (D i).fu=fu at h6;generalize (D i).df=df at h6;cases h6 with
    |r0 h=>exact Goes.running (fun _ _ x=>x.1) w (RW.refl w) h
    |k1 h=>exact Goes.running (fun _ _ x=>x.1) w (RW.refl w) h
    |d1 h=>exact Goes.running (fun _ _ x=>x.1) w (RW.refl w) h
    |d2 h=>exact Goes.running (fun _ _ x=>x.1) w (RW.refl w) h
    |d3 h=>exact Goes.running (fun _ _ x=>x.1) w (RW.refl w) h
    |d4 h=>exact Goes.running (fun _ _ x=>x.1) w (RW.refl w) h
    |quit h=>exact absurd rfl hs
  cases hbi:B (X.off+(i+1))with
  |false=>exact runs i hij hbi hst
  |true=>
   obtain⟨g,hg,hw⟩:=I.wk i hij;rw[hbi]at hw;have hT:∃sv ws,(D i).T=.gV sv ws:=by
    cases hw with
    |gV f h1 h2 h3 h4 h6=>exact h6
   obtain⟨sv,ws,hT⟩:=hT;obtain⟨hq,_⟩:=E.st i hij;obtain⟨k,hkn,wL⟩:=jR.live (E.mu _ hq).2 hin (by rw[IK hij rfl,hT];simp);have hkj:k<j/\(D k).q=(D i).q:=by
    refine Classical.byContradiction fun h=>wL ?_;have:iw D j (D i).q k=.out:=by simp only[iw,h,if_false]
    rw[this];rfl
   have hTk:iw D j (D i).q k=(D k).T:=IK hkj.1 hkj.2;rw[hTk]at wL;have hbk:B (X.off+(k+1))=false:=by
    refine Classical.byContradiction fun h=>?_;have hb':B (X.off+(k+1))=true:=by cases hh:B (X.off+(k+1))with|true=>rfl|false=>exact absurd hh h
    have h0:=E.gV k hkj.1 hb';obtain⟨g2,_,N7⟩:=I.wk k hkj.1;rw[hb']at N7;have sn:∃sv ws,(D k).T=.gV sv ws:=by
     cases N7 with
     |gV f h1 h2 h3 h4 h6=>exact h6
    obtain⟨sv2,ws2,sn⟩:=sn;rw[sn,<-hkj.2,h0]at wL;exact wL rfl
   refine runs k hkj.1 hbk fun e=>?_;obtain⟨g2,_,N7⟩:=I.wk k hkj.1;rw[hbk]at N7;cases N7 with
   |run f h1=>rw[e]at h1;cases h1
   |lib h1 h2 h3=>rw[h3]at wL;exact wL rfl
end
def Oo(X:Ph)(gs:Array au)(w:af)(t:Trace):Prop:=∃K j M D B x v gw qs a f,Inv X K j M D B x v gw qs gs w t/\gs[0]?=some a/\X.tY ⟨M.own,.mn M.c,f⟩ a w/\1<=K
def Mj{X:Ph}(hX:qy X)(μ:Nat×Nat):∀(gs:Array au) (w:af) (sl:Option (Nat×Nat)) (t:Trace),Uc X μ gs w t->∃N gs' w' sl' t',runNT X.P N (crowd gs w sl) t=(.next (crowd gs' w' sl'),t')/\Oo X gs' w' t':=by
 induction μ using Ys.induction with
 |_ μ ih=>
  intro gs w sl t hI;obtain⟨K,j,M,D,B,x,v,gw,qs,hK,I,rfl⟩:=hI;obtain⟨idx,g,d,sl',hg,hrun,hst⟩:=crowd_pick (P:=X.P) (w:=w) (sl:=sl) (I.awake hX hK) (I.live hX hK);have I2:=I.at d;have acY:(w.at d).at w.drawn=w:=rfl;have next:Nx X (lg X j M D x v,F7 X j M D B qs) gs (w.at d) sl' t idx->∃N gs' w' sl' t',runNT X.P N (crowd gs w sl) t=(.next (crowd gs' w' sl'),t')/\Oo X gs' w' t':=by rintro⟨gs',w',ops,μ',h1,h2,h3⟩;obtain⟨N,ZK,w2,Sp,t2,h4,h5⟩:=ih μ' h2 gs' w' sl' (t++ops) h3;exact⟨N+1,ZK,w2,Sp,t2,by simp only[runNT,hst,h1];exact h4,h5⟩
  rcases I2.who hg with rfl|⟨h1,h2⟩|⟨i,hi,rfl⟩
  ·obtain⟨a,ha,hj⟩:=I2.main;rw[hg]at ha;cases ha;have hb:B 0=false:=by
    cases hb:B 0 with
    |false=>rfl
    |true=>rw[hb]at hj;have:=hj.status hX hK;rw[hrun]at this;cases this
   rw[hb]at hj;cases hj with
   |run f hf hG=>
    rcases Inv.Q0 (sl:=sl') hX hK I2 hg hb hf hG with h|h|h
    ·exact⟨0,gs,w,sl,t,rfl,K,j,M,D,B,x,v,gw,qs,g,f,I,hg,hX.two _ _ _ _ h (QV X.L0 ⟨M.own,.mn M.c,f⟩ (w.at d) w.drawn),hK⟩
    ·exact next (Inv.Mt hX hK I2 hg hf h)
    ·exact next h
  ·exact next (Inv.Ms hX hK I2 h1 h2 hg hrun)
  ·obtain⟨g0,DF,hw⟩:=I2.wk i hi;rw[hg]at DF;cases DF;have hb:B (X.off+(i+1))=false:=by
    cases hb:B (X.off+(i+1))with
    |false=>rfl
    |true=>rw[hb]at hw;have:=hw.status hK;simp only[if_true]at this;rw[hrun]at this;cases this
   rw[hb]at hw;cases hw with
   |run f h1 h2 h3 h4=>
    rcases Inv.Um (sl:=sl') hX hK I2 hi hg hb h1 h2 h3 h4 with⟨μ',h5,K',j',M',D',B',x',v',j7,J1,hK',I',e⟩|h
    ·have I'':=I'.at w.drawn;rw[acY]at I'';exact ih μ' h5 gs w sl t ⟨K',j',M',D',B',x',v',j7,J1,hK',I'',e⟩
    ·exact next h
   |lib h1 h2 h3 h4 h5 h6=>exact next (Inv.Uo hX hK I2 hi hg h3 h4 h5 h6 hrun)
def Oo.facts{X:Ph}(hX:qy X){gs:Array au}(h:Oo X gs w t):
 ∃a f own q,gs.size=X.off+X.n+1/\gs[0]?=some a/\X.tY ⟨own,.mn .rt,f⟩ a w/\Leavers X.P t gs q/\td (fun l=>kU X.S l\/EX X.S.Wg l) t/\
  (∀p,p<X.S.np->dU (X.S.pt p) ⟨false,false,false,0⟩ 0 w)/\bU X.S.tw X.S.Wg ⟨0,false,0⟩ w/\(∀r,1<=r->r<=X.n->∀a u,X.Vx r a u->w.cell? a=some u)/\(∀(i:Nat) (op:MemOp),t[i]?=some op->op.g<=X.off+X.n)/\EC X.w0 w/\(∀b,own b->b<w.heap.size/\¬X.L0.Fx b/\¬X.S.is b/\¬X.S.Sb b):=by
 obtain⟨K,j,M,D,B,x,v,gw,qs,a,f,I,ha,hs,hK⟩:=h
 have E:=I.env
 have hc:M.c=.rt:=by have:=(hX.stop _ _ _ hs).1;simpa using this
 have DH:=E.wg.2
 rw[hc]at DH hs
 have hj:j=X.n:=by have h1:=zf.left DH;rw[Q1]at h1;simp only[Ct.left]at h1;have:=E.jn;omega
 subst hj
 have hq:∀i,i<X.n->(D i).st<=1:=fun i hi=>QZ (by have:=J2 DH hi;rwa [kZ hi]at this)
 have Yt:∀i,i<X.n->∃g,gs[X.off+(i+1)]?=some g/\(D i).T=.out/\(∀a u,(D i).V a u->w.cell? a=some u)/\QuitsD X.P (D i).fu (D i).df g:=fun i hi=>by
  obtain⟨g,hg,hw⟩:=I.wk i hi;have h1:=hq i hi;refine⟨g,hg,?_⟩;generalize B (X.off+(i+1))=bb at hw;cases hw with
  |run f h=>omega
  |gV f h=>omega
  |lib h1' h2 h3 h4 h5 h6=>
   refine⟨h3,h5,?_⟩;have hs1:(D i).st=1:=by omega
   rw[hs1]at h6;generalize (D i).fu=fu at h6⊢;generalize (D i).df=df at h6⊢;cases h6 with
   |quit h=>exact h
 refine⟨a,f,M.own,fun k=>if k<=X.off then qs k else(D (k-X.off-1)).fu,I.size,ha,hs,⟨fun i g hi hg=>?_,fun k hk=>?_⟩,?_,fun p hp=>?_,?_,fun r h1 h2 a u hu=>?_,fun i op h=>E.tr.gs i op h,E.kp,fun b hb=>⟨E.m7.vO 0 b (zce _) hb,E.m7.of 0 0 b (zce _) (zce _) hb,fun h=>(E.m7.sh 0 b (zce _) (.inl h)).1 hb,fun h=>(E.m7.sh 0 b (zce _) (.inr h)).1 hb⟩⟩
 ·rcases I.who hg with rfl|⟨h1,h2⟩|⟨k,hk,rfl⟩
  ·omega
  ·obtain⟨g',hg',hl⟩:=I.rG i h1 h2
   rw[hg]at hg'
   cases hg'
   simp only[h2,if_true]
   exact hl
  ·obtain⟨g',hg',_,_,hl⟩:=Yt k hk
   rw[hg]at hg'
   cases hg'
   have e1:¬(X.off+(k+1)<=X.off):=by omega
   have e2:X.off+(k+1)-X.off-1=k:=by omega
   simp only[e1,if_false,e2]
   rw[E.Ue k hk]
   exact hl
 ·exact E.Yo k (by rw[I.size]at hk;omega)
 ·obtain⟨q,h1,h2,h3,h4⟩:=E.acq hc
  refine E.tr.join (q:=q) (fun k k1 k2=>?_) E.Ml h1 h2 h3 (by rw[E.Vv,hc];rfl)
  obtain⟨r,hr,hrq⟩:=h4 (k-X.off-1) (by omega)
  have e:X.off+(k-X.off-1+1)=k:=by omega
  rw[e]at hr
  exact⟨r,hr,hrq⟩
 ·obtain⟨h1,h2⟩:=E.mu p hp
  obtain⟨e1,e2⟩:=h2.fin fun i hi=>by
   unfold iw;split
   ·obtain⟨_,_,h,_⟩:=Yt i hi;exact h
   ·rfl
  rw[e1,e2]at h1
  exact h1
 ·have:=zf.fin DH rfl rfl
  have e:gw=⟨0,false,0⟩:=by obtain⟨a,b,c⟩:=gw;simp only at this;rw[this.1,this.2.1,this.2.2.1]
  rw[<-e]
  exact E.wg.1
 ·obtain⟨_,_,_,hV,_⟩:=Yt (X.n-r) (by omega)
  have e:X.n-(X.n-r)=r:=by omega
  exact hV a u ((E.Ud (X.n-r) (by omega)).2 a u (by rw[e];exact hu))
end
end Go.Proofs.YteoahlieielcdaaGreat
