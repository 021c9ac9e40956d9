import Derived.Test.YteoahlieielcdaaGreatX6
import Derived.Test.YteoahlieielcdaaGreatJ12
import Derived.Test.YteoahlieielcdaaGreatZ4
import Derived.Test.YteoahlieielcdaaGreatPrF3
set_option linter.all false
set_option maxHeartbeats 8000000
set_option maxRecDepth 100000
open Option renaming some->Y,none->F,getD_some->aa0
open Bool renaming false->E,true->Z6
open Exists renaming intro->aa1
open Go.World renaming cell?->ad3,frozen?_setCell->ar3
open List renaming length_cons->al1,length_nil->ao7,size_toArray->aq6
open And renaming intro->ad1
open Go.Conc renaming mem_listed->ad5,listed_nil->ai1
open Ne renaming symm->aq3
namespace Go.Proofs.YteoahlieielcdaaGreat
open Go.Proofs.Tryz
abbrev zb6:=@RowKit.Below.heap_alloc
abbrev zb7:=@Nat.le_refl
abbrev zb8:=@Array.getElem?_eq_some_iff
abbrev zb9:=@World.cell?_setCell_other
abbrev zca:=@World.cell?_setCell_same
variable{a a':Act}{ds:List Deferred}{w W:af}{v:aj}{b ab i:Nat}{O O1 O':aL}{key val:ah}
section
open Go Go.Conc Go.RowKit Go.MuLone
variable {main:Bool}{J:Jm}{L:eI}
def BK(hd:a.defers=ds)(h:a.tmps.size=50):∃f:Nat->aj,a=⟨#[f 0,f 1,f 2,f 3,f 4,f 5,f 6,f 7,f 8,f 9,f 10,f 11,f 12,f 13,f 14,f 15,f 16,f 17,f 18,f 19,f 20,f 21,f 22,f 23,f 24,f 25,f 26,f 27,f 28,f 29,f 30,f 31,f 32,f 33,f 34,f 35,f 36,f 37,f 38,f 39,f 40,f 41,f 42,f 43,f 44,f 45,f 46,f 47,f 48,f 49],ds⟩/\∀i v,a.tmps[i]?=Y v->f i=v:=vp hd (pG a.tmps 50 h)
def sH.isIf{g:ah->Bool}(h:sH L w v g):AW v:=by
 cases h<;>first|exact .inl rfl|exact .inr ⟨_,_,rfl⟩
noncomputable def eC:Code:=f77.body.getD .skip
structure Et(a:Act)(pr:Nat)(key:ah):Prop where
 d:a.defers= []
 size:a.tmps.size=50
 g0:a.tmps[0]?=Y (.pointer (Y ⟨pr,0,F⟩))
 g1:a.tmps[1]?=Y (.string key)
def afd:∃n,∀(pr qm:Nat) (f:Lit->Option aj) (qb:ah->Nat) (p:ah->Prop) (wn:ah->Nat) (hv:ah->Bool) (tv:ah->ah) (ts:ah->aj) (fm:ah->ah->Bool) (key:ah) (O1:aL) (W:af) (O:aL) (a:Act) (w:af) (Q:eK),
 N9 L W pr qm f qb p wn hv tv ts fm->key.size<=1000->f (.string key.data.toList)=Y (.pointer (Y ⟨qb key,0,F⟩))->p key->Et a pr key->bJ L O1 W O w->
 cZ prog main J (RX L) (DX L) 77 (cA (cB eC)) n (bn (λO' a' w'=>Et a' pr key/\∃r,W.heap.size<=r/\a'.tmps[5]?=Y (.pointer (Y ⟨r,0,F⟩))/\bJ L O1 W O' w'/\OB r (.cells #[.int .i64 (wn key),.bool (hv key),.string (tv key),ts key] 144) O' w') Q) O a w:=by
 co_apply aa1;intro pr qm f qb p wn hv tv ts fm key O1 W O a w Q hQ hz hf hp hl hF;dsimp only[eC,cA,cB,cI,cT,cE,f77,aa0];obtain⟨hd,hsz,g0,g1⟩:=hl;obtain⟨fv,hT,aP⟩:=BK hd hsz;subst hT;simp only[aP 0 _ g0,aP 1 _ g1];clear hd hsz aP g0 g1;co_apply (iw);co_apply (kJ);intro _ hF;co_apply (kJ);intro _ hF;co_apply (kJ);intro _ hF;(co_apply aO rfl Ym;intro _ hR K hK;replace hF:=bJ.rely hF hR;clear hR;(have hc:=hF.bg hQ.cell hQ.fp);go_simp;refine hK _ ⟨?_,?_⟩;(focus(refine DX.still _ _ (cL (a:=⟨pr,4,F⟩) (.inl hQ.fp) λe he=>?_);have hm:=ad5 he;simp[go_sem,hc]at hm;exact hm));clear hK K;try walk_nrm);clear hc;co_apply (kJ);intro _ hF;co_apply HG rfl Ym _ _ 135 rfl 9 139 gx underlying9 underlying135 m7 qm f rfl hQ.fq (CR hQ.map hQ.fq hF.rel) key (.string key.data.toList) rfl (fQ (by unfold maxLen;omega)) _ hf;intro W2 hR;replace hF:=hF.rely hR;clear hR;walk_nrm;co_apply (kJ);intro _ hF;co_apply (kJ);intro _ hF;co_apply aO rfl Ym;intro W4 hR K hK;replace hF:=hF.rely hR;clear hR;have q2:=hF.bg (hQ.c2 key hp) (hQ.fx key hp);have q3:=hF.bg (hQ.c3 key hp) (hQ.fx key hp);have q4:=hF.bg (hQ.c4 key hp) (hQ.fx key hp);have q5:=hF.bg (hQ.c5 key hp) (hQ.fx key hp);have hg:=hQ.fx key hp;generalize wn key=n1 at *;generalize hv key=h1 at *;generalize tv key=t1 at *;have hs1:=(hQ.L2 key hp).isIf;generalize ts key=s1 at *;go_simp;refine hK _ ⟨?_,?_⟩
 ·refine DX.still _ _ (HP hg λe he=>?_);have hm:=ad5 he;simp[go_sem, *]at hm;rcases hm with rfl|rfl|rfl|rfl<;>exact⟨_,rfl,rfl⟩
 clear hK K q2 q3 q4 q5;try walk_nrm
 co_apply bM rfl Ym;intro W5 hR K hK;replace hF:=hF.rely hR;clear hR;go_simp;refine hK _ _ ⟨?_,?_⟩
 ·rw[ai1 YU];exact DX.alloc _ _ _
 clear hK K;try walk_nrm
 have hr:W.heap.size<=W5.heap.size:=hF.rel.le;have hH:=ad1 (hF.alloc (.cells #[.int .i64 0,.bool E,.string ⟨#[]⟩,.nilIface] 144)) (OB.new O W5 (.cells #[.int .i64 0,.bool E,.string ⟨#[]⟩,.nilIface] 144));clear hF;generalize (O.grow W5 (W5.alloc (.cells #[.int .i64 0,.bool E,.string ⟨#[]⟩,.nilIface] 144)))=O3 at hH⊢;generalize (W5.alloc (.cells #[.int .i64 0,.bool E,.string ⟨#[]⟩,.nilIface] 144))=W6 at hH⊢;generalize W5.heap.size=r at hH hr⊢;co_apply bM rfl Ym;intro W7 hR K hK;replace hH:=ad1 (hH.1.rely hR) (hH.2.rely hR);clear hR;have hA:aT W7 r #[.int .i64 0,.bool E,.string ⟨#[]⟩,.nilIface] 144:=hH.2.heap;have b0:=hA.cell (o:=0) (v:=.int .i64 0) rfl;have b1:=hA.cell (o:=1) (v:=.bool E) rfl;have b2:=hA.cell (o:=2) (v:=.string ⟨#[]⟩) rfl;have b3:=hA.cell (o:=3) (v:=.nilIface) rfl;have f0:=hA.frozen 0;have f1:=hA.frozen 1;have f2:=hA.frozen 2;have f3:=hA.frozen 3;have h1c:s1.oneCell'=Z6:=by rcases hs1 with rfl|⟨_,_,rfl⟩ <;>rfl
 have hA1:=hA.set 0 (.int .i64 (n1:Int));have hA2:=hA1.set 1 (.bool h1);have Eu:=hA2.set 2 (.string t1);have wH:=Eu.set 3 s1;have afe:(store ⟨r,3,F⟩ s1).run prog (((W7.setCell ⟨r,0,F⟩ (.int .i64 (n1:Int))).setCell ⟨r,1,F⟩ (.bool h1)).setCell ⟨r,2,F⟩ (.string t1))=.ok () ((((W7.setCell ⟨r,0,F⟩ (.int .i64 (n1:Int))).setCell ⟨r,1,F⟩ (.bool h1)).setCell ⟨r,2,F⟩ (.string t1)).setCell ⟨r,3,F⟩ s1):=by rw[run_store _ _ _ s1 _ h1c,Eu.cell (o:=3) (v:=.nilIface) rfl,Eu.frozen 3];rfl
 have hT:=(((ep.cell r 0 W7 (.int .i64 (n1:Int))).trans (ep.cell r 1 _ (.bool h1))).trans (ep.cell r 2 _ (.string t1))).trans (ep.cell r 3 _ s1);go_simp;try(unfold stored;go_simp)
 refine hK _ _ ⟨?_,?_⟩
 ·refine DX.own hH.2.own hT (cW (b:=Z6) hH.2.own λe he=>?_);have hm:=ad5 he;have E0:=λes=>lA (P:=prog) (v:=.int .i64 (n1:Int)) b0 f0 rfl es;have E1:=λes=>lA (P:=prog) (v:=.bool h1) (hA1.cell (o:=1) (v:=.bool E) rfl) (hA1.frozen 1) rfl es;have E2:=λes=>lA (P:=prog) (v:=.string t1) (hA2.cell (o:=2) (v:=.string ⟨#[]⟩) rfl) (hA2.frozen 2) rfl es;have E3:=λes=>lA (P:=prog) (v:=s1) (Eu.cell (o:=3) (v:=.nilIface) rfl) (Eu.frozen 3) h1c es;clear hQ hA hA1 hA2 Eu wH hH hT hs1;simp[go_sem, *]at hm;rcases hm with rfl|rfl|rfl|rfl<;>exact⟨_,rfl,rfl⟩
 clear hK K;have hE:bJ L O1 W O3 ((((W7.setCell ⟨r,0,F⟩ (.int .i64 (n1:Int))).setCell ⟨r,1,F⟩ (.bool h1)).setCell ⟨r,2,F⟩ (.string t1)).setCell ⟨r,3,F⟩ s1)/\OB r (.cells #[.int .i64 (n1:Int),.bool h1,.string t1,s1] 144) O3 ((((W7.setCell ⟨r,0,F⟩ (.int .i64 (n1:Int))).setCell ⟨r,1,F⟩ (.bool h1)).setCell ⟨r,2,F⟩ (.string t1)).setCell ⟨r,3,F⟩ s1):=⟨hT.ya hH.1 hr,hH.2.own,by simpa[aT]using wH⟩
 rw[O3.dG hT.size];clear hH hA hA1 hA2 Eu wH b0 b1 b2 b3 f0 f1 f2 f3 hT afe;generalize ((((W7.setCell ⟨r,0,F⟩ (.int .i64 (n1:Int))).setCell ⟨r,1,F⟩ (.bool h1)).setCell ⟨r,2,F⟩ (.string t1)).setCell ⟨r,3,F⟩ s1)=W8 at hE⊢;try walk_nrm
 co_apply (iw);exact⟨⟨rfl,rfl,rfl,rfl⟩,r,hr,rfl,hE.1,hE.2⟩
def aff:∃n,∀(pr r:Nat) (n1:Nat) (h1:Bool) (t1:ah) (s1:aj) (key:ah) (O1:aL) (W:af) (O:aL) (a:Act) (w:af) (Q:eK),
 Et a pr key->a.tmps[5]?=Y (.pointer (Y ⟨r,0,F⟩))->bJ L O1 W O w->OB r (.cells #[.int .i64 n1,.bool h1,.string t1,s1] 144) O w->
 (n1≠0->h1=E->∀O' a' w',a'.defers= []->a'.tmps[4]?=Y (.bool E)->bJ L O1 W O' w'->Q O' .ret a' w')->
 cZ prog main J (RX L) (DX L) 77 (cA (cB (cB eC))) n (bn (λO' a' w'=>¬(n1≠0/\h1=E)/\Et a' pr key/\a'.tmps[5]?=Y (.pointer (Y ⟨r,0,F⟩))/\bJ L O1 W O' w'/\OB r (.cells #[.int .i64 n1,.bool h1,.string t1,s1] 144) O' w') Q) O a w:=by
 co_apply aa1;intro pr r n1 h1 t1 s1 key O1 W O a w Q hl g5 hF hB hQ;dsimp only[eC,cA,cB,cI,cT,cE,f77,aa0];obtain⟨hd,hsz,g0,g1⟩:=hl;obtain⟨fv,hT,aP⟩:=BK hd hsz;subst hT;simp only[aP 0 _ g0,aP 1 _ g1,aP 5 _ g5];clear hd hsz aP g0 g1 g5;have hG:=ad1 hF hB;clear hF hB;have hQ':Hid (n1≠0->h1=E->∀O' a' w',a'.defers= []->a'.tmps[4]?=Y (.bool E)->bJ L O1 W O' w'->Q O' .ret a' w'):=hQ;clear hQ;have rl:∀{o:Obj} {O2:aL} {Wa Wb:af},(bJ L O1 W O2 Wa/\OB r o O2 Wa)->RX L O2 Wa Wb->(bJ L O1 W O2 Wb/\OB r o O2 Wb):=λh x=>⟨h.1.rely x,h.2.rely x⟩
 have TF:∀{Wa:af} {O2:aL},OB r (.cells #[.int .i64 (n1:Int),.bool h1,.string t1,s1] 144) O2 Wa->Wa.cell? ⟨r,0,F⟩=Y (.int .i64 (n1:Int)):=λx=>by simp[ad3,x.heap]
 have Pb:∀{Wa:af} {O2:aL},OB r (.cells #[.int .i64 (n1:Int),.bool h1,.string t1,s1] 144) O2 Wa->Wa.cell? ⟨r,1,F⟩=Y (.bool h1):=λx=>by simp[ad3,x.heap]
 co_apply aM (aF L) (λO' a' w'=>a'.defers= []/\a'.tmps.size=50/\a'.tmps[0]?=Y (.pointer (Y ⟨pr,0,F⟩))/\a'.tmps[1]?=Y (.string key)/\a'.tmps[5]?=Y (.pointer (Y ⟨r,0,F⟩))/\a'.tmps[24]?=Y (.bool (!decide (n1=0)&& !h1))/\bJ L O1 W O' w'/\OB r (.cells #[.int .i64 n1,.bool h1,.string t1,s1] 144) O' w')
 ·co_apply (iw);co_apply (oZ);intro _ hG;(co_apply aO rfl Ym;intro _ hR K hK;replace hG:=rl hG hR;clear hR;(have hc:=TF hG.2);go_simp;refine hK _ ⟨?_,?_⟩;(focus(refine DX.still _ _ (cW (b:=E) hG.2.own λe he=>?_);have hm:=ad5 he;simp[go_sem,hc]at hm;subst hm;exact⟨_,rfl,rfl⟩));clear hK K;try walk_nrm);clear hc;co_apply (oZ);intro _ hG;by_cases h0:n1=0
  ·have e1:((n1:Int)!= 0)=E:=by simp[h0]
   simp only[e1];co_apply (oZ);intro _ hG;(co_apply (TE);try walk_nrm);(co_apply (TE);try walk_nrm);(co_apply (TE);try walk_nrm);co_apply (oZ);intro _ hG;co_apply (iw);exact⟨Z5,rfl,rfl,rfl,rfl,by simp[h0],hG.1,hG.2⟩
  ·have e1:((n1:Int)!= 0)=Z6:=by simp;omega
   simp only[e1];co_apply (oZ);intro _ hG;co_apply (oZ);intro _ hG;(co_apply aO rfl Ym;intro _ hR K hK;replace hG:=rl hG hR;clear hR;(have hc:=Pb hG.2);go_simp;refine hK _ ⟨?_,?_⟩;(focus(refine DX.still _ _ (cW (b:=E) hG.2.own λe he=>?_);have hm:=ad5 he;simp[go_sem,hc]at hm;subst hm;exact⟨_,rfl,rfl⟩));clear hK K;try walk_nrm);clear hc;co_apply (oZ);intro _ hG;co_apply (oZ);intro _ hG;co_apply (iw);exact⟨Z5,rfl,rfl,rfl,rfl,by simp[h0],hG.1,hG.2⟩
 ·rintro O' ⟨tms,Ew⟩ w' ⟨hd,hsz,g0,g1,g5,yd,hF,hB⟩;simp only at hd hsz g0 g1 g5 yd;subst hd;co_apply aW (aF L) (t:=!decide (n1=0)&& !h1)
  ·simp[Act.eval,yd]
  ·intro ht;have hn:n1≠0/\h1=E:=by simpa using ht
   co_apply (iw);co_apply (kJ);intro _ hF;co_apply (iw);exact hQ'.out hn.1 hn.2 _ _ _ rfl (by simp[hsz]) hF
  ·intro ht;co_apply (iw);exact⟨λh=>by simp[h.1,h.2]at ht,⟨rfl,hsz,g0,g1⟩,g5,hF,hB⟩
end
section
open Go Go.Conc Go.RowKit Go.MuLone Go.Maps
variable {main:Bool}{J:Jm}{L:eI}
def afg:∃n,∀(pr qm:Nat) (f:Lit->Option aj) (qb:ah->Nat) (p:ah->Prop) (wn:ah->Nat) (hv:ah->Bool) (tv:ah->ah) (ts:ah->aj) (fm:ah->ah->Bool) (nn:Nat) (D:DataW aj) (r:Nat) (ob:Obj) (key:ah) (O1:aL) (W:af) (O:aL) (a:Act) (w:af) (Q:eK),
 N9 L W pr qm f qb p wn hv tv ts fm->W.ownsMap prog 9 aY qm nn D->Et a pr key->a.tmps[5]?=Y (.pointer (Y ⟨r,0,F⟩))->bJ L O1 W O w->OB r ob O w->
 cZ prog main J (RX L) (DX L) 77 (cA (cA (cB (cB (cB eC))))) n (bn (λO' a' w'=>Et a' pr key/\a'.tmps[5]?=Y (.pointer (Y ⟨r,0,F⟩))/\∃it,W.heap.size<=it/\it≠r/\O'.own it/\a'.tmps[29]?=Y (.pointer (Y ⟨it,0,F⟩))/\bJ L O1 W O' w'/\OB r ob O' w'/\w'.ranges prog 9 aY qm it nn D (Maps.has D) (Maps.size D)) Q) O a w:=by
 co_apply aa1;intro pr qm f qb p wn hv tv ts fm nn D r ob key O1 W O a w Q hQ hown hl g5 hF hB;dsimp only[eC,cA,cB,cI,cT,cE,f77,aa0];obtain⟨hd,hsz,g0,g1⟩:=hl;obtain⟨fv,hT,aP⟩:=BK hd hsz;subst hT;simp only[aP 0 _ g0,aP 1 _ g1,aP 5 _ g5];clear hd hsz aP g0 g1 g5;have hG:=ad1 hF hB;clear hF hB;have rl:∀{o:Obj} {O2:aL} {Wa Wb:af},(bJ L O1 W O2 Wa/\OB r o O2 Wa)->RX L O2 Wa Wb->(bJ L O1 W O2 Wb/\OB r o O2 Wb):=λh x=>⟨h.1.rely x,h.2.rely x⟩
 co_apply (iw);co_apply (oZ);intro _ hG;co_apply (oZ);intro _ hG;co_apply (oZ);intro _ hG;(co_apply aO rfl Ym;intro _ hR K hK;replace hG:=rl hG hR;clear hR;(have hc:=hG.1.bg hQ.cell hQ.fp);go_simp;refine hK _ ⟨?_,?_⟩;(focus(refine DX.still _ _ (cL (a:=⟨pr,4,F⟩) (.inl hQ.fp) λe he=>?_);have hm:=ad5 he;simp[go_sem,hc]at hm;exact hm));clear hK K;try walk_nrm);clear hc;co_apply EV rfl Ym _ 135 rfl 9 139 gx underlying135 qm nn D Ym hQ.fq (yR hown hQ.fq hG.1.rel);rintro W1 W2 hR ⟨o2,rfl⟩ m6;replace hG:=rl hG hR;clear hR;have hit:W.heap.size<=W1.heap.size:=hG.1.rel.le;have hne:W1.heap.size≠r:=Nat.ne_of_gt hG.2.lt;have hnew:(O.grow W1 (W1.alloc o2)).own W1.heap.size:=.inr ⟨zb7 _,by rw[yf];omega⟩;have hE:=ad1 (hG.1.alloc o2) (hG.2.alloc o2);clear hG;generalize (O.grow W1 (W1.alloc o2))=O2 at hE hnew⊢;generalize (W1.alloc o2)=W2 at hE m6⊢;generalize W1.heap.size=it at hit hne hnew m6⊢;try walk_nrm
 co_apply (iw);exact⟨⟨rfl,rfl,rfl,rfl⟩,rfl,it,hit,hne,hnew,rfl,hE.1,hE.2,m6⟩
noncomputable def HY:Code:=cI (cI (cB (cA (cB (cB (cB eC))))))
def afh:∃n,∀(pr qm:Nat) (f:Lit->Option aj) (qb:ah->Nat) (p:ah->Prop) (nn:Nat) (D:DataW aj) (left:Lit->Bool) (cnt:Nat) (r it:Nat) (ob:Obj) (key:ah) (O1:aL) (W:af) (O:aL) (a:Act) (w:af) (Q:eK),
 L.Fx qm->Says D f->(∀x u,f (.string x.data.toList)=Y u->u=.pointer (Y ⟨qb x,0,F⟩)/\p x)->Et a pr key->a.tmps[5]?=Y (.pointer (Y ⟨r,0,F⟩))->a.tmps[29]?=Y (.pointer (Y ⟨it,0,F⟩))->W.heap.size<=it->it≠r->O.own it->bJ L O1 W O w->OB r ob O w->w.ranges prog 9 aY qm it nn D left cnt->
 cZ prog main J (RX L) (DX L) 77 (cA HY) n (bn (λO' a' w'=>Et a' pr key/\a'.tmps[5]?=Y (.pointer (Y ⟨r,0,F⟩))/\a'.tmps[29]?=Y (.pointer (Y ⟨it,0,F⟩))/\O'.own it/\bJ L O1 W O' w'/\OB r ob O' w'/\
  ((a'.tmps[31]?=Y (.bool E)/\∀kl,left kl=E)\/(a'.tmps[31]?=Y (.bool Z6)/\∃(x:ah) (cnt':Nat),p x/\left (.string x.data.toList)=Z6/\cnt'<cnt/\w'.ranges prog 9 aY qm it nn D (λz=>left z && !z.sameKey (.string x.data.toList)) cnt'/\(Instr.entry (.pointer (Y ⟨it,0,F⟩))).run prog w'=.ok (.tuple #[.string x,.pointer (Y ⟨qb x,0,F⟩)]) w'))) Q) O a w:=by
 co_apply aa1
 intro pr qm f qb p nn D left cnt r it ob key O1 W O a w Q Oa hs Xr hl g5 GZ hit hne hown hF hB m6
 dsimp only[HY,eC,cA,cB,cI,cT,cE,f77,aa0]
 obtain⟨hd,hsz,g0,g1⟩:=hl
 obtain⟨fv,hT,aP⟩:=BK hd hsz
 subst hT
 simp only[aP 0 _ g0,aP 1 _ g1,aP 5 _ g5,aP 29 _ GZ]
 clear hd hsz aP g0 g1 g5 GZ
 have rl:∀{o:Obj} {O2:aL} {Wa Wb:af},(bJ L O1 W O2 Wa/\OB r o O2 Wa)->RX L O2 Wa Wb->(bJ L O1 W O2 Wb/\OB r o O2 Wb):=λh x=>⟨h.1.rely x,h.2.rely x⟩
 co_apply (iw)
 co_apply Hz rfl Ym _ rfl 9 gx underlying9 qm it nn D f hs qb p Xr left cnt Ym Oa hown m6
 ·intro W1 hR hall
  have hG:=rl (ad1 hF hB) hR
  clear hR hF hB m6
  try walk_nrm
  co_apply (oZ);intro _ hG
  co_apply (iw)
  exact⟨⟨rfl,rfl,rfl,rfl⟩,rfl,rfl,hown,hG.1,hG.2,.inl ⟨rfl,hall⟩⟩
 ·intro W1 hR x W2 cnt' hp L3 Pd hlt hT tI
  have hG:=rl (ad1 hF hB) hR
  clear hR hF hB m6
  have hE:=ad1 (hT.ya hG.1 hit) (hT.ob hG.2 (aq3 hne))
  clear hG
  have hH:Hid (w.heap.size=w.heap.size):=rfl
  have jd:qm<W2.heap.size:=Pd.owns.lt
  have fG:it<W2.heap.size:=Pd.lt
  try walk_nrm
  co_apply aO rfl Ym
  intro W3 hR K hK
  have afi:=mZ Pd Oa hown hR
  have afj:(Instr.entry (.pointer (Y ⟨it,0,F⟩))).run prog W3=.ok (.tuple #[.string x,.pointer (Y ⟨qb x,0,F⟩)]) W3:=by obtain⟨es,clock,since,seen,c0,L1,_,_,_,Xq,_⟩:=Pd;exact entry_eq Xq L1 ((hR.blk it fG (.inl hown)).trans Xq) ((hR.blk qm jd (.inr Oa)).trans L1) tI
  replace hE:=rl hE hR
  clear hR Pd tI
  go_simp
  refine hK _ ⟨?_,?_⟩
  ·(rw[ai1 YU];exact DX.idle _ _)
  clear hK K
  try walk_nrm
  co_apply (iw)
  exact⟨⟨rfl,rfl,rfl,rfl⟩,rfl,rfl,hown,hE.1,hE.2,.inr ⟨rfl,x,cnt',hp,L3,hlt,afi,afj⟩⟩
def afk:∃n,∀(pr qm:Nat) (qx:Nat) (x:ah) (nn:Nat) (D:DataW aj) (left:Lit->Bool) (cnt:Nat) (r it:Nat) (ob:Obj) (key:ah) (O1:aL) (W:af) (O:aL) (a:Act) (w:af) (Q:eK),
 L.Fx qm->Et a pr key->a.tmps[5]?=Y (.pointer (Y ⟨r,0,F⟩))->a.tmps[29]?=Y (.pointer (Y ⟨it,0,F⟩))->O.own it->bJ L O1 W O w->OB r ob O w->w.ranges prog 9 aY qm it nn D left cnt->(Instr.entry (.pointer (Y ⟨it,0,F⟩))).run prog w=.ok (.tuple #[.string x,.pointer (Y ⟨qx,0,F⟩)]) w->
 cZ prog main J (RX L) (DX L) 77 (cA (cI (cB (cB HY)))) n (bn (λO' a' w'=>Et a' pr key/\a'.tmps[5]?=Y (.pointer (Y ⟨r,0,F⟩))/\a'.tmps[29]?=Y (.pointer (Y ⟨it,0,F⟩))/\a'.tmps[7]?=Y (.pointer (Y ⟨qx,0,F⟩))/\O'.own it/\bJ L O1 W O' w'/\OB r ob O' w'/\w'.ranges prog 9 aY qm it nn D left cnt) Q) O a w:=by
 co_apply aa1;intro pr qm qx x nn D left cnt r it ob key O1 W O a w Q Oa hl g5 GZ hown hF hB m6 tI;dsimp only[HY,eC,cA,cB,cI,cT,cE,f77,aa0];obtain⟨hd,hsz,g0,g1⟩:=hl;obtain⟨fv,hT,aP⟩:=BK hd hsz;subst hT;simp only[aP 0 _ g0,aP 1 _ g1,aP 5 _ g5,aP 29 _ GZ];clear hd hsz aP g0 g1 g5 GZ;have hG:=ad1 (ad1 hF hB) m6;clear hF hB;have rl:∀{o:Obj} {Wa Wb:af},((bJ L O1 W O Wa/\OB r o O Wa)/\Wa.ranges prog 9 aY qm it nn D left cnt)->RX L O Wa Wb->((bJ L O1 W O Wb/\OB r o O Wb)/\Wb.ranges prog 9 aY qm it nn D left cnt):=λh x=>⟨⟨h.1.1.rely x,h.1.2.rely x⟩,mZ h.2 Oa hown x⟩
 co_apply (iw);co_apply EW rfl Ym _ rfl qm it nn D left cnt Ym Oa hown m6 tI;intro W1 hR;replace hG:=rl hG hR;clear hR m6 tI;try walk_nrm
 co_apply (oZ);intro _ hG;co_apply (oZ);intro _ hG;co_apply (iw);exact⟨⟨rfl,rfl,rfl,rfl⟩,rfl,rfl,rfl,hown,hG.1.1,hG.1.2,hG.2⟩
def VW(L:eI)(W:af)(r:Nat)(ob:Obj)(w:af):Prop:=jq L W w/\w.heap[r]?=Y ob
def afp:∃n,∀(pr qm:Nat) (qx nx n1:Nat) (hx h1:Bool) (tx t1:ah) (sx s1:aj) (fx:ah->Bool) (nn:Nat) (D:DataW aj) (left:Lit->Bool) (cnt:Nat) (r it:Nat) (key:ah) (O1:aL) (W:af) (O:aL) (a:Act) (w:af) (Q:eK),
 L.Fx qm->L.Fx qx->W.cell? ⟨qx,2,F⟩=Y (.int .i64 nx)->W.cell? ⟨qx,3,F⟩=Y (.bool hx)->W.cell? ⟨qx,4,F⟩=Y (.string tx)->W.cell? ⟨qx,5,F⟩=Y sx->sH L W sx fx->key.size<=1000->Et a pr key->a.tmps[5]?=Y (.pointer (Y ⟨r,0,F⟩))->a.tmps[29]?=Y (.pointer (Y ⟨it,0,F⟩))->a.tmps[7]?=Y (.pointer (Y ⟨qx,0,F⟩))->W.heap.size<=r->O.own it->bJ L O1 W O w->OB r (.cells #[.int .i64 n1,.bool h1,.string t1,s1] 144) O w->w.ranges prog 9 aY qm it nn D left cnt->
 (n1<nx->fx key=Z6->∀O' a' w',a'.defers= []->a'.tmps[4]?=Y (.bool E)->bJ L O1 W O' w'->Q O' .ret a' w')->
 cZ prog main J (RX L) (DX L) 77 (cB (cI (cB (cB HY)))) n (bn (λO' a' w'=>¬(n1<nx/\fx key=Z6)/\Et a' pr key/\a'.tmps[5]?=Y (.pointer (Y ⟨r,0,F⟩))/\a'.tmps[29]?=Y (.pointer (Y ⟨it,0,F⟩))/\O'.own it/\bJ L O1 W O' w'/\OB r (.cells #[.int .i64 n1,.bool h1,.string t1,s1] 144) O' w'/\w'.ranges prog 9 aY qm it nn D left cnt) Q) O a w:=by
 obtain⟨nm,hmay⟩:=aaV (main:=main) (J:=J) (L:=L);co_apply aa1;intro pr qm qx nx n1 hx h1 tx t1 sx s1 fx nn D left cnt r it key O1 W O a w Q Oa Kz c2 c3 c4 c5 afq hz hl g5 GZ g7 hrW hown hF hB m6 hQ;dsimp only[HY,eC,cA,cB,cI,cT,cE,f77,aa0];obtain⟨hd,hsz,g0,g1⟩:=hl;obtain⟨fv,hT,aP⟩:=BK hd hsz;subst hT;simp only[aP 0 _ g0,aP 1 _ g1,aP 5 _ g5,aP 29 _ GZ,aP 7 _ g7];clear hd hsz aP g0 g1 g5 GZ g7;have hQ':Hid (n1<nx->fx key=Z6->∀O' a' w',a'.defers= []->a'.tmps[4]?=Y (.bool E)->bJ L O1 W O' w'->Q O' .ret a' w'):=hQ;clear hQ;have hG:=ad1 (ad1 hF hB) m6;clear hF hB m6;have rl:∀{o:Obj} {O2:aL} {Wa Wb:af},O2.own it->((bJ L O1 W O2 Wa/\OB r o O2 Wa)/\Wa.ranges prog 9 aY qm it nn D left cnt)->RX L O2 Wa Wb->((bJ L O1 W O2 Wb/\OB r o O2 Wb)/\Wb.ranges prog 9 aY qm it nn D left cnt):=λho h x=>⟨⟨h.1.1.rely x,h.1.2.rely x⟩,mZ h.2 Oa ho x⟩
 have akp:r<w.heap.size:=hG.1.2.lt;have hSR:∀(O':aL) (x y:af),(∀i,O.own i->O'.own i)->VW L W r (.cells #[.int .i64 (n1:Int),.bool h1,.string t1,s1] 144) x->RX L O' x y->VW L W r (.cells #[.int .i64 (n1:Int),.bool h1,.string t1,s1] 144) y:=
  λO' x y hO hx hr=>⟨hx.1.rely hr,(hr.blk r (zb8.1 hx.2).1 (.inl (hO r hG.1.2.own))).trans hx.2⟩
 have Xv:∀{x:af},VW L W r (.cells #[.int .i64 (n1:Int),.bool h1,.string t1,s1] 144) x->x.cell? ⟨r,0,F⟩=Y (.int .i64 (n1:Int)):=λh=>by simp[ad3,h.2]
 co_apply pN (aF L);co_apply gF (aF L) DX.draw (c:=nm+Er) (O0:=O) (S:=VW L W r (.cells #[.int .i64 (n1:Int),.bool h1,.string t1,s1] 144)) (by unfold Er;omega) (by first|kernel_rfl|rfl);intro W1 hR;replace hG:=rl hown (rl hown hG hR) (RX.draw _ _);clear hR;simp only[aq6,al1,ao7,Nat.reduceAdd,Nat.zero_add];co_applyP SQ hSR (λ_ _ _ _ h r=>lB (aF L) h r) (λ_ h=>h) ⟨jq.of hG.1.1.rel,hG.1.2.heap⟩;intro hb;(co_applyP (qP hb (i:=0));try walk_nrm);(co_applyP (qP hb (i:=1));try walk_nrm);(co_applyP (qP hb (i:=2));try walk_nrm);(co_applyP (qP hb (i:=3));try walk_nrm);(co_applyP BL hb (i:=4) rfl Yl Ym (λ_ _ hO hw=>?b5);(case b5=>((have hc:=jq.bg hw.1 c2 Kz);refine⟨λK hK=>?_,?_⟩;(focus(go_simp;exact hK));(refine DX.still _ _ (cL (a:=⟨qx,2,F⟩) (.inl Kz) λe he=>?_);have hm:=ad5 he;simp[go_sem,hc]at hm;exact hm)));try walk_nrm);(co_applyP (qP hb (i:=5));try walk_nrm);(co_applyP BL hb (i:=6) rfl Yl Ym (λ_ _ hO hw=>?b7);(case b7=>((have hc:=Xv hw);refine⟨λK hK=>?_,?_⟩;(focus(go_simp;exact hK));(refine DX.still _ _ (cW (b:=E) (hO _ hG.1.2.own) λe he=>?_);have hm:=ad5 he;simp[go_sem,hc]at hm;exact⟨_,hm,rfl⟩)));try walk_nrm);(co_applyP (qP hb (i:=7));try walk_nrm);by_cases hlt:n1<nx
 ·have e1:decide (n1<nx)=Z6:=by simp[hlt]
  simp only[e1];clear e1;(co_applyP (qP hb (i:=8));try walk_nrm);(co_applyP (qP hb (i:=9));try walk_nrm);(co_applyP (qP hb (i:=10));try walk_nrm);(co_applyP (qP hb (i:=11));try walk_nrm);(co_applyP BL hb (i:=12) rfl Yl Ym (λ_ _ hO hw=>?b13);(case b13=>((have q2:=jq.bg hw.1 c2 Kz;have q3:=jq.bg hw.1 c3 Kz;have q4:=jq.bg hw.1 c4 Kz;have q5:=jq.bg hw.1 c5 Kz);refine⟨λK hK=>?_,?_⟩;(focus(go_simp;exact hK));(refine DX.still _ _ (HP Kz λe he=>?_);have hm:=ad5 he;simp[go_sem,q2,q3,q4,q5]at hm;rcases hm with rfl|rfl|rfl|rfl<;>exact⟨_,rfl,rfl⟩)));try walk_nrm);(co_applyP (qP hb (i:=13));try walk_nrm);refine ko (rs:= [14]) Yl XI λi hi=>?_;obtain rfl:i=14:=by simpa using hi
  refine .inr ⟨116,_,_,nm,_,zb7 _,rfl,by walk_nrm;exact hmay key (nx:Int) hx tx sx fx _ _ (afq.rx hG.1.1.rel) hz hG.1.1.top,?_⟩;rintro O2 y W2 ⟨rfl,hF2⟩;have jm:(∀i,O.own i->O2.own i)/\((bJ L O1 W O2 W2/\OB r (.cells #[.int .i64 (n1:Int),.bool h1,.string t1,s1] 144) O2 W2)/\W2.ranges prog 9 aY qm it nn D left cnt):=⟨hF2.own,⟨hG.1.1.trans hF2,hG.1.2.ya hF2⟩,mZ hG.2 Oa hown hF2.rel⟩
  have aaZ:O2.own it:=hF2.own _ hown;clear hG hF2;refine⟨⟨jm.1,jq.of jm.2.1.1.rel,jm.2.1.2.heap⟩,?_⟩;walk_nrm;co_applyP SQ hSR (λ_ _ _ _ h r=>lB (aF L) h r) jm.1 ⟨jq.of jm.2.1.1.rel,jm.2.1.2.heap⟩;intro hb;(co_applyP (qP hb (i:=15));try walk_nrm);refine kY Yl ?_ _;replace hG:=jm.2;clear jm;co_then;co_apply aW (aF L) (t:=fx key)
  ·simp[Act.eval]
  ·intro ht;have hG1:=hG.1.1;clear hG;co_apply (iw);(co_apply (vu);intro _ hR;replace hG1:=hG1.rely hR;clear hR;refine⟨YU,λK z=>?_⟩;go_simp;refine z _ ?_;clear z K;try walk_nrm);co_apply (iw);exact hQ'.out hlt ht _ _ _ rfl rfl hG1
  ·intro ht;co_apply (iw);exact⟨(λh=>by rw[h.2]at ht;cases ht),⟨rfl,rfl,rfl,rfl⟩,rfl,rfl,aaZ,hG.1.1,hG.1.2,hG.2⟩
 ·have e1:decide (n1<nx)=E:=by simp[hlt]
  simp only[e1];clear e1;co_applyP SQ hSR (λ_ _ _ _ h r=>lB (aF L) h r) (λ_ h=>h) ⟨jq.of hG.1.1.rel,hG.1.2.heap⟩;intro hb;(co_applyP (qP hb (i:=8));try walk_nrm);(co_applyP Zz hb (i:=9) rfl Yl Ym;try walk_nrm);(co_applyP Zz hb (i:=10) rfl Yl Ym;try walk_nrm);(co_applyP Zz hb (i:=11) rfl Yl Ym;try walk_nrm);(co_applyP Zz hb (i:=12) rfl Yl Ym;try walk_nrm);(co_applyP Zz hb (i:=13) rfl Yl Ym;try walk_nrm);(co_applyP Zz hb (i:=14) rfl Yl Ym;try walk_nrm);(co_applyP (qP hb (i:=15));try walk_nrm);refine kY Yl ?_ _;co_then;co_apply aW (aF L) (t:=E)
  ·simp[Act.eval]
  ·intro ht;cases ht
  ·intro ht;co_apply (iw);exact⟨λh=>hlt h.1,⟨rfl,rfl,rfl,rfl⟩,rfl,rfl,hown,hG.1.1,hG.1.2,hG.2⟩
def yS(p:ah->Prop)(wn:ah->Nat)(hv:ah->Bool)(fm:ah->ah->Bool)(key:ah):Prop:=
 ¬(wn key≠0/\hv key=E)/\∀x,p x->¬(wn key<wn x/\fm x key=Z6)
def TG{x y:ah}(h:Lit.string x.data.toList=Lit.string y.data.toList):x=y:=by injection h with h;exact ByteArray.ext (Array.toList_inj.1 h)
def Pg:∃n,∀(pr qm:Nat) (f:Lit->Option aj) (qb:ah->Nat) (p:ah->Prop) (wn:ah->Nat) (hv:ah->Bool) (tv:ah->ah) (ts:ah->aj) (fm:ah->ah->Bool) (nn:Nat) (D:DataW aj) (r it:Nat) (key:ah) (O1:aL) (W:af) (Q:eK),
 N9 L W pr qm f qb p wn hv tv ts fm->Says D f->key.size<=1000->W.heap.size<=r->W.heap.size<=it->it≠r->
 ((∃x,p x/\wn key<wn x/\fm x key=Z6)->∀O' a' w',a'.defers= []->a'.tmps[4]?=Y (.bool E)->bJ L O1 W O' w'->Q O' .ret a' w')->
 ((∀x,p x->¬(wn key<wn x/\fm x key=Z6))->∀O' a' w',Et a' pr key->bJ L O1 W O' w'->Q O' (.exit 0) a' w')->
 ∀(j:Nat) (O:aL) (a:Act) (w:af),
 (∃(left:Lit->Bool) (cnt:Nat),cnt<=j/\Et a pr key/\a.tmps[5]?=Y (.pointer (Y ⟨r,0,F⟩))/\a.tmps[29]?=Y (.pointer (Y ⟨it,0,F⟩))/\O.own it/\bJ L O1 W O w/\OB r (.cells #[.int .i64 (wn key),.bool (hv key),.string (tv key),ts key] 144) O w/\w.ranges prog 9 aY qm it nn D left cnt/\∀x,p x->left (.string x.data.toList)=E->¬(wn key<wn x/\fm x key=Z6))->
 cZ prog main J (RX L) (DX L) 77 HY n (bn (λO' a' w'=>∃j',j'<j/\
  (∃(left:Lit->Bool) (cnt:Nat),cnt<=j'/\Et a' pr key/\a'.tmps[5]?=Y (.pointer (Y ⟨r,0,F⟩))/\a'.tmps[29]?=Y (.pointer (Y ⟨it,0,F⟩))/\O'.own it/\bJ L O1 W O' w'/\OB r (.cells #[.int .i64 (wn key),.bool (hv key),.string (tv key),ts key] 144) O' w'/\w'.ranges prog 9 aY qm it nn D left cnt/\∀x,p x->left (.string x.data.toList)=E->¬(wn key<wn x/\fm x key=Z6))) Q) O a w:=by
 obtain⟨n5,h5⟩:=afh (main:=main) (J:=J) (L:=L)
 obtain⟨n6,h6⟩:=afk (main:=main) (J:=J) (L:=L)
 obtain⟨n7,h7⟩:=afp (main:=main) (J:=J) (L:=L)
 co_apply aa1
 intro pr qm f qb p wn hv tv ts fm nn D r it key O1 W Q yg hs hz hrW hit hne hQ hE j O a w hI
 obtain⟨left,cnt,eJ,hl,g5,GZ,hown,hF,hB,m6,KE⟩:=hI
 co_apply aM (aF L) (x:=cA HY) (y:=cB HY) _
 focus exact h5 pr qm f qb p nn D left cnt r it _ key O1 W _ _ _ _ yg.fq hs yg.meets hl g5 GZ hit hne hown hF hB m6
 rintro O a w ⟨hl,g5,GZ,hown,hF,hB,iL⟩
 co_apply pN (aF L) (x:=cA (cB HY)) (y:=cB (cB HY))
 rcases iL with⟨g31,hall⟩|⟨g31,x,cnt',hp,L3,hlt,m6,tI⟩
 ·co_apply aW (aF L) (t:=E)
  ·simp[Act.eval,g31]
  ·intro h;cases h
  ·intro _
   co_apply tV (aF L)
   exact hE (λx hx=>KE x hx (hall _)) _ _ _ hl hF
 ·co_apply aW (aF L) (t:=Z6)
  ·simp[Act.eval,g31]
  ·intro _
   co_apply jr (aF L)
   co_then
   co_apply fP (aF L) (c:=cI (cB (cB HY)))
   co_apply aM (aF L) (x:=cA (cI (cB (cB HY)))) (y:=cB (cI (cB (cB HY)))) _
   focus exact h6 pr qm (qb x) x nn D _ cnt' r it _ key O1 W _ _ _ _ yg.fq hl g5 GZ hown hF hB m6 tI
   rintro O a w ⟨hl,g5,GZ,g7,hown,hF,hB,m6⟩
   refine pO (h7 pr qm (qb x) (wn x) (wn key) (hv x) (hv key) (tv x) (tv key) (ts x) (ts key) (fm x) nn D _ cnt' r it key O1 W O a w (ju 1 (bn (λ_ _ _=>False) Q)) yg.fq (yg.fx x hp) (yg.c2 x hp) (yg.c3 x hp) (yg.c4 x hp) (yg.c5 x hp) (yg.L2 x hp) hz hl g5 GZ g7 hrW hown hF hB m6 ?_) ?_
   ·intro q1 q2 O' a' w' q3 q4 q5
    exact hQ ⟨x,hp,q1,q2⟩ O' a' w' q3 q4 q5
   ·intro O' e a' w' q
    cases e with
    |normal=>
     obtain⟨q1,q2,q3,q4,q5,q6,q7,q8⟩:=q
     refine⟨cnt',I,_,cnt',zb7 _,q2,q3,q4,q5,q6,q7,q8,λy hy hly=>?_⟩
     by_cases e:y=x
     ·subst e;exact q1
     ·have hk:(Lit.string y.data.toList).sameKey (.string x.data.toList)=E:=Maps.sameKey_ne λh=>e (TG h)
      rw[hk]at hly
      exact KE y hy (by simpa using hly)
    |exit id=>
     simp only[bn,ju,Exit.then,Exit.inBlock]at q⊢
     split at q
     ·exact q.elim
     ·rename_i hid
      rw[if_neg hid]
      exact q
    |_=>exact q
  ·intro h;cases h
def afu:∃n,∀(pr qm:Nat) (f:Lit->Option aj) (qb:ah->Nat) (p:ah->Prop) (wn:ah->Nat) (hv:ah->Bool) (tv:ah->ah) (ts:ah->aj) (fm:ah->ah->Bool) (key:ah) (O:aL) (w:af),
 N9 L w pr qm f qb p wn hv tv ts fm->(∀(u:af) (n:Nat) (D:DataW aj),u.ownsMap prog 9 aY qm n D->Says D f->Maps.size D<=8)->(∀x,p x->(f (.string x.data.toList)).isSome=Z6)->key.size<=1000->f (.string key.data.toList)=Y (.pointer (Y ⟨qb key,0,F⟩))->p key->L.N<=w.heap.size->
 bG prog main J (RX L) (DX L) 77 #[.pointer (Y ⟨pr,0,F⟩),.string key] n O w λO' v w'=>∃b:Bool,v=.bool b/\(b=Z6↔yS p wn hv fm key)/\bJ L O w O' w':=by
 obtain⟨n1,h1⟩:=afd (main:=main) (J:=J) (L:=L);obtain⟨n2,h2⟩:=aff (main:=main) (J:=J) (L:=L);obtain⟨n4,h4⟩:=afg (main:=main) (J:=J) (L:=L);obtain⟨nr,hr⟩:=Pg (main:=main) (J:=J) (L:=L);co_apply aa1;intro pr qm f qb p wn hv tv ts fm key O w yg h8 hsome hz hf hp hN;have hF:bJ L O w O w:=bJ.refl hN;co_apply bH func77 Ym rfl;walk_nrmf ntmps77;obtain⟨W,hW⟩:∃W,W=w:=⟨_,rfl⟩
 obtain⟨O1,hO⟩:∃O1,O1=O:=⟨_,rfl⟩
 rw[<-hW,<-hO]at hF⊢;rw[<-hW]at yg;clear hW hO;obtain⟨nn,D,hown,hs⟩:=yg.map;have fin:∀(b:Bool),(b=Z6↔yS p wn hv fm key)->∀(O':aL) (a':Act) (w':af),a'.defers= []->a'.tmps[4]?=Y (.bool b)->bJ L O1 W O' w'->oR prog main J (RX L) (DX L) 0 77 f77 (λO' v w'=>∃b:Bool,v=.bool b/\(b=Z6↔yS p wn hv fm key)/\bJ L O1 W O' w') O' .ret a' w':=by intro b hb O' a' w' hd h4 Xw;refine .inl ⟨hd,.bool b,bW (aF L) ?_,b,rfl,hb,Xw⟩;have:=resultsC_tmp (P:=prog) (fn:=f77) Ym a'.tmps;simpa[Array.getD_eq_getD_getElem?,h4]using this
 change cZ prog main J (RX L) (DX L) 77 eC _ _ _ _ _;co_apply aM (aF L) (x:=cA eC) (y:=cB eC) (λO' a' w'=>Et a' pr key/\bJ L O1 W O' w')
 ·dsimp only[eC,cA,cB,cI,cT,cE,f77,aa0];co_apply (iw);co_apply (kJ);intro _ hF;co_apply (iw);exact⟨⟨rfl,rfl,rfl,rfl⟩,hF⟩
 rintro O a w ⟨hl,hF⟩;co_apply aM (aF L) (x:=cA (cB eC)) (y:=cB (cB eC)) _;focus exact h1 pr qm f qb p wn hv tv ts fm key O1 W _ _ _ _ yg hz hf hp hl hF
 rintro O a w ⟨hl,r,hrW,g5,hF,hB⟩;co_apply aM (aF L) (x:=cA (cB (cB eC))) (y:=cB (cB (cB eC))) _;focus exact h2 pr r (wn key) (hv key) (tv key) (ts key) key O1 W _ _ _ _ hl g5 hF hB (λq1 q2 O' a' w' q3 q4 q5=>fin E ⟨(λh=>by cases h),λh=>absurd ⟨q1,q2⟩ h.1⟩ O' a' w' q3 q4 q5)
 rintro O a w ⟨hhas,hl,g5,hF,hB⟩;co_apply aM (aF L) (x:=cA (cB (cB (cB eC)))) (y:=cB (cB (cB (cB eC)))) (λO' a' w'=>(∀x,p x->¬(wn key<wn x/\fm x key=Z6))/\Et a' pr key/\bJ L O1 W O' w')
 ·co_apply aM (aF L) (x:=cA (cA (cB (cB (cB eC))))) (y:=cB (cA (cB (cB (cB eC))))) _;focus exact h4 pr qm f qb p wn hv tv ts fm nn D r _ key O1 W _ _ _ _ yg hown hl g5 hF hB
  rintro O a w ⟨hl,g5,it,hit,hne,hoi,GZ,hF,hB,m6⟩;co_apply fP (aF L) (c:=cI (cB (cA (cB (cB (cB eC))))));co_apply mY (aF L) (c:=HY) (N:=8) (λj O' a' w'=>∃(left:Lit->Bool) (cnt:Nat),cnt<=j/\Et a' pr key/\a'.tmps[5]?=Y (.pointer (Y ⟨r,0,F⟩))/\a'.tmps[29]?=Y (.pointer (Y ⟨it,0,F⟩))/\O'.own it/\bJ L O1 W O' w'/\OB r (.cells #[.int .i64 (wn key),.bool (hv key),.string (tv key),ts key] 144) O' w'/\w'.ranges prog 9 aY qm it nn D left cnt/\∀x,p x->left (.string x.data.toList)=E->¬(wn key<wn x/\fm x key=Z6)) nr
  ·refine⟨_,_,h8 _ _ D hown hs,hl,g5,GZ,hoi,hF,hB,m6,λx hx L3=>?_⟩;have:=hsome x hx;rw[<-hs.2,L3]at this;cases this
  ·intro j O a w hI;exact hr pr qm f qb p wn hv tv ts fm nn D r it key O1 W _ yg hs hz hrW hit hne (λ⟨x,q1,q2,q3⟩ O' a' w' q4 q5 q6=>fin E ⟨(λh=>by cases h),λh=>absurd ⟨q2,q3⟩ (h.2 x q1)⟩ O' a' w' q4 q5 q6) (λq O' a' w' q1 q2=>⟨q,q1,q2⟩) j O a w hI
 rintro O a w ⟨hall,hl,hF⟩;obtain⟨tms,Ew⟩:=a;obtain⟨hd,hsz,g0,g1⟩:=hl;simp only at hd hsz g0 g1;subst hd;dsimp only[eC,cA,cB,cI,cT,cE,f77,aa0];co_apply (iw);co_apply (kJ);intro _ hF;co_apply (iw);exact fin Z6 ⟨λ_=>⟨hhas,hall⟩,λ_=>rfl⟩ _ _ _ rfl (by simp[hsz]) hF
def tX(hd:a.defers=ds)(h:a.tmps.size=61):∃f:Nat->aj,a=⟨#[f 0,f 1,f 2,f 3,f 4,f 5,f 6,f 7,f 8,f 9,f 10,f 11,f 12,f 13,f 14,f 15,f 16,f 17,f 18,f 19,f 20,f 21,f 22,f 23,f 24,f 25,f 26,f 27,f 28,f 29,f 30,f 31,f 32,f 33,f 34,f 35,f 36,f 37,f 38,f 39,f 40,f 41,f 42,f 43,f 44,f 45,f 46,f 47,f 48,f 49,f 50,f 51,f 52,f 53,f 54,f 55,f 56,f 57,f 58,f 59,f 60],ds⟩/\∀i v,a.tmps[i]?=Y v->f i=v:=vp hd (pG a.tmps 61 h)
noncomputable def mJ:Code:=f44.body.getD .skip
noncomputable def yh:Code:=cB (cB (cB (cB (cB mJ))))
noncomputable def BM:Code:=cI (cI (cB (cA yh)))
structure yT(a:Act)(pr ba bc wg:Nat)(asked:Nat):Prop where
 d:a.defers= []
 size:a.tmps.size=61
 g0:a.tmps[0]?=Y (.pointer (Y ⟨pr,0,F⟩))
 g4:a.tmps[4]?=Y (.pointer (Y ⟨ba,0,F⟩))
 g5:a.tmps[5]?=Y (.pointer (Y ⟨bc,0,F⟩))
 g6:a.tmps[6]?=Y (.int .i64 asked)
 g7:a.tmps[7]?=Y (.pointer (Y ⟨wg,0,F⟩))
structure EX(a:Act)(kb N bR i:Nat):Prop where
 AX:a.tmps[22]?=Y (.slice (Y ⟨kb,0,F⟩) N bR)
 AY:a.tmps[23]?=Y (.int .i64 N)
 yd:a.tmps[24]?=Y (.int .i64 i)
def afv:∃n,∀(pr ba bc wg asked kb N bR:Nat) (O1:aL) (W:af) (O:aL) (a:Act) (w:af) (Q:eK),
 L.Fx pr->W.cell? ⟨pr,3,F⟩=Y (.slice (Y ⟨kb,0,F⟩) N bR)->N<=8->yT a pr ba bc wg asked->bJ L O1 W O w->
 cZ prog main J (RX L) (DX L) 44 (cA (cA yh)) n (bn (λO' a' w'=>yT a' pr ba bc wg asked/\EX a' kb N bR 0/\bJ L O1 W O' w') Q) O a w:=by co_apply aa1;intro pr ba bc wg asked kb N bR O1 W O a w Q hfp hk Xf hl hF;dsimp only[yh,mJ,cA,cB,cI,cT,cE,f44,aa0];obtain⟨hd,hsz,g0,g4,g5,g6,g7⟩:=hl;obtain⟨fv,hT,aP⟩:=tX hd hsz;subst hT;simp only[aP 0 _ g0,aP 4 _ g4,aP 5 _ g5,aP 6 _ g6,aP 7 _ g7];clear hd hsz aP g0 g4 g5 g6 g7;co_apply (iw);co_apply (kJ);intro _ hF;co_apply (kJ);intro _ hF;co_apply (kJ);intro _ hF;(co_apply aO rfl Ym;intro _ hR K hK;replace hF:=bJ.rely hF hR;clear hR;(have hc:=hF.bg hk hfp);go_simp;refine hK _ ⟨?_,?_⟩;(focus(refine DX.still _ _ (cL (a:=⟨pr,3,F⟩) (.inl hfp) λe he=>?_);have hm:=ad5 he;simp[go_sem,hc]at hm;exact hm));clear hK K;try walk_nrm);clear hc;co_apply (kJ);intro _ hF;co_apply (kJ);intro _ hF;co_apply (iw);exact⟨⟨rfl,rfl,rfl,rfl,rfl,rfl,rfl⟩,⟨rfl,rfl,rfl⟩,hF⟩
def afw:∃n,∀(pr ba bc wg asked kb N bR i:Nat) (key:ah) (O1:aL) (W:af) (O:aL) (a:Act) (w:af) (Q:eK),
 L.Fx kb->i<N->N<=8->W.cell? ⟨kb,i,F⟩=Y (.string key)->yT a pr ba bc wg asked->EX a kb N bR i->bJ L O1 W O w->
 cZ prog main J (RX L) (DX L) 44 (cA (cI (cA (cB (cB BM))))) n (bn (λO' a' w'=>yT a' pr ba bc wg asked/\EX a' kb N bR i/\∃b1 b4,W.heap.size<=b1/\W.heap.size<=b4/\a'.tmps[8]?=Y (.pointer (Y ⟨b4,0,F⟩))/\a'.tmps[9]?=Y (.pointer (Y ⟨b1,0,F⟩))/\bJ L O1 W O' w'/\OB b1 (.cells #[.string key] 9) O' w'/\OB b4 (.cells #[.int .i64 i] 3) O' w') Q) O a w:=by
 co_apply aa1;intro pr ba bc wg asked kb N bR i key O1 W O a w Q hfk hi Xf hk hl mS hF;dsimp only[BM,yh,mJ,cA,cB,cI,cT,cE,f44,aa0];obtain⟨hd,hsz,g0,g4,g5,g6,g7⟩:=hl;obtain⟨AX,AY,yd⟩:=mS;obtain⟨fv,hT,aP⟩:=tX hd hsz;subst hT;simp only[aP 0 _ g0,aP 4 _ g4,aP 5 _ g5,aP 6 _ g6,aP 7 _ g7,aP 22 _ AX,aP 23 _ AY,aP 24 _ yd];clear hd hsz aP g0 g4 g5 g6 g7 AX AY yd;co_apply (iw);co_apply (kJ);intro _ hF;co_apply (kJ);intro _ hF;(co_apply aO rfl Ym;intro _ hR K hK;replace hF:=bJ.rely hF hR;clear hR;(have hc:=hF.bg hk hfk);go_simp;refine hK _ ⟨?_,?_⟩;(focus(refine DX.still _ _ (cL (a:=⟨kb,i,F⟩) (.inl hfk) λe he=>?_);have hm:=ad5 he;simp[go_sem,hc]at hm;exact hm));clear hK K;try walk_nrm);clear hc;co_apply bM rfl Ym;intro W1 hR K hK;replace hF:=hF.rely hR;clear hR;go_simp;refine hK _ _ ⟨?_,?_⟩
 ·rw[ai1 YU];exact DX.alloc _ _ _
 clear hK K;try walk_nrm
 have hr4:W.heap.size<=W1.heap.size:=hF.rel.le;have hH:=ad1 (hF.alloc (.cells #[.int .i64 0] 3)) (OB.new O W1 (.cells #[.int .i64 0] 3));clear hF;generalize (O.grow W1 (W1.alloc (.cells #[.int .i64 0] 3)))=O2 at hH⊢;generalize (W1.alloc (.cells #[.int .i64 0] 3))=W2 at hH⊢;generalize W1.heap.size=b4 at hH hr4⊢;co_apply bM rfl Ym;intro W3 hR K hK;replace hH:=ad1 (hH.1.rely hR) (hH.2.rely hR);clear hR;go_simp;refine hK _ _ ⟨?_,?_⟩
 ·rw[ai1 YU];exact DX.alloc _ _ _
 clear hK K;try walk_nrm
 have CO:W.heap.size<=W3.heap.size:=hH.1.rel.le;have hne:b4≠W3.heap.size:=Nat.ne_of_lt hH.2.lt;have hG:=ad1 (hH.1.alloc (.cells #[.string ⟨#[]⟩] 9)) (ad1 (OB.new O2 W3 (.cells #[.string ⟨#[]⟩] 9)) (hH.2.alloc (.cells #[.string ⟨#[]⟩] 9)));clear hH;generalize (O2.grow W3 (W3.alloc (.cells #[.string ⟨#[]⟩] 9)))=O3 at hG⊢;generalize (W3.alloc (.cells #[.string ⟨#[]⟩] 9))=W4 at hG⊢;generalize W3.heap.size=b1 at hG CO hne⊢;co_apply bM rfl Ym;intro W5 hR K hK;replace hG:=ad1 (hG.1.rely hR) (ad1 (hG.2.1.rely hR) (hG.2.2.rely hR));clear hR;have hA:aT W5 b4 #[.int .i64 0] 3:=hG.2.2.heap;have t0:=hA.cell (o:=0) (v:=.int .i64 0) rfl;have z0:=hA.frozen 0;go_simp;try(unfold stored;go_simp)
 refine hK _ _ ⟨?_,?_⟩
 ·refine DX.own hG.2.2.own (ep.cell b4 0 W5 _) (cW (b:=Z6) hG.2.2.own λe he=>?_);have hm:=ad5 he;have E0:=λes=>lA (P:=prog) (v:=.int .i64 (i:Int)) t0 z0 rfl es;simp[go_sem, *]at hm;exact⟨_,hm,rfl⟩
 clear hK K;have H6:=ep.cell b4 0 W5 (.int .i64 (i:Int));have hE:=ad1 (H6.ya hG.1 hr4) (ad1 (H6.ob hG.2.1 (aq3 hne)) (show OB b4 (.cells #[.int .i64 (i:Int)] 3) O3 (W5.setCell ⟨b4,0,F⟩ (.int .i64 (i:Int)))from⟨hG.2.2.own,by simpa[aT]using hA.set 0 (.int .i64 (i:Int))⟩));rw[O3.dG H6.size];clear hG hA t0 z0 H6;generalize (W5.setCell ⟨b4,0,F⟩ (.int .i64 (i:Int)))=W6 at hE⊢;try walk_nrm
 co_apply bM rfl Ym;intro W7 hR K hK;replace hE:=ad1 (hE.1.rely hR) (ad1 (hE.2.1.rely hR) (hE.2.2.rely hR));clear hR;have hA:aT W7 b1 #[.string ⟨#[]⟩] 9:=hE.2.1.heap;have t0:=hA.cell (o:=0) (v:=.string ⟨#[]⟩) rfl;have z0:=hA.frozen 0;go_simp;try(unfold stored;go_simp)
 refine hK _ _ ⟨?_,?_⟩
 ·refine DX.own hE.2.1.own (ep.cell b1 0 W7 _) (cW (b:=Z6) hE.2.1.own λe he=>?_);have hm:=ad5 he;have E0:=λes=>lA (P:=prog) (v:=.string key) t0 z0 rfl es;simp[go_sem, *]at hm;exact⟨_,hm,rfl⟩
 clear hK K;have SR:=ep.cell b1 0 W7 (.string key);have hG:=ad1 (SR.ya hE.1 CO) (ad1 (show OB b1 (.cells #[.string key] 9) O3 (W7.setCell ⟨b1,0,F⟩ (.string key))from⟨hE.2.1.own,by simpa[aT]using hA.set 0 (.string key)⟩) (SR.ob hE.2.2 hne));rw[O3.dG SR.size];clear hE hA t0 z0 SR;generalize (W7.setCell ⟨b1,0,F⟩ (.string key))=W8 at hG⊢;try walk_nrm
 co_apply (iw);exact⟨⟨rfl,rfl,rfl,rfl,rfl,rfl,rfl⟩,⟨rfl,rfl,rfl⟩,b1,b4,CO,hr4,rfl,rfl,hG.1,hG.2.1,hG.2.2⟩
end
section
open Go Go.Conc Go.RowKit Go.MuLone Go.Maps
section
variable {P:aB}{fn:ay}{a:Act}{w:af}{o:Oper}
def Pj(m x:aD)(t:az)(hop:o.op=Op.lookup t m x E)
 (k e:az) (K:Keyed P k) (hk:P.underlying k=Y .string) (ht:P.underlying t=Y (.map k e)) {z:aj} (hz:∀w,(zeroValue e).run P w=.ok z w) (b:Nat) (f:Lit->Option aj) {L:eI} {O:aL} (hb:L.Fx b)
 (hm:a.eval m=.map (Y b)) (h':aS w P k b f) (s:ah) (kl:Lit) (hx:a.eval x=.string s) (hkey:keyOf P k (.string s)=Y kl) (v:aj) (hf:f kl=Y v):
 (execOp a.eval o).run P w=.ok (.value v) w/\DX L O w w (listed P fn a o w):=by have hrun:=h'.look K ht (hz w) hkey;rw[hf]at hrun;refine⟨by simp[execOp,hop,hm,hx,hrun,Result.andThen],DX.still _ _ λev he=>?_⟩;obtain⟨_,_,⟨es,clock,L1,_⟩,_⟩:=h';have hmm:=ad5 he;simp[execOp,hop,hm,hx]at hmm;rw[yQ hk s ht b w L1 ev hmm];exact⟨rfl,.inr ⟨b,rfl,.inr ⟨hb,rfl⟩⟩⟩
end
variable {main:Bool}{J:Jm}{L:eI}
def yU{k:az}{f:Lit->Option aj}{P:aB}(h:aS W P k b f)(hb:L.Fx b)(x:jq L W w):aS w P k b f:=h.of_eq (x.blk b h.lt hb)
def Xx(L:eI)(O1:aL)(W:af)(pr ba bc wg asked kb N bR i qx b1 b4:Nat)(key:ah)(O':aL)(a':Act)(w':af):Prop:=
 yT a' pr ba bc wg asked/\EX a' kb N bR i/\a'.tmps[8]?=Y (.pointer (Y ⟨b4,0,F⟩))/\a'.tmps[9]?=Y (.pointer (Y ⟨b1,0,F⟩))/\∃b0,W.heap.size<=b0/\a'.tmps[10]?=Y (.pointer (Y ⟨b0,0,F⟩))/\bJ L O1 W O' w'/\OB b0 (.cells #[.pointer (Y ⟨qx,0,F⟩)] 139) O' w'/\OB b1 (.cells #[.string key] 9) O' w'/\OB b4 (.cells #[.int .i64 i] 3) O' w'
def Xx.rely{O1:aL}{W:af}{pr ba bc wg asked kb N bR i qx b1 b4:Nat}{key:ah}{O':aL}{a':Act}{w' w₁:af}(h:Xx L O1 W pr ba bc wg asked kb N bR i qx b1 b4 key O' a' w')(r:RX L O' w' w₁):Xx L O1 W pr ba bc wg asked kb N bR i qx b1 b4 key O' a' w₁:=by obtain⟨h1,h2,h3,h4,b0,h5,h6,h7,h8,h9,KC⟩:=h;exact⟨h1,h2,h3,h4,b0,h5,h6,h7.rely r,h8.rely r,h9.rely r,KC.rely r⟩
def afz:∃n,∀(pr ba bc wg asked kb N bR i qm qx b1 b4:Nat) (f:Lit->Option aj) (key:ah) (O1:aL) (W:af) (O:aL) (a:Act) (w:af) (Q:eK),
 L.Fx pr->W.cell? ⟨pr,4,F⟩=Y (.map (Y qm))->L.Fx qm->aS W prog 9 qm f->f (.string key.data.toList)=Y (.pointer (Y ⟨qx,0,F⟩))->key.size<=1000->
 yT a pr ba bc wg asked->EX a kb N bR i->a.tmps[8]?=Y (.pointer (Y ⟨b4,0,F⟩))->a.tmps[9]?=Y (.pointer (Y ⟨b1,0,F⟩))->bJ L O1 W O w->OB b1 (.cells #[.string key] 9) O w->OB b4 (.cells #[.int .i64 i] 3) O w->
 cZ prog main J (RX L) (DX L) 44 (cA (cB (cI (cA (cB (cB BM)))))) n (bn (Xx L O1 W pr ba bc wg asked kb N bR i qx b1 b4 key) Q) O a w:=by
 co_apply aa1;intro pr ba bc wg asked kb N bR i qm qx b1 b4 f key O1 W O a w Q hfp tY Oa hmp hf hz hl mS g8 g9 hF mg sI;dsimp only[BM,yh,mJ,cA,cB,cI,cT,cE,f44,aa0];obtain⟨hd,hsz,g0,g4,g5,g6,g7⟩:=hl;obtain⟨AX,AY,yd⟩:=mS;obtain⟨fv,hT,aP⟩:=tX hd hsz;subst hT;simp only[aP 0 _ g0,aP 4 _ g4,aP 5 _ g5,aP 6 _ g6,aP 7 _ g7,aP 8 _ g8,aP 9 _ g9,aP 22 _ AX,aP 23 _ AY,aP 24 _ yd];clear hd hsz aP g0 g4 g5 g6 g7 g8 g9 AX AY yd;have hG:=ad1 hF (ad1 mg sI);clear hF mg sI;have hSR:∀(O':aL) (x y:af),(∀i,O.own i->O'.own i)->VW L W b1 (.cells #[.string key] 9) x->RX L O' x y->VW L W b1 (.cells #[.string key] 9) y:=
  λO' x y hO hx hr=>⟨hx.1.rely hr,(hr.blk b1 (zb8.1 hx.2).1 (.inl (hO b1 hG.2.1.own))).trans hx.2⟩
 have Xv:∀{x:af},VW L W b1 (.cells #[.string key] 9) x->x.cell? ⟨b1,0,F⟩=Y (.string key):=λh=>by simp[ad3,h.2]
 have hQR:∀(O:aL) (a:Act) (x y:af),bn (Xx L O1 W pr ba bc wg asked kb N bR i qx b1 b4 key) Q O .normal a x->RX L O x y->bn (Xx L O1 W pr ba bc wg asked kb N bR i qx b1 b4 key) Q O .normal a y:=λO a x y hx hr=>Xx.rely hx hr;co_apply gF (aF L) DX.draw (c:=1) (O0:=O) (S:=VW L W b1 (.cells #[.string key] 9)) I (by first|kernel_rfl|rfl);intro W1 hR;replace hG:=ad1 ((hG.1.rely hR).rely (RX.draw _ _)) (ad1 ((hG.2.1.rely hR).rely (RX.draw (L:=L) _ _)) ((hG.2.2.rely hR).rely (RX.draw (L:=L) _ _)));clear hR;simp only[aq6,al1,ao7,Nat.reduceAdd,Nat.zero_add];co_applyP SQ hSR hQR (λ_ h=>h) ⟨jq.of hG.1.rel,hG.2.1.heap⟩;intro hb;(co_applyP (qP hb (i:=0));try walk_nrm);(co_applyP (qP hb (i:=1));try walk_nrm);(co_applyP (qP hb (i:=2));try walk_nrm);(co_applyP BL hb (i:=3) rfl Yl Ym (λ_ _ hO hw=>?b4);(case b4=>((have hc:=jq.bg hw.1 tY hfp);refine⟨λK hK=>?_,?_⟩;(focus(go_simp;exact hK));(refine DX.still _ _ (cL (a:=⟨pr,4,F⟩) (.inl hfp) λe he=>?_);have hm:=ad5 he;simp[go_sem,hc]at hm;exact hm)));try walk_nrm);(co_applyP BL hb (i:=4) rfl Yl Ym (λ_ _ hO hw=>?b5);(case b5=>((have hc:=Xv hw);refine⟨λK hK=>?_,?_⟩;(focus(go_simp;exact hK));(refine DX.still _ _ (cW (b:=E) (hO _ hG.2.1.own) λe he=>?_);have hm:=ad5 he;simp[go_sem,hc]at hm;exact⟨_,hm,rfl⟩)));try walk_nrm);co_applyP vw (aF L) hSR hQR (i:=5) (v:=.pointer (Y ⟨qx,0,F⟩)) rfl Yl Yl Yl (.inl ⟨Ym,λO' w' hO hw=>?Xy⟩) (λ_ h=>h) ⟨jq.of hG.1.rel,hG.2.1.heap⟩ ?afA;case Xy=>
  exact Pj (.tmp 32) (.tmp 33) 135 rfl 9 139 gx underlying9 underlying135 m7 qm f Oa Ym (yU hmp Oa hw.1) key (.string key.data.toList) Ym (fQ (by unfold maxLen;omega)) _ hf
 try walk_nrm
 refine ko (rs:= [6]) Yl XI λi' hi'=>?_;obtain rfl:i'=6:=by simpa using hi'
 refine .inl λW2 h2=>?_;replace hG:=ad1 (hG.1.rely h2) (ad1 (hG.2.1.rely h2) (hG.2.2.rely h2));clear h2;go_simp;have EY:W.heap.size<=W2.heap.size:=hG.1.rel.le;have hn1:W2.heap.size≠b1:=Nat.ne_of_gt hG.2.1.lt;have hn4:W2.heap.size≠b4:=Nat.ne_of_gt hG.2.2.lt;have hH:=ad1 (hG.1.alloc (.cells #[.pointer F] 139)) (ad1 (OB.new O W2 (.cells #[.pointer F] 139)) (ad1 (hG.2.1.alloc (.cells #[.pointer F] 139)) (hG.2.2.alloc (.cells #[.pointer F] 139))));have Xz:∀i,O.own i->(O.grow W2 (W2.alloc (.cells #[.pointer F] 139))).own i:=λi h=>.inl h;refine⟨?_,⟨Xz,jq.of hH.1.rel,hH.2.2.1.heap⟩,?_⟩
 ·rw[ai1 YU];exact DX.alloc _ _ _
 clear hG;generalize (O.grow W2 (W2.alloc (.cells #[.pointer F] 139)))=O2 at hH Xz⊢;generalize (W2.alloc (.cells #[.pointer F] 139))=W3 at hH⊢;generalize W2.heap.size=b0 at hH EY hn1 hn4⊢;refine ko (rs:= [7]) Yl XI λi' hi'=>?_;obtain rfl:i'=7:=by simpa using hi'
 refine .inl λW4 h4=>?_;replace hH:=ad1 (hH.1.rely h4) (ad1 (hH.2.1.rely h4) (ad1 (hH.2.2.1.rely h4) (hH.2.2.2.rely h4)));clear h4;have hA:aT W4 b0 #[.pointer F] 139:=hH.2.1.heap;have t0:=hA.cell (o:=0) (v:=.pointer F) rfl;have z0:=hA.frozen 0;go_simp;try(unfold stored;go_simp)
 have hT0:=ep.cell b0 0 W4 (.pointer (Y ⟨qx,0,F⟩));have hE:=ad1 (hT0.ya hH.1 EY) (ad1 (show OB b0 (.cells #[.pointer (Y ⟨qx,0,F⟩)] 139) O2 (W4.setCell ⟨b0,0,F⟩ (.pointer (Y ⟨qx,0,F⟩)))from⟨hH.2.1.own,by simpa[aT]using hA.set 0 (.pointer (Y ⟨qx,0,F⟩))⟩) (ad1 (hT0.ob hH.2.2.1 (aq3 hn1)) (hT0.ob hH.2.2.2 (aq3 hn4))));rw[O2.dG hT0.size];refine⟨?_,⟨Xz,jq.of hE.1.rel,hE.2.2.1.heap⟩,?_⟩
 ·refine DX.own hH.2.1.own hT0 (cW (b:=Z6) hH.2.1.own λe he=>?_);have hm:=ad5 he;have E0:=λes=>lA (P:=prog) (v:=.pointer (Y ⟨qx,0,F⟩)) t0 z0 rfl es;simp[go_sem, *]at hm;exact⟨_,hm,rfl⟩
 refine kY Yl ?_ _;exact⟨⟨rfl,rfl,rfl,rfl,rfl,rfl,rfl⟩,⟨rfl,rfl,rfl⟩,rfl,rfl,b0,EY,rfl,hE.1,hE.2.1,hE.2.2.1,hE.2.2.2⟩
end
section
open Go Go.Conc Go.RowKit Go.MuLone Go.Maps
variable {main:Bool}{J:Jm}{L:eI}
noncomputable def EZ:Code:=cI (cA (cB (cB BM)))
def afB:∃n,∀(pr ba bc wg asked kb N bR i qm b1 b4 b0 qx:Nat) (f:Lit->Option aj) (qb:ah->Nat) (p:ah->Prop) (wn:ah->Nat) (hv:ah->Bool) (tv:ah->ah) (ts:ah->aj) (fm:ah->ah->Bool) (key:ah) (O1:aL) (W:af) (O:aL) (a:Act) (w:af) (Q:eK),
 N9 L W pr qm f qb p wn hv tv ts fm->(∀(u:af) (n:Nat) (D:DataW aj),u.ownsMap prog 9 aY qm n D->Says D f->Maps.size D<=8)->(∀x,p x->(f (.string x.data.toList)).isSome=Z6)->key.size<=1000->f (.string key.data.toList)=Y (.pointer (Y ⟨qb key,0,F⟩))->p key->
 yT a pr ba bc wg asked->EX a kb N bR i->a.tmps[8]?=Y (.pointer (Y ⟨b4,0,F⟩))->a.tmps[9]?=Y (.pointer (Y ⟨b1,0,F⟩))->a.tmps[10]?=Y (.pointer (Y ⟨b0,0,F⟩))->bJ L O1 W O w->OB b0 (.cells #[.pointer (Y ⟨qx,0,F⟩)] 139) O w->OB b1 (.cells #[.string key] 9) O w->OB b4 (.cells #[.int .i64 i] 3) O w->
 cZ prog main J (RX L) (DX L) 44 (cA (cA (cB (cB EZ)))) n (bn (λO' a' w'=>yT a' pr ba bc wg asked/\EX a' kb N bR i/\a'.tmps[8]?=Y (.pointer (Y ⟨b4,0,F⟩))/\a'.tmps[9]?=Y (.pointer (Y ⟨b1,0,F⟩))/\a'.tmps[10]?=Y (.pointer (Y ⟨b0,0,F⟩))/\(∃b:Bool,a'.tmps[37]?=Y (.bool b)/\(b=Z6↔yS p wn hv fm key))/\bJ L O1 W O' w'/\OB b0 (.cells #[.pointer (Y ⟨qx,0,F⟩)] 139) O' w'/\OB b1 (.cells #[.string key] 9) O' w'/\OB b4 (.cells #[.int .i64 i] 3) O' w') Q) O a w:=by
 obtain⟨nt,hte⟩:=afu (main:=main) (J:=J) (L:=L);co_apply aa1;intro pr ba bc wg asked kb N bR i qm b1 b4 b0 qx f qb p wn hv tv ts fm key O1 W O a w Q yg h8 hsome hz hf hp hl mS g8 g9 L5 hF qQ mg sI;dsimp only[EZ,BM,yh,mJ,cA,cB,cI,cT,cE,f44,aa0];obtain⟨hd,hsz,g0,g4,g5,g6,g7⟩:=hl;obtain⟨AX,AY,yd⟩:=mS;obtain⟨fv,hT,aP⟩:=tX hd hsz;subst hT;simp only[aP 0 _ g0,aP 4 _ g4,aP 5 _ g5,aP 6 _ g6,aP 7 _ g7,aP 8 _ g8,aP 9 _ g9,aP 10 _ L5,aP 22 _ AX,aP 23 _ AY,aP 24 _ yd];clear hd hsz aP g0 g4 g5 g6 g7 g8 g9 L5 AX AY yd;have hG:=ad1 hF (ad1 qQ (ad1 mg sI));clear hF qQ mg sI;have rl:∀{o0 o1 o4:Obj} {O2:aL} {Wa Wb:af},(bJ L O1 W O2 Wa/\OB b0 o0 O2 Wa/\OB b1 o1 O2 Wa/\OB b4 o4 O2 Wa)->RX L O2 Wa Wb->(bJ L O1 W O2 Wb/\OB b0 o0 O2 Wb/\OB b1 o1 O2 Wb/\OB b4 o4 O2 Wb):=λh x=>⟨h.1.rely x,h.2.1.rely x,h.2.2.1.rely x,h.2.2.2.rely x⟩
 have Pb:∀{Wa:af} {O2:aL},OB b1 (.cells #[.string key] 9) O2 Wa->Wa.cell? ⟨b1,0,F⟩=Y (.string key):=λx=>by simp[ad3,x.heap]
 co_apply (iw);co_apply (oZ);intro _ hG;(co_apply aO rfl Ym;intro _ hR K hK;replace hG:=rl hG hR;clear hR;(have hc:=Pb hG.2.2.1);go_simp;refine hK _ ⟨?_,?_⟩;(focus(refine DX.still _ _ (cW (b:=E) hG.2.2.1.own λe he=>?_);have hm:=ad5 he;simp[go_sem,hc]at hm;subst hm;exact⟨_,rfl,rfl⟩));clear hK K;try walk_nrm);clear hc;co_apply bX (aF L) rfl Ym rfl (by walk_nrm;exact hte pr qm f qb p wn hv tv ts fm key _ _ (yg.rx hG.1.rel) h8 hsome hz hf hp hG.1.top);rintro O2 v W2 ⟨b,rfl,hb,hF2⟩;have hE:=ad1 (hG.1.trans hF2) (ad1 (hG.2.1.ya hF2) (ad1 (hG.2.2.1.ya hF2) (hG.2.2.2.ya hF2)));clear hG hF2;walk_nrm;co_apply (iw);exact⟨⟨rfl,rfl,rfl,rfl,rfl,rfl,rfl⟩,⟨rfl,rfl,rfl⟩,rfl,rfl,rfl,⟨b,rfl,hb⟩,hE.1,hE.2.1,hE.2.2.1,hE.2.2.2⟩
structure RS(L:eI)(W w:af):Prop where
 le:W.heap.size<=w.heap.size
 blk:∀i,i<W.heap.size->L.Fx i->w.heap[i]?=W.heap[i]?
 Hw:∀a,L.og a->w.cell? a=W.cell? a
 sh:∀i c e f,L.Sh i->W.heap[i]?=Y (.cells c e f)->∃c',w.heap[i]?=Y (.cells c' e f)/\c'.size=c.size
 live:Ep L.tw L.Wg W->Ep L.tw L.Wg w
def RX.rs(h:RX L O W w):RS L W w:=⟨h.le,λi hi hx=>h.blk i hi (.inr hx),h.Hw,h.sh,h.live⟩
def RS.trans{a b c:af}(h:RS L a b)(k:RS L b c):RS L a c:=
 ⟨Nat.le_trans h.le k.le,λi hi hx=>(k.blk i (Nat.lt_of_lt_of_le hi h.le) hx).trans (h.blk i hi hx),λx hx=>(k.Hw x hx).trans (h.Hw x hx),λi c e f hi hc=>by obtain⟨c1,h1,e1⟩:=h.sh i c e f hi hc;obtain⟨c2,h2,e2⟩:=k.sh i c1 e f hi h1;exact⟨c2,h2,e2.trans e1⟩,k.live ∘ h.live⟩
def RS.fxs(h:RS L W w):jq L W w:=⟨h.le,h.blk,h.live⟩
def RS.set{o:Nat}(hf:¬L.Fx ab)(hc:∀a,L.og a->a.block≠ab)(hw:L.Wg≠ab):RS L w (w.setCell ⟨ab,o,F⟩ v):=by
 have A:=aside_setCell w ⟨ab,o,F⟩ v;refine⟨Nat.le_of_eq A.size.symm,λi _ hx=>A.block i λe=>hf (by have e':i=ab:=e;rw[<-e'];exact hx),λa ha=>by simp[ad3,A.block a.block (hc a ha)],λi c e f hi hcc=>?_,λ⟨st,sm,h⟩=>⟨st,sm,(A.block L.Wg hw).trans h⟩⟩;by_cases e':i=ab
 ·subst e';exact⟨c.setIfInBounds o v,by simp[World.setCell,Array.getElem?_modify,hcc],XI⟩
 ·exact⟨c,(A.block i e').trans hcc,rfl⟩
def N7(ab i:Nat)(key:ah)(m:Int)(val:ah)(w:af):Prop:=
 w.cell? ⟨ab,i*3,F⟩=Y (.string key)/\w.cell? ⟨ab,i*3+1,F⟩=Y (.int .i64 m)/\w.cell? ⟨ab,i*3+2,F⟩=Y (.string val)
def H7(L:eI)(O1:aL)(W:af)(pr ba bc wg asked kb N bR i ab:Nat)(key:ah)(m:Int)(val:ah)(cs:Nat->Option aj)(O':aL)(a':Act)(w':af):Prop:=
 yT a' pr ba bc wg asked/\EX a' kb N bR i/\(O'.pos=O1.pos/\O'.fu=O1.fu)/\(∀b,O'.own b->O1.own b\/W.heap.size<=b)/\RS L W w'/\N7 ab i key m val w'/\(∀o v,cs o=Y v->L.Mn ⟨ab,o,F⟩->(o<i*3\/i*3+3<=o)->w'.cell? ⟨ab,o,F⟩=Y v)
def H7.rely{pr ba bc wg asked kb N bR:Nat}{m:Int}{cs:Nat->Option aj}{w' w₁:af}(hmn:∀j,j<3->L.Mn ⟨ab,i*3+j,F⟩)(h:H7 L O1 W pr ba bc wg asked kb N bR i ab key m val cs O' a' w')(r:RX L O' w' w₁):H7 L O1 W pr ba bc wg asked kb N bR i ab key m val cs O' a' w₁:=by obtain⟨h1,h2,h3,h4,h5,⟨h6,h7,h8⟩,h9⟩:=h;exact⟨h1,h2,h3,h4,h5.trans r.rs,⟨(r.mn _ (hmn 0 I)).1.trans h6,(r.mn _ (hmn 1 I)).1.trans h7,(r.mn _ (hmn 2 I)).1.trans h8⟩,λo v ho hm hlt=>(r.mn _ hm).1.trans (h9 o v ho hm hlt)⟩
def ZA(L:eI)(W:af)(b0 b1 b4:Nat)(o0 o1 o4:Obj)(w:af):Prop:=jq L W w/\w.heap[b0]?=Y o0/\w.heap[b1]?=Y o1/\w.heap[b4]?=Y o4
def aa2:∃n,∀(pr ba bc wg asked kb N bR i b1 b4 b0 qx ab lY nx:Nat) (tx key:ah) (cs:Nat->Option aj) (O1:aL) (W:af) (O:aL) (a:Act) (w:af) (Q:eK),
 L.Fx ba->W.cell? ⟨ba,0,F⟩=Y (.slice (Y ⟨ab,0,F⟩) N lY)->i<N->N<=8->L.Fx qx->W.cell? ⟨qx,2,F⟩=Y (.int .i64 nx)->W.cell? ⟨qx,4,F⟩=Y (.string tx)->tx.size<=1000->¬L.Fx ab->(∀a,L.og a->a.block≠ab)->L.Wg≠ab->ab<W.heap.size->¬O1.own ab->
 Hid (∀j,j<3->L.Mn ⟨ab,i*3+j,F⟩/\(∃v,W.cell? ⟨ab,i*3+j,F⟩=Y v)/\W.frozen? ⟨ab,i*3+j,F⟩=E)->Hid (∀o v,cs o=Y v->L.Mn ⟨ab,o,F⟩->W.cell? ⟨ab,o,F⟩=Y v)->
 yT a pr ba bc wg asked->EX a kb N bR i->a.tmps[8]?=Y (.pointer (Y ⟨b4,0,F⟩))->a.tmps[9]?=Y (.pointer (Y ⟨b1,0,F⟩))->a.tmps[10]?=Y (.pointer (Y ⟨b0,0,F⟩))->bJ L O1 W O w->OB b0 (.cells #[.pointer (Y ⟨qx,0,F⟩)] 139) O w->OB b1 (.cells #[.string key] 9) O w->OB b4 (.cells #[.int .i64 i] 3) O w->
 cZ prog main J (RX L) (DX L) 44 (cA (cT (cB (cA (cB (cB EZ)))))) n (bn (H7 L O1 W pr ba bc wg asked kb N bR i ab key nx tx cs) Q) O a w:=by
 obtain⟨na,han⟩:=wI (main:=main) (J:=J) (L:=L);co_apply aa1;intro pr ba bc wg asked kb N bR i b1 b4 b0 qx ab lY nx tx key cs O1 W O a w Q hfa hca GX Xf Kz c2 c4 htx hnf L6 va XA XB hmn hcs hl mS g8 g9 L5 hF qQ mg sI;dsimp only[EZ,BM,yh,mJ,cA,cB,cI,cT,cE,f44,aa0];obtain⟨hd,hsz,g0,g4,g5,g6,g7⟩:=hl;obtain⟨AX,AY,yd⟩:=mS;obtain⟨fv,hT,aP⟩:=tX hd hsz;subst hT;simp only[aP 0 _ g0,aP 4 _ g4,aP 5 _ g5,aP 6 _ g6,aP 7 _ g7,aP 8 _ g8,aP 9 _ g9,aP 10 _ L5,aP 22 _ AX,aP 23 _ AY,aP 24 _ yd];clear hd hsz aP g0 g4 g5 g6 g7 g8 g9 L5 AX AY yd;have hG:=ad1 hF (ad1 qQ (ad1 mg sI));clear hF qQ mg sI;have lt:∀{r:Nat} {ob:Obj} {x:af},x.heap[r]?=Y ob->r<x.heap.size:=λh=>(zb8.1 h).1;have hSR:∀(O':aL) (x y:af),(∀i,O.own i->O'.own i)->ZA L W b0 b1 b4 (.cells #[.pointer (Y ⟨qx,0,F⟩)] 139) (.cells #[.string key] 9) (.cells #[.int .i64 (i:Int)] 3) x->RX L O' x y->ZA L W b0 b1 b4 (.cells #[.pointer (Y ⟨qx,0,F⟩)] 139) (.cells #[.string key] 9) (.cells #[.int .i64 (i:Int)] 3) y:=
  λO' x y hO hx hr=>⟨hx.1.rely hr,(hr.blk b0 (lt hx.2.1) (.inl (hO b0 hG.2.1.own))).trans hx.2.1,(hr.blk b1 (lt hx.2.2.1) (.inl (hO b1 hG.2.2.1.own))).trans hx.2.2.1,(hr.blk b4 (lt hx.2.2.2) (.inl (hO b4 hG.2.2.2.own))).trans hx.2.2.2⟩
 have TF:∀{x:af},ZA L W b0 b1 b4 (.cells #[.pointer (Y ⟨qx,0,F⟩)] 139) (.cells #[.string key] 9) (.cells #[.int .i64 (i:Int)] 3) x->x.cell? ⟨b0,0,F⟩=Y (.pointer (Y ⟨qx,0,F⟩)):=λh=>by simp[ad3,h.2.1]
 have Pb:∀{x:af},ZA L W b0 b1 b4 (.cells #[.pointer (Y ⟨qx,0,F⟩)] 139) (.cells #[.string key] 9) (.cells #[.int .i64 (i:Int)] 3) x->x.cell? ⟨b1,0,F⟩=Y (.string key):=λh=>by simp[ad3,h.2.2.1]
 have afD:∀{x:af},ZA L W b0 b1 b4 (.cells #[.pointer (Y ⟨qx,0,F⟩)] 139) (.cells #[.string key] 9) (.cells #[.int .i64 (i:Int)] 3) x->x.cell? ⟨b4,0,F⟩=Y (.int .i64 (i:Int)):=λh=>by simp[ad3,h.2.2.2]
 have hQR:∀(O:aL) (a:Act) (x y:af),bn (H7 L O1 W pr ba bc wg asked kb N bR i ab key nx tx cs) Q O .normal a x->RX L O x y->bn (H7 L O1 W pr ba bc wg asked kb N bR i ab key nx tx cs) Q O .normal a y:=λO a x y hx hr=>H7.rely (λj hj=>(hmn.out j hj).1) hx hr;co_apply gF (aF L) DX.draw (c:=na+Er) (O0:=O) (S:=ZA L W b0 b1 b4 (.cells #[.pointer (Y ⟨qx,0,F⟩)] 139) (.cells #[.string key] 9) (.cells #[.int .i64 (i:Int)] 3)) (by unfold Er;omega) (by first|kernel_rfl|rfl);intro W1 hR;replace hG:=ad1 ((hG.1.rely hR).rely (RX.draw _ _)) (ad1 ((hG.2.1.rely hR).rely (RX.draw (L:=L) _ _)) (ad1 ((hG.2.2.1.rely hR).rely (RX.draw (L:=L) _ _)) ((hG.2.2.2.rely hR).rely (RX.draw (L:=L) _ _))));clear hR;simp only[aq6,al1,ao7,Nat.reduceAdd,Nat.zero_add];co_applyP SQ hSR hQR (λ_ h=>h) ⟨jq.of hG.1.rel,hG.2.1.heap,hG.2.2.1.heap,hG.2.2.2.heap⟩;intro hb;(co_applyP BL hb (i:=0) rfl Yl Ym (λ_ _ hO hw=>?b1);(case b1=>((have hc:=jq.bg hw.1 hca hfa);refine⟨λK hK=>?_,?_⟩;(focus(go_simp;exact hK));(refine DX.still _ _ (cL (a:=⟨ba,0,F⟩) (.inl hfa) λe he=>?_);have hm:=ad5 he;simp[go_sem,hc]at hm;exact hm)));try walk_nrm);(co_applyP BL hb (i:=1) rfl Yl Ym (λ_ _ hO hw=>?b2);(case b2=>((have hc:=afD hw);refine⟨λK hK=>?_,?_⟩;(focus(go_simp;exact hK));(refine DX.still _ _ (cW (b:=E) (hO _ hG.2.2.2.own) λe he=>?_);have hm:=ad5 he;simp[go_sem,hc]at hm;exact⟨_,hm,rfl⟩)));try walk_nrm);(co_applyP BL hb (i:=2) rfl Yl Ym (λ_ _ hO hw=>?b3);(case b3=>((have hc:=Pb hw);refine⟨λK hK=>?_,?_⟩;(focus(go_simp;exact hK));(refine DX.still _ _ (cW (b:=E) (hO _ hG.2.2.1.own) λe he=>?_);have hm:=ad5 he;simp[go_sem,hc]at hm;exact⟨_,hm,rfl⟩)));try walk_nrm);(co_applyP BL hb (i:=3) rfl Yl Ym (λ_ _ hO hw=>?b4);(case b4=>((have hc:=TF hw);refine⟨λK hK=>?_,?_⟩;(focus(go_simp;exact hK));(refine DX.still _ _ (cW (b:=E) (hO _ hG.2.1.own) λe he=>?_);have hm:=ad5 he;simp[go_sem,hc]at hm;exact⟨_,hm,rfl⟩)));try walk_nrm);(co_applyP (qP hb (i:=4));try walk_nrm);(co_applyP (qP hb (i:=5));try walk_nrm);(co_applyP (qP hb (i:=6));try walk_nrm);(co_applyP BL hb (i:=7) rfl Yl Ym (λ_ _ hO hw=>?b8);(case b8=>((have hc:=jq.bg hw.1 c2 Kz);refine⟨λK hK=>?_,?_⟩;(focus(go_simp;exact hK));(refine DX.still _ _ (cL (a:=⟨qx,2,F⟩) (.inl Kz) λe he=>?_);have hm:=ad5 he;simp[go_sem,hc]at hm;exact hm)));try walk_nrm);(co_applyP BL hb (i:=8) rfl Yl Ym (λ_ _ hO hw=>?b9);(case b9=>((have hc:=TF hw);refine⟨λK hK=>?_,?_⟩;(focus(go_simp;exact hK));(refine DX.still _ _ (cW (b:=E) (hO _ hG.2.1.own) λe he=>?_);have hm:=ad5 he;simp[go_sem,hc]at hm;exact⟨_,hm,rfl⟩)));try walk_nrm);(co_applyP (qP hb (i:=9));try walk_nrm);(co_applyP (qP hb (i:=10));try walk_nrm);(co_applyP (qP hb (i:=11));try walk_nrm);(co_applyP BL hb (i:=12) rfl Yl Ym (λ_ _ hO hw=>?b13);(case b13=>((have hc:=jq.bg hw.1 c4 Kz);refine⟨λK hK=>?_,?_⟩;(focus(go_simp;exact hK));(refine DX.still _ _ (cL (a:=⟨qx,4,F⟩) (.inl Kz) λe he=>?_);have hm:=ad5 he;simp[go_sem,hc]at hm;exact hm)));try walk_nrm);refine ko (rs:= [13]) Yl XI λi' hi'=>?_;obtain rfl:i'=13:=by simpa using hi'
 refine .inr ⟨78,_,_,na,_,zb7 _,rfl,by walk_nrm;exact han key (nx:Int) tx _ _ htx hG.1.top,?_⟩;rintro O2 y W2 ⟨rfl,hF2⟩;have hH:=ad1 (hG.1.trans hF2) (ad1 (hG.2.1.ya hF2) (ad1 (hG.2.2.1.ya hF2) (hG.2.2.2.ya hF2)));have Xz:=hF2.own;clear hG hF2;refine⟨⟨Xz,jq.of hH.1.rel,hH.2.1.heap,hH.2.2.1.heap,hH.2.2.2.heap⟩,?_⟩;walk_nrm;co_applyP SQ hSR hQR Xz ⟨jq.of hH.1.rel,hH.2.1.heap,hH.2.2.1.heap,hH.2.2.2.heap⟩;intro hb;(co_applyP (qP hb (i:=14));try walk_nrm);refine ko (rs:= [15]) Yl XI λi' hi'=>?_;obtain rfl:i'=15:=by simpa using hi'
 refine .inl λW5 h5=>?_;replace hH:=ad1 (hH.1.rely h5) (ad1 (hH.2.1.rely h5) (ad1 (hH.2.2.1.rely h5) (hH.2.2.2.rely h5)));clear h5;obtain⟨m0,⟨v0,q0⟩,z0⟩:=hmn.out 0 I;obtain⟨m1,⟨v1,q1⟩,z1⟩:=hmn.out 1 I;obtain⟨m2,⟨v2,q2⟩,z2⟩:=hmn.out 2 I;simp only[Nat.add_zero]at m0 q0 z0;replace q0:=(hH.1.rel.mn _ m0).1.trans q0;replace z0:=(hH.1.rel.mn _ m0).2.trans z0;replace q1:=(hH.1.rel.mn _ m1).1.trans q1;replace z1:=(hH.1.rel.mn _ m1).2.trans z1;replace q2:=(hH.1.rel.mn _ m2).1.trans q2;replace z2:=(hH.1.rel.mn _ m2).2.trans z2;have afE:Hid (∀o v,cs o=Y v->L.Mn ⟨ab,o,F⟩->W5.cell? ⟨ab,o,F⟩=Y v):=λo v ho hm=>(hH.1.rel.mn _ hm).1.trans (hcs.out o v ho hm);clear hcs;go_simp;try(unfold stored;go_simp)
 obtain⟨cs0,t,fr,hbk⟩:=wJ q0;have hT:=((ep.cell ab (i*3) W5 (.string key)).trans (ep.cell ab (i*3+1) _ (.int .i64 (nx:Int)))).trans (ep.cell ab (i*3+2) _ (.string tx));have hb0:b0≠ab:=λe=>(hH.1.oc XB XA) (e▸hH.2.1.own)
 have jd:b1≠ab:=λe=>(hH.1.oc XB XA) (e▸hH.2.2.1.own)
 have KF:b4≠ab:=λe=>(hH.1.oc XB XA) (e▸hH.2.2.2.own)
 have hrs:RS L W (((W5.setCell ⟨ab,i*3,F⟩ (.string key)).setCell ⟨ab,i*3+1,F⟩ (.int .i64 (nx:Int))).setCell ⟨ab,i*3+2,F⟩ (.string tx)):=((hH.1.rel.rs.trans (RS.set hnf L6 va)).trans (RS.set hnf L6 va)).trans (RS.set hnf L6 va);refine⟨DX.mine hbk _ _ _ _ _ _ m0 m1 m2 λe he=>?_,⟨λj hj=>.inl (Xz j hj),hrs.fxs,(hT.other b0 hb0).trans hH.2.1.heap,(hT.other b1 jd).trans hH.2.2.1.heap,(hT.other b4 KF).trans hH.2.2.2.heap⟩,?_⟩
 ·have hm:=ad5 he;have E0:=λes=>lA (P:=prog) (v:=.string key) q0 z0 rfl es;have p2:((W5.setCell ⟨ab,i*3,F⟩ (.string key)).setCell ⟨ab,i*3+1,F⟩ (.int .i64 (nx:Int))).cell? ⟨ab,i*3+2,F⟩=Y v2:=by rw[zb9 _ _ _ _ XI,zb9 _ _ _ _ XI];exact q2
  have r2:((W5.setCell ⟨ab,i*3,F⟩ (.string key)).setCell ⟨ab,i*3+1,F⟩ (.int .i64 (nx:Int))).frozen? ⟨ab,i*3+2,F⟩=E:=by rw[ar3,ar3];exact z2
  have E2:=λes=>lA (P:=prog) (v:=.string tx) p2 r2 rfl es;simp[go_sem, *]at hm;rcases hm with rfl|rfl|rfl
  ·exact⟨rfl,.inl ⟨_,rfl,.inr (.inl m0)⟩⟩
  ·exact⟨rfl,.inl ⟨_,rfl,.inr (.inl m1)⟩⟩
  ·exact⟨rfl,.inl ⟨_,rfl,.inr (.inl m2)⟩⟩
 ·refine kY Yl ?_ _;rw[O2.dG hT.size];have p1:(W5.setCell ⟨ab,i*3,F⟩ (.string key)).cell? ⟨ab,i*3+1,F⟩=Y v1:=by rw[zb9 _ _ _ _ XI];exact q1
  have p2:((W5.setCell ⟨ab,i*3,F⟩ (.string key)).setCell ⟨ab,i*3+1,F⟩ (.int .i64 (nx:Int))).cell? ⟨ab,i*3+2,F⟩=Y v2:=by rw[zb9 _ _ _ _ XI,zb9 _ _ _ _ XI];exact q2
  refine⟨⟨rfl,rfl,rfl,rfl,rfl,rfl,rfl⟩,⟨rfl,rfl,rfl⟩,hH.1.gh,hH.1.new,hrs,⟨?_,?_,?_⟩,λo v ho hm hlt=>?_⟩
  ·rw[zb9 _ _ _ _ XI,zb9 _ _ _ _ XI];exact zca _ _ _ q0
  ·rw[zb9 _ _ _ _ XI];exact zca _ _ _ p1
  ·exact zca _ _ _ p2
  ·have n0:(⟨ab,o,F⟩:aA)≠⟨ab,i*3,F⟩:=by intro e;injection e;omega
   have n1:(⟨ab,o,F⟩:aA)≠⟨ab,i*3+1,F⟩:=by intro e;injection e;omega
   have n2:(⟨ab,o,F⟩:aA)≠⟨ab,i*3+2,F⟩:=by intro e;injection e;omega
   rw[zb9 _ _ _ _ (aq3 n2),zb9 _ _ _ _ (aq3 n1),zb9 _ _ _ _ (aq3 n0)];exact afE.out o v ho hm
end
section
open Go Go.RowKit Go.MuLone Go.Conc
open Go.Maps (Keyed)
structure V9(w0:af)(r:MR)(ab ba bc wg:Nat)(ms:List Int)(cv:aj)(w:af):Prop where
 below:Below w0.heap.size w0 w
 Ks:∃C,aT w ab C 62/\C.size=r.keys.length*3
 Tc:aT w ba #[.slice (Y ⟨ab,0,F⟩) r.keys.length r.keys.length] 42
 Td:aT w bc #[cv] 58
 cand:C6 r ms
 row:w.ownsRow w0.heap.size 3 1 cv ms.length (ms.map (Value.int .i64))
 G9:aT w wg #[.int .u64 0,.int .u32 0] 155
 ord:w0.heap.size<=ab/\ab<ba/\ba<bc/\bc<wg
 Oz:∀k,cv.ownBlock=Y k->ba<k/\k<bc
section
variable {w:af}{A:SA}
def ME{r:MR}(h:Seen w A i r)(c:List ak):
 To prog (λfr c' w'=>c'=c/\∃(b:ak) (a:Act) (ab ba bc wg:Nat) (ms:List Int) (cv:aj),fr=b.at a [.code yh]/\b.fn=44/\b.kind=.normal/\yT a (A.R.pr i) ba bc wg 0/\V9 w r ab ba bc wg ms cv w') (Frame.enter prog 44 #[ptr (A.R.pr i)] .normal) c w:=by
 have Fw:=h.l8;have Ht:=h.l1;obtain⟨kg,bR,hkv,_,_,Yj,_⟩:=aZ h.ky I;have Up:=h.rd.lt;have c3:w.cell? ⟨A.R.pr i,3,F⟩=Y (.slice (Y ⟨kg,0,F⟩) r.keys.length bR):=by have:=h.rd.cell (o:=3) (v:=A.R.ks i) rfl;rw[hkv]at this;exact this
 obtain⟨M,hMs,hmk⟩:=Qq r.keys.length Fw w;have mg:Below w.heap.size w ((w.alloc (.cells M 62)).alloc (.cells #[.slice (Y ⟨w.heap.size,0,F⟩) r.keys.length r.keys.length] 42)):=((Below.refl _ _).alloc (zb7 _) _).alloc XI _;have cc:=zl (h.below mg);have pz:aT ((w.alloc (.cells M 62)).alloc (.cells #[.slice (Y ⟨w.heap.size,0,F⟩) r.keys.length r.keys.length] 42)) w.heap.size M 62:=(aT.new w _ _).of_eq (zb6 _ _ _ XI);have hX1:aT ((w.alloc (.cells M 62)).alloc (.cells #[.slice (Y ⟨w.heap.size,0,F⟩) r.keys.length r.keys.length] 42)) (w.heap.size+1) #[.slice (Y ⟨w.heap.size,0,F⟩) r.keys.length r.keys.length] 42:=by have:=aT.new (w.alloc (.cells M 62)) #[.slice (Y ⟨w.heap.size,0,F⟩) r.keys.length r.keys.length] 42;simpa using this
 have vD:((w.alloc (.cells M 62)).alloc (.cells #[.slice (Y ⟨w.heap.size,0,F⟩) r.keys.length r.keys.length] 42)).heap.size=w.heap.size+2:=XI
 clear hkv Yj h;unfold ptr at cc⊢;rw[enter_at func44 rfl];walk_nrmf ntmps44;refine To.dU λK hK=>?_;go_wp2_with fail
 refine To.dU λK hK=>?_;go_wp2_with fail
 generalize (w.alloc (.cells M 62)).alloc (.cells #[.slice (Y ⟨w.heap.size,0,F⟩) r.keys.length r.keys.length] 42)=w1 at *;refine To.dU λK hK=>?_;go_wp2_with fail
 refine cc.mono ?_;rintro e w2 ⟨ms,cv,rfl,hrow,Wc,eH⟩;clear cc hmk;obtain⟨ca,gX,rfl⟩:=bI hrow;rw[vD]at hrow eH;have uw:Below w.heap.size w w2:=mg.trans (eH.mono I);have A8:=eH.size;rw[vD]at A8;have sI:Below w.heap.size w ((w2.alloc (.cells #[.slice ca ms.length gX] 58)).alloc (.cells #[.int .u64 0,.int .u32 0] 155)):=(uw.alloc uw.size _).alloc Yn _;have Uq:∀k,k<w2.heap.size->((w2.alloc (.cells #[.slice ca ms.length gX] 58)).alloc (.cells #[.int .u64 0,.int .u32 0] 155)).heap[k]?=w2.heap[k]? :=λk hk=>(zb6 _ _ _ Yn).trans (zb6 _ _ _ hk);have tJ:aT ((w2.alloc (.cells #[.slice ca ms.length gX] 58)).alloc (.cells #[.int .u64 0,.int .u32 0] 155)) (w2.heap.size+1) #[.int .u64 0,.int .u32 0] 155:=by have:=aT.new (w2.alloc (.cells #[.slice ca ms.length gX] 58)) #[.int .u64 0,.int .u32 0] 155;simpa using this
 have hC4:aT ((w2.alloc (.cells #[.slice ca ms.length gX] 58)).alloc (.cells #[.int .u64 0,.int .u32 0] 155)) w2.heap.size #[.slice ca ms.length gX] 58:=(aT.new w2 _ _).of_eq (zb6 _ _ _ XI);have HF:Hid (V9 w r w.heap.size (w.heap.size+1) w2.heap.size (w2.heap.size+1) ms (.slice ca ms.length gX) ((w2.alloc (.cells #[.slice ca ms.length gX] 58)).alloc (.cells #[.int .u64 0,.int .u32 0] 155))):=by refine⟨sI,⟨M,(pz.of_eq (eH.block _ I)).of_eq (Uq _ I),hMs⟩,(hX1.of_eq (eH.block _ I)).of_eq (Uq _ I),hC4,Wc,aI (zk hrow I) (λk hk=>Uq k (aQ hrow k hk).2),tJ,⟨zb7 _,I,I,I⟩,λk hk=>?_⟩;have:=aQ hrow k hk;omega
 clear mg pz hX1 vD eH uw A8 sI Uq tJ hC4 hrow Wc;go_wp2_with fail
 refine To.dU λK hK=>?_;go_wp2_with fail
 refine To.dU λK hK=>?_;go_wp2_with fail
 exact To.done ⟨rfl,_,_,_,_,_,_,_,_,rfl,rfl,rfl,⟨rfl,rfl,rfl,rfl,rfl,rfl,rfl⟩,HF.out⟩
end
end
section
open Go Go.Conc
def SF(X:List (Nat×Nat)):vi.ck 44 0 yh 1 X=F:=Yl
def Uo{d:Nat}{fr:ak}{c:List ak}{k:List Item}(h:AP vi d fr c)(hf:fr.fn=44)(hm:fr.mode=.run)(ht:fr.todo=.code yh :: k):d=0:=by
 obtain⟨out,⟨h1,h2⟩,_⟩:=h;unfold iC at h2;rw[hm]at h2;obtain⟨s,X,e1,e2,h3⟩:=(show nN vi d fr out from h2).ok;have e3:py vi fr=0:=by unfold py;rw[hf];rfl
 have hout:out=0:=by
  obtain⟨a,ha⟩:=h1.kC;rw[hf]at ha;have h4:=Da.two _ _ _ ha;rcases Nat.lt_or_ge a 1 with h5|h5
  ·obtain rfl:a=0:=I
   have e:vi.kC 44 0=Y 0:=Yl
   rw[e]at ha;cases ha;rfl
  ·obtain rfl:a=1:=I
   have e:vi.kC 44 1=F:=Yl
   rw[e]at ha;cases ha
 subst hout;rw[ht,hf]at h3;obtain⟨r,h6,_⟩:=h3;have:s<2:=I
 rcases Nat.lt_or_ge s 1 with h5|h5
 ·omega
 ·obtain rfl:s=1:=I
  rw[SF]at h6;cases h6
end
end Go.Proofs.YteoahlieielcdaaGreat
