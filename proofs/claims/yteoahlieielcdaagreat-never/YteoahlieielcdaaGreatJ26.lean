import Derived.Test.YteoahlieielcdaaGreatX7
import Derived.Test.YteoahlieielcdaaGreatJ12
import Derived.Test.YteoahlieielcdaaGreatZ4
import Derived.Test.YteoahlieielcdaaGreatPrF3
set_option linter.all false
set_option maxHeartbeats 8000000
set_option maxRecDepth 100000
namespace Go.Proofs.YteoahlieielcdaaGreat
open Go.Proofs.Tryz
abbrev zb2:=@RowKit.Below.heap_alloc
abbrev zb3:=@Nat.le_refl
abbrev zb4:=@Array.getElem?_eq_some_iff
abbrev zb5:=@World.cell?_setCell_other
abbrev zb6:=@World.cell?_setCell_same
variable{a a':Act}{ds:List Deferred}{w W:af}{v:aj}{b ab i:Nat}{O O1 O':aI}{key val:ah}
section
open Go Go.Conc Go.RowKit Go.MuLone
variable {main:Bool}{J:Jm}{L:dY}
def AQ(hd:a.defers=ds)(h:a.tmps.size=50):∃f:Nat->aj,a=⟨#[f 0,f 1,f 2,f 3,f 4,f 5,f 6,f 7,f 8,f 9,f 10,f 11,f 12,f 13,f 14,f 15,f 16,f 17,f 18,f 19,f 20,f 21,f 22,f 23,f 24,f 25,f 26,f 27,f 28,f 29,f 30,f 31,f 32,f 33,f 34,f 35,f 36,f 37,f 38,f 39,f 40,f 41,f 42,f 43,f 44,f 45,f 46,f 47,f 48,f 49],ds⟩/\∀i v,a.tmps[i]?=some v->f i=v:=uC hd (oK a.tmps 50 h)
def rA.isIf{g:ah->Bool}(h:rA L w v g):zO v:=by
 cases h<;>first|exact .inl rfl|exact .inr ⟨_,_,rfl⟩
noncomputable def dS:Code:=f77.body.getD .skip
structure Dw(a:Act)(pr:Nat)(key:ah):Prop where
 d:a.defers= []
 size:a.tmps.size=50
 g0:a.tmps[0]?=some (.pointer (some ⟨pr,0,none⟩))
 g1:a.tmps[1]?=some (.string key)
def afc:∃n,∀(pr qm:Nat) (f:Lit->Option aj) (qb:ah->Nat) (p:ah->Prop) (wn:ah->Nat) (hv:ah->Bool) (tv:ah->ah) (ts:ah->aj) (fm:ah->ah->Bool) (key:ah) (O1:aI) (W:af) (O:aI) (a:Act) (w:af) (Q:ep),
 MP L W pr qm f qb p wn hv tv ts fm->key.size<=1000->f (.string key.data.toList)=some (.pointer (some ⟨qb key,0,none⟩))->p key->Dw a pr key->bG L O1 W O w->
 cR prog main J (RX L) (DX L) 77 (cA (cB dS)) n (bh (fun O' a' w'=>Dw a' pr key/\∃r,W.heap.size<=r/\a'.tmps[5]?=some (.pointer (some ⟨r,0,none⟩))/\bG L O1 W O' w'/\OB r (.cells #[.int .i64 (wn key),.bool (hv key),.string (tv key),ts key] 144) O' w') Q) O a w:=by
 co_apply Exists.intro;intro pr qm f qb p wn hv tv ts fm key O1 W O a w Q hQ hz hf hp hl hF;dsimp only[dS,cA,cB,cI,cT,cE,f77,Option.getD_some];obtain⟨hd,hsz,g0,g1⟩:=hl;obtain⟨fv,hT,aL⟩:=AQ hd hsz;subst hT;simp only[aL 0 _ g0,aL 1 _ g1];clear hd hsz aL g0 g1;co_apply (gJ);co_apply (jY);intro _ hF;co_apply (jY);intro _ hF;co_apply (jY);intro _ hF;(co_apply aN rfl (by rfl);intro _ hR K hK;replace hF:=bG.rely hF hR;clear hR;(have hc:=hF.aZ hQ.cell hQ.fp);go_simp;refine hK _ ⟨?_,?_⟩;(focus(refine DX.still _ _ (cC (a:=⟨pr,4,none⟩) (.inl hQ.fp) fun e he=>?_);have hm:=mem_listed he;simp[go_sem,hc]at hm;exact hm));clear hK K;try walk_nrm);clear hc;co_apply (jY);intro _ hF;co_apply GG rfl (by rfl) _ _ 135 rfl 9 139 fT underlying9 underlying135 mE qm f rfl hQ.fq (Ca hQ.map hQ.fq hF.rel) key (.string key.data.toList) rfl (fG (by unfold maxLen;omega)) _ hf;intro W2 hR;replace hF:=hF.rely hR;clear hR;walk_nrm;co_apply (jY);intro _ hF;co_apply (jY);intro _ hF;co_apply aN rfl (by rfl);intro W4 hR K hK;replace hF:=hF.rely hR;clear hR;have q2:=hF.aZ (hQ.c2 key hp) (hQ.fx key hp);have q3:=hF.aZ (hQ.c3 key hp) (hQ.fx key hp);have q4:=hF.aZ (hQ.c4 key hp) (hQ.fx key hp);have q5:=hF.aZ (hQ.c5 key hp) (hQ.fx key hp);have hg:=hQ.fx key hp;generalize wn key=n1 at *;generalize hv key=h1 at *;generalize tv key=t1 at *;have hs1:=(hQ.KY key hp).isIf;generalize ts key=s1 at *;go_simp;refine hK _ ⟨?_,?_⟩
 ·refine DX.still _ _ (GH hg fun e he=>?_);have hm:=mem_listed he;simp[go_sem, *]at hm;rcases hm with rfl|rfl|rfl|rfl<;>exact⟨_,rfl,rfl⟩
 clear hK K q2 q3 q4 q5;try walk_nrm
 co_apply bJ rfl (by rfl);intro W5 hR K hK;replace hF:=hF.rely hR;clear hR;go_simp;refine hK _ _ ⟨?_,?_⟩
 ·rw[listed_nil (by simp[go_sem])];exact DX.alloc _ _ _
 clear hK K;try walk_nrm
 have hr:W.heap.size<=W5.heap.size:=hF.rel.le;have hH:=And.intro (hF.alloc (.cells #[.int .i64 0,.bool false,.string ⟨#[]⟩,.nilIface] 144)) (OB.new O W5 (.cells #[.int .i64 0,.bool false,.string ⟨#[]⟩,.nilIface] 144));clear hF;generalize (O.grow W5 (W5.alloc (.cells #[.int .i64 0,.bool false,.string ⟨#[]⟩,.nilIface] 144)))=O3 at hH⊢;generalize (W5.alloc (.cells #[.int .i64 0,.bool false,.string ⟨#[]⟩,.nilIface] 144))=W6 at hH⊢;generalize W5.heap.size=r at hH hr⊢;co_apply bJ rfl (by rfl);intro W7 hR K hK;replace hH:=And.intro (hH.1.rely hR) (hH.2.rely hR);clear hR;have hA:bg W7 r #[.int .i64 0,.bool false,.string ⟨#[]⟩,.nilIface] 144:=hH.2.heap;have b0:=hA.cell (o:=0) (v:=.int .i64 0) rfl;have b1:=hA.cell (o:=1) (v:=.bool false) rfl;have b2:=hA.cell (o:=2) (v:=.string ⟨#[]⟩) rfl;have b3:=hA.cell (o:=3) (v:=.nilIface) rfl;have f0:=hA.frozen 0;have f1:=hA.frozen 1;have f2:=hA.frozen 2;have f3:=hA.frozen 3;have h1c:s1.oneCell'=true:=by rcases hs1 with rfl|⟨_,_,rfl⟩ <;>rfl
 have hA1:=hA.set 0 (.int .i64 (n1:Int));have hA2:=hA1.set 1 (.bool h1);have KZ:=hA2.set 2 (.string t1);have Je:=KZ.set 3 s1;have afd:(store ⟨r,3,none⟩ s1).run prog (((W7.setCell ⟨r,0,none⟩ (.int .i64 (n1:Int))).setCell ⟨r,1,none⟩ (.bool h1)).setCell ⟨r,2,none⟩ (.string t1))=.ok () ((((W7.setCell ⟨r,0,none⟩ (.int .i64 (n1:Int))).setCell ⟨r,1,none⟩ (.bool h1)).setCell ⟨r,2,none⟩ (.string t1)).setCell ⟨r,3,none⟩ s1):=by rw[run_store _ _ _ s1 _ h1c,KZ.cell (o:=3) (v:=.nilIface) rfl,KZ.frozen 3];rfl
 have hT:=(((dO.cell r 0 W7 (.int .i64 (n1:Int))).trans (dO.cell r 1 _ (.bool h1))).trans (dO.cell r 2 _ (.string t1))).trans (dO.cell r 3 _ s1);go_simp;try(unfold stored;go_simp)
 refine hK _ _ ⟨?_,?_⟩
 ·refine DX.own hH.2.own hT (cO (b:=true) hH.2.own fun e he=>?_);have hm:=mem_listed he;have E0:=fun es=>kL (P:=prog) (v:=.int .i64 (n1:Int)) b0 f0 rfl es;have E1:=fun es=>kL (P:=prog) (v:=.bool h1) (hA1.cell (o:=1) (v:=.bool false) rfl) (hA1.frozen 1) rfl es;have E2:=fun es=>kL (P:=prog) (v:=.string t1) (hA2.cell (o:=2) (v:=.string ⟨#[]⟩) rfl) (hA2.frozen 2) rfl es;have E3:=fun es=>kL (P:=prog) (v:=s1) (KZ.cell (o:=3) (v:=.nilIface) rfl) (KZ.frozen 3) h1c es;clear hQ hA hA1 hA2 KZ Je hH hT hs1;simp[go_sem, *]at hm;rcases hm with rfl|rfl|rfl|rfl<;>exact⟨_,rfl,rfl⟩
 clear hK K;have hE:bG L O1 W O3 ((((W7.setCell ⟨r,0,none⟩ (.int .i64 (n1:Int))).setCell ⟨r,1,none⟩ (.bool h1)).setCell ⟨r,2,none⟩ (.string t1)).setCell ⟨r,3,none⟩ s1)/\OB r (.cells #[.int .i64 (n1:Int),.bool h1,.string t1,s1] 144) O3 ((((W7.setCell ⟨r,0,none⟩ (.int .i64 (n1:Int))).setCell ⟨r,1,none⟩ (.bool h1)).setCell ⟨r,2,none⟩ (.string t1)).setCell ⟨r,3,none⟩ s1):=⟨hT.wN hH.1 hr,hH.2.own,by simpa[bg]using Je⟩
 rw[O3.dz hT.size];clear hH hA hA1 hA2 KZ Je b0 b1 b2 b3 f0 f1 f2 f3 hT afd;generalize ((((W7.setCell ⟨r,0,none⟩ (.int .i64 (n1:Int))).setCell ⟨r,1,none⟩ (.bool h1)).setCell ⟨r,2,none⟩ (.string t1)).setCell ⟨r,3,none⟩ s1)=W8 at hE⊢;try walk_nrm
 co_apply (gJ);exact⟨⟨rfl,rfl,rfl,rfl⟩,r,hr,rfl,hE.1,hE.2⟩
end
section
open Go Go.Conc Go.RowKit Go.MuLone
variable {main:Bool}{J:Jm}{L:dY}
def afe:∃n,∀(pr r:Nat) (n1:Nat) (h1:Bool) (t1:ah) (s1:aj) (key:ah) (O1:aI) (W:af) (O:aI) (a:Act) (w:af) (Q:ep),
 Dw a pr key->a.tmps[5]?=some (.pointer (some ⟨r,0,none⟩))->bG L O1 W O w->OB r (.cells #[.int .i64 n1,.bool h1,.string t1,s1] 144) O w->
 (n1≠0->h1=false->∀O' a' w',a'.defers= []->a'.tmps[4]?=some (.bool false)->bG L O1 W O' w'->Q O' .ret a' w')->
 cR prog main J (RX L) (DX L) 77 (cA (cB (cB dS))) n (bh (fun O' a' w'=>¬(n1≠0/\h1=false)/\Dw a' pr key/\a'.tmps[5]?=some (.pointer (some ⟨r,0,none⟩))/\bG L O1 W O' w'/\OB r (.cells #[.int .i64 n1,.bool h1,.string t1,s1] 144) O' w') Q) O a w:=by
 co_apply Exists.intro;intro pr r n1 h1 t1 s1 key O1 W O a w Q hl g5 hF hB hQ;dsimp only[dS,cA,cB,cI,cT,cE,f77,Option.getD_some];obtain⟨hd,hsz,g0,g1⟩:=hl;obtain⟨fv,hT,aL⟩:=AQ hd hsz;subst hT;simp only[aL 0 _ g0,aL 1 _ g1,aL 5 _ g5];clear hd hsz aL g0 g1 g5;have hG:=And.intro hF hB;clear hF hB;have hQ':Hid (n1≠0->h1=false->∀O' a' w',a'.defers= []->a'.tmps[4]?=some (.bool false)->bG L O1 W O' w'->Q O' .ret a' w'):=hQ;clear hQ;have rl:∀{o:Obj} {O2:aI} {Wa Wb:af},(bG L O1 W O2 Wa/\OB r o O2 Wa)->RX L O2 Wa Wb->(bG L O1 W O2 Wb/\OB r o O2 Wb):=fun h x=>⟨h.1.rely x,h.2.rely x⟩
 have SW:∀{Wa:af} {O2:aI},OB r (.cells #[.int .i64 (n1:Int),.bool h1,.string t1,s1] 144) O2 Wa->Wa.cell? ⟨r,0,none⟩=some (.int .i64 (n1:Int)):=fun x=>by simp[World.cell?,x.heap]
 have OE:∀{Wa:af} {O2:aI},OB r (.cells #[.int .i64 (n1:Int),.bool h1,.string t1,s1] 144) O2 Wa->Wa.cell? ⟨r,1,none⟩=some (.bool h1):=fun x=>by simp[World.cell?,x.heap]
 co_apply aK (aF L) (fun O' a' w'=>a'.defers= []/\a'.tmps.size=50/\a'.tmps[0]?=some (.pointer (some ⟨pr,0,none⟩))/\a'.tmps[1]?=some (.string key)/\a'.tmps[5]?=some (.pointer (some ⟨r,0,none⟩))/\a'.tmps[24]?=some (.bool (!decide (n1=0)&& !h1))/\bG L O1 W O' w'/\OB r (.cells #[.int .i64 n1,.bool h1,.string t1,s1] 144) O' w')
 ·co_apply (gJ);co_apply (ox);intro _ hG;(co_apply aN rfl (by rfl);intro _ hR K hK;replace hG:=rl hG hR;clear hR;(have hc:=SW hG.2);go_simp;refine hK _ ⟨?_,?_⟩;(focus(refine DX.still _ _ (cO (b:=false) hG.2.own fun e he=>?_);have hm:=mem_listed he;simp[go_sem,hc]at hm;subst hm;exact⟨_,rfl,rfl⟩));clear hK K;try walk_nrm);clear hc;co_apply (ox);intro _ hG;by_cases h0:n1=0
  ·have e1:((n1:Int)!= 0)=false:=by simp[h0]
   simp only[e1];co_apply (ox);intro _ hG;(co_apply (SV);try walk_nrm);(co_apply (SV);try walk_nrm);(co_apply (SV);try walk_nrm);co_apply (ox);intro _ hG;co_apply (gJ);exact⟨by trivial,rfl,rfl,rfl,rfl,by simp[h0],hG.1,hG.2⟩
  ·have e1:((n1:Int)!= 0)=true:=by simp;omega
   simp only[e1];co_apply (ox);intro _ hG;co_apply (ox);intro _ hG;(co_apply aN rfl (by rfl);intro _ hR K hK;replace hG:=rl hG hR;clear hR;(have hc:=OE hG.2);go_simp;refine hK _ ⟨?_,?_⟩;(focus(refine DX.still _ _ (cO (b:=false) hG.2.own fun e he=>?_);have hm:=mem_listed he;simp[go_sem,hc]at hm;subst hm;exact⟨_,rfl,rfl⟩));clear hK K;try walk_nrm);clear hc;co_apply (ox);intro _ hG;co_apply (ox);intro _ hG;co_apply (gJ);exact⟨by trivial,rfl,rfl,rfl,rfl,by simp[h0],hG.1,hG.2⟩
 ·rintro O' ⟨tms,w8⟩ w' ⟨hd,hsz,g0,g1,g5,wP,hF,hB⟩;simp only at hd hsz g0 g1 g5 wP;subst hd;co_apply aU (aF L) (t:=!decide (n1=0)&& !h1)
  ·simp[Act.eval,wP]
  ·intro ht;have hn:n1≠0/\h1=false:=by simpa using ht
   co_apply (gJ);co_apply (jY);intro _ hF;co_apply (gJ);exact hQ'.out hn.1 hn.2 _ _ _ rfl (by simp[hsz]) hF
  ·intro ht;co_apply (gJ);exact⟨fun h=>by simp[h.1,h.2]at ht,⟨rfl,hsz,g0,g1⟩,g5,hF,hB⟩
end
section
open Go Go.Conc Go.RowKit Go.MuLone Go.Maps
variable {main:Bool}{J:Jm}{L:dY}
def aff:∃n,∀(pr qm:Nat) (f:Lit->Option aj) (qb:ah->Nat) (p:ah->Prop) (wn:ah->Nat) (hv:ah->Bool) (tv:ah->ah) (ts:ah->aj) (fm:ah->ah->Bool) (nn:Nat) (D:DataW aj) (r:Nat) (ob:Obj) (key:ah) (O1:aI) (W:af) (O:aI) (a:Act) (w:af) (Q:ep),
 MP L W pr qm f qb p wn hv tv ts fm->W.ownsMap prog 9 aV qm nn D->Dw a pr key->a.tmps[5]?=some (.pointer (some ⟨r,0,none⟩))->bG L O1 W O w->OB r ob O w->
 cR prog main J (RX L) (DX L) 77 (cA (cA (cB (cB (cB dS))))) n (bh (fun O' a' w'=>Dw a' pr key/\a'.tmps[5]?=some (.pointer (some ⟨r,0,none⟩))/\∃it,W.heap.size<=it/\it≠r/\O'.own it/\a'.tmps[29]?=some (.pointer (some ⟨it,0,none⟩))/\bG L O1 W O' w'/\OB r ob O' w'/\w'.ranges prog 9 aV qm it nn D (Maps.has D) (Maps.size D)) Q) O a w:=by
 co_apply Exists.intro;intro pr qm f qb p wn hv tv ts fm nn D r ob key O1 W O a w Q hQ hown hl g5 hF hB;dsimp only[dS,cA,cB,cI,cT,cE,f77,Option.getD_some];obtain⟨hd,hsz,g0,g1⟩:=hl;obtain⟨fv,hT,aL⟩:=AQ hd hsz;subst hT;simp only[aL 0 _ g0,aL 1 _ g1,aL 5 _ g5];clear hd hsz aL g0 g1 g5;have hG:=And.intro hF hB;clear hF hB;have rl:∀{o:Obj} {O2:aI} {Wa Wb:af},(bG L O1 W O2 Wa/\OB r o O2 Wa)->RX L O2 Wa Wb->(bG L O1 W O2 Wb/\OB r o O2 Wb):=fun h x=>⟨h.1.rely x,h.2.rely x⟩
 co_apply (gJ);co_apply (ox);intro _ hG;co_apply (ox);intro _ hG;co_apply (ox);intro _ hG;(co_apply aN rfl (by rfl);intro _ hR K hK;replace hG:=rl hG hR;clear hR;(have hc:=hG.1.aZ hQ.cell hQ.fp);go_simp;refine hK _ ⟨?_,?_⟩;(focus(refine DX.still _ _ (cC (a:=⟨pr,4,none⟩) (.inl hQ.fp) fun e he=>?_);have hm:=mem_listed he;simp[go_sem,hc]at hm;exact hm));clear hK K;try walk_nrm);clear hc;co_apply Eo rfl (by rfl) _ 135 rfl 9 139 fT underlying135 qm nn D (by rfl) hQ.fq (xR hown hQ.fq hG.1.rel);rintro W1 W2 hR ⟨o2,rfl⟩ mC;replace hG:=rl hG hR;clear hR;have hit:W.heap.size<=W1.heap.size:=hG.1.rel.le;have hne:W1.heap.size≠r:=Nat.ne_of_gt hG.2.lt;have hnew:(O.grow W1 (W1.alloc o2)).own W1.heap.size:=.inr ⟨zb3 _,by rw[wQ];omega⟩;have hE:=And.intro (hG.1.alloc o2) (hG.2.alloc o2);clear hG;generalize (O.grow W1 (W1.alloc o2))=O2 at hE hnew⊢;generalize (W1.alloc o2)=W2 at hE mC⊢;generalize W1.heap.size=it at hit hne hnew mC⊢;try walk_nrm
 co_apply (gJ);exact⟨⟨rfl,rfl,rfl,rfl⟩,rfl,it,hit,hne,hnew,rfl,hE.1,hE.2,mC⟩
end
section
open Go Go.Conc Go.RowKit Go.MuLone Go.Maps
variable {main:Bool}{J:Jm}{L:dY}
noncomputable def GI:Code:=cI (cI (cB (cA (cB (cB (cB dS))))))
def afg:∃n,∀(pr qm:Nat) (f:Lit->Option aj) (qb:ah->Nat) (p:ah->Prop) (nn:Nat) (D:DataW aj) (left:Lit->Bool) (cnt:Nat) (r it:Nat) (ob:Obj) (key:ah) (O1:aI) (W:af) (O:aI) (a:Act) (w:af) (Q:ep),
 L.Fx qm->Says D f->(∀x u,f (.string x.data.toList)=some u->u=.pointer (some ⟨qb x,0,none⟩)/\p x)->Dw a pr key->a.tmps[5]?=some (.pointer (some ⟨r,0,none⟩))->a.tmps[29]?=some (.pointer (some ⟨it,0,none⟩))->W.heap.size<=it->it≠r->O.own it->bG L O1 W O w->OB r ob O w->w.ranges prog 9 aV qm it nn D left cnt->
 cR prog main J (RX L) (DX L) 77 (cA GI) n (bh (fun O' a' w'=>Dw a' pr key/\a'.tmps[5]?=some (.pointer (some ⟨r,0,none⟩))/\a'.tmps[29]?=some (.pointer (some ⟨it,0,none⟩))/\O'.own it/\bG L O1 W O' w'/\OB r ob O' w'/\
  ((a'.tmps[31]?=some (.bool false)/\∀kl,left kl=false)\/(a'.tmps[31]?=some (.bool true)/\∃(x:ah) (cnt':Nat),p x/\left (.string x.data.toList)=true/\cnt'<cnt/\w'.ranges prog 9 aV qm it nn D (fun z=>left z && !z.sameKey (.string x.data.toList)) cnt'/\(Instr.entry (.pointer (some ⟨it,0,none⟩))).run prog w'=.ok (.tuple #[.string x,.pointer (some ⟨qb x,0,none⟩)]) w'))) Q) O a w:=by
 co_apply Exists.intro
 intro pr qm f qb p nn D left cnt r it ob key O1 W O a w Q MQ hs Xa hl g5 F1 hit hne hown hF hB mC
 dsimp only[GI,dS,cA,cB,cI,cT,cE,f77,Option.getD_some]
 obtain⟨hd,hsz,g0,g1⟩:=hl
 obtain⟨fv,hT,aL⟩:=AQ hd hsz
 subst hT
 simp only[aL 0 _ g0,aL 1 _ g1,aL 5 _ g5,aL 29 _ F1]
 clear hd hsz aL g0 g1 g5 F1
 have rl:∀{o:Obj} {O2:aI} {Wa Wb:af},(bG L O1 W O2 Wa/\OB r o O2 Wa)->RX L O2 Wa Wb->(bG L O1 W O2 Wb/\OB r o O2 Wb):=fun h x=>⟨h.1.rely x,h.2.rely x⟩
 co_apply (gJ)
 co_apply GF rfl (by rfl) _ rfl 9 fT underlying9 qm it nn D f hs qb p Xa left cnt (by rfl) MQ hown mC
 ·intro W1 hR hall
  have hG:=rl (And.intro hF hB) hR
  clear hR hF hB mC
  try walk_nrm
  co_apply (ox);intro _ hG
  co_apply (gJ)
  exact⟨⟨rfl,rfl,rfl,rfl⟩,rfl,rfl,hown,hG.1,hG.2,.inl ⟨rfl,hall⟩⟩
 ·intro W1 hR x W2 cnt' hp K1 OG hlt hT sj
  have hG:=rl (And.intro hF hB) hR
  clear hR hF hB mC
  have hE:=And.intro (hT.wN hG.1 hit) (hT.ob hG.2 (Ne.symm hne))
  clear hG
  have hH:Hid (w.heap.size=w.heap.size):=rfl
  have iz:qm<W2.heap.size:=OG.owns.lt
  have j9:it<W2.heap.size:=OG.lt
  try walk_nrm
  co_apply aN rfl (by rfl)
  intro W3 hR K hK
  have afh:=mz OG MQ hown hR
  have afi:(Instr.entry (.pointer (some ⟨it,0,none⟩))).run prog W3=.ok (.tuple #[.string x,.pointer (some ⟨qb x,0,none⟩)]) W3:=by obtain⟨es,clock,since,seen,c0,KX,_,_,_,W9,_⟩:=OG;exact entry_eq W9 KX ((hR.blk it j9 (.inl hown)).trans W9) ((hR.blk qm iz (.inr MQ)).trans KX) sj
  replace hE:=rl hE hR
  clear hR OG sj
  go_simp
  refine hK _ ⟨?_,?_⟩
  ·(rw[listed_nil (by simp[go_sem])];exact DX.idle _ _)
  clear hK K
  try walk_nrm
  co_apply (gJ)
  exact⟨⟨rfl,rfl,rfl,rfl⟩,rfl,rfl,hown,hE.1,hE.2,.inr ⟨rfl,x,cnt',hp,K1,hlt,afh,afi⟩⟩
def afj:∃n,∀(pr qm:Nat) (qx:Nat) (x:ah) (nn:Nat) (D:DataW aj) (left:Lit->Bool) (cnt:Nat) (r it:Nat) (ob:Obj) (key:ah) (O1:aI) (W:af) (O:aI) (a:Act) (w:af) (Q:ep),
 L.Fx qm->Dw a pr key->a.tmps[5]?=some (.pointer (some ⟨r,0,none⟩))->a.tmps[29]?=some (.pointer (some ⟨it,0,none⟩))->O.own it->bG L O1 W O w->OB r ob O w->w.ranges prog 9 aV qm it nn D left cnt->(Instr.entry (.pointer (some ⟨it,0,none⟩))).run prog w=.ok (.tuple #[.string x,.pointer (some ⟨qx,0,none⟩)]) w->
 cR prog main J (RX L) (DX L) 77 (cA (cI (cB (cB GI)))) n (bh (fun O' a' w'=>Dw a' pr key/\a'.tmps[5]?=some (.pointer (some ⟨r,0,none⟩))/\a'.tmps[29]?=some (.pointer (some ⟨it,0,none⟩))/\a'.tmps[7]?=some (.pointer (some ⟨qx,0,none⟩))/\O'.own it/\bG L O1 W O' w'/\OB r ob O' w'/\w'.ranges prog 9 aV qm it nn D left cnt) Q) O a w:=by
 co_apply Exists.intro;intro pr qm qx x nn D left cnt r it ob key O1 W O a w Q MQ hl g5 F1 hown hF hB mC sj;dsimp only[GI,dS,cA,cB,cI,cT,cE,f77,Option.getD_some];obtain⟨hd,hsz,g0,g1⟩:=hl;obtain⟨fv,hT,aL⟩:=AQ hd hsz;subst hT;simp only[aL 0 _ g0,aL 1 _ g1,aL 5 _ g5,aL 29 _ F1];clear hd hsz aL g0 g1 g5 F1;have hG:=And.intro (And.intro hF hB) mC;clear hF hB;have rl:∀{o:Obj} {Wa Wb:af},((bG L O1 W O Wa/\OB r o O Wa)/\Wa.ranges prog 9 aV qm it nn D left cnt)->RX L O Wa Wb->((bG L O1 W O Wb/\OB r o O Wb)/\Wb.ranges prog 9 aV qm it nn D left cnt):=fun h x=>⟨⟨h.1.1.rely x,h.1.2.rely x⟩,mz h.2 MQ hown x⟩
 co_apply (gJ);co_apply Ep rfl (by rfl) _ rfl qm it nn D left cnt (by rfl) MQ hown mC sj;intro W1 hR;replace hG:=rl hG hR;clear hR mC sj;try walk_nrm
 co_apply (ox);intro _ hG;co_apply (ox);intro _ hG;co_apply (gJ);exact⟨⟨rfl,rfl,rfl,rfl⟩,rfl,rfl,rfl,hown,hG.1.1,hG.1.2,hG.2⟩
end
section
open Go Go.Conc Go.RowKit Go.MuLone Go.Maps
variable {main:Bool}{J:Jm}{L:dY}
def U3(L:dY)(W:af)(r:Nat)(ob:Obj)(w:af):Prop:=iS L W w/\w.heap[r]?=some ob
def afo:∃n,∀(pr qm:Nat) (qx nx n1:Nat) (hx h1:Bool) (tx t1:ah) (sx s1:aj) (fx:ah->Bool) (nn:Nat) (D:DataW aj) (left:Lit->Bool) (cnt:Nat) (r it:Nat) (key:ah) (O1:aI) (W:af) (O:aI) (a:Act) (w:af) (Q:ep),
 L.Fx qm->L.Fx qx->W.cell? ⟨qx,2,none⟩=some (.int .i64 nx)->W.cell? ⟨qx,3,none⟩=some (.bool hx)->W.cell? ⟨qx,4,none⟩=some (.string tx)->W.cell? ⟨qx,5,none⟩=some sx->rA L W sx fx->key.size<=1000->Dw a pr key->a.tmps[5]?=some (.pointer (some ⟨r,0,none⟩))->a.tmps[29]?=some (.pointer (some ⟨it,0,none⟩))->a.tmps[7]?=some (.pointer (some ⟨qx,0,none⟩))->W.heap.size<=r->O.own it->bG L O1 W O w->OB r (.cells #[.int .i64 n1,.bool h1,.string t1,s1] 144) O w->w.ranges prog 9 aV qm it nn D left cnt->
 (n1<nx->fx key=true->∀O' a' w',a'.defers= []->a'.tmps[4]?=some (.bool false)->bG L O1 W O' w'->Q O' .ret a' w')->
 cR prog main J (RX L) (DX L) 77 (cB (cI (cB (cB GI)))) n (bh (fun O' a' w'=>¬(n1<nx/\fx key=true)/\Dw a' pr key/\a'.tmps[5]?=some (.pointer (some ⟨r,0,none⟩))/\a'.tmps[29]?=some (.pointer (some ⟨it,0,none⟩))/\O'.own it/\bG L O1 W O' w'/\OB r (.cells #[.int .i64 n1,.bool h1,.string t1,s1] 144) O' w'/\w'.ranges prog 9 aV qm it nn D left cnt) Q) O a w:=by
 obtain⟨nm,hmay⟩:=aaG (main:=main) (J:=J) (L:=L);co_apply Exists.intro;intro pr qm qx nx n1 hx h1 tx t1 sx s1 fx nn D left cnt r it key O1 W O a w Q MQ Jo c2 c3 c4 c5 afp hz hl g5 F1 g7 hrW hown hF hB mC hQ;dsimp only[GI,dS,cA,cB,cI,cT,cE,f77,Option.getD_some];obtain⟨hd,hsz,g0,g1⟩:=hl;obtain⟨fv,hT,aL⟩:=AQ hd hsz;subst hT;simp only[aL 0 _ g0,aL 1 _ g1,aL 5 _ g5,aL 29 _ F1,aL 7 _ g7];clear hd hsz aL g0 g1 g5 F1 g7;have hQ':Hid (n1<nx->fx key=true->∀O' a' w',a'.defers= []->a'.tmps[4]?=some (.bool false)->bG L O1 W O' w'->Q O' .ret a' w'):=hQ;clear hQ;have hG:=And.intro (And.intro hF hB) mC;clear hF hB mC;have rl:∀{o:Obj} {O2:aI} {Wa Wb:af},O2.own it->((bG L O1 W O2 Wa/\OB r o O2 Wa)/\Wa.ranges prog 9 aV qm it nn D left cnt)->RX L O2 Wa Wb->((bG L O1 W O2 Wb/\OB r o O2 Wb)/\Wb.ranges prog 9 aV qm it nn D left cnt):=fun ho h x=>⟨⟨h.1.1.rely x,h.1.2.rely x⟩,mz h.2 MQ ho x⟩
 have ak8:r<w.heap.size:=hG.1.2.lt;have hSR:∀(O':aI) (x y:af),(∀i,O.own i->O'.own i)->U3 L W r (.cells #[.int .i64 (n1:Int),.bool h1,.string t1,s1] 144) x->RX L O' x y->U3 L W r (.cells #[.int .i64 (n1:Int),.bool h1,.string t1,s1] 144) y:=
  fun O' x y hO hx hr=>⟨hx.1.rely hr,(hr.blk r (zb4.1 hx.2).1 (.inl (hO r hG.1.2.own))).trans hx.2⟩
 have Xd:∀{x:af},U3 L W r (.cells #[.int .i64 (n1:Int),.bool h1,.string t1,s1] 144) x->x.cell? ⟨r,0,none⟩=some (.int .i64 (n1:Int)):=fun h=>by simp[World.cell?,h.2]
 co_apply oQ (aF L);co_apply gi (aF L) DX.draw (c:=nm+Du) (O0:=O) (S:=U3 L W r (.cells #[.int .i64 (n1:Int),.bool h1,.string t1,s1] 144)) (by unfold Du;omega) (by first|kernel_rfl|rfl);intro W1 hR;replace hG:=rl hown (rl hown hG hR) (RX.draw _ _);clear hR;simp only[List.size_toArray,List.length_cons,List.length_nil,Nat.reduceAdd,Nat.zero_add];co_applyP Rn hSR (fun _ _ _ _ h r=>kM (aF L) h r) (fun _ h=>h) ⟨iS.of hG.1.1.rel,hG.1.2.heap⟩;intro hb;(co_applyP (pX hb (i:=0));try walk_nrm);(co_applyP (pX hb (i:=1));try walk_nrm);(co_applyP (pX hb (i:=2));try walk_nrm);(co_applyP (pX hb (i:=3));try walk_nrm);(co_applyP AR hb (i:=4) rfl (by kernel_rfl) (by rfl) (fun _ _ hO hw=>?b5);(case b5=>((have hc:=iS.aZ hw.1 c2 Jo);refine⟨fun K hK=>?_,?_⟩;(focus(go_simp;exact hK));(refine DX.still _ _ (cC (a:=⟨qx,2,none⟩) (.inl Jo) fun e he=>?_);have hm:=mem_listed he;simp[go_sem,hc]at hm;exact hm)));try walk_nrm);(co_applyP (pX hb (i:=5));try walk_nrm);(co_applyP AR hb (i:=6) rfl (by kernel_rfl) (by rfl) (fun _ _ hO hw=>?b7);(case b7=>((have hc:=Xd hw);refine⟨fun K hK=>?_,?_⟩;(focus(go_simp;exact hK));(refine DX.still _ _ (cO (b:=false) (hO _ hG.1.2.own) fun e he=>?_);have hm:=mem_listed he;simp[go_sem,hc]at hm;exact⟨_,hm,rfl⟩)));try walk_nrm);(co_applyP (pX hb (i:=7));try walk_nrm);by_cases hlt:n1<nx
 ·have e1:decide (n1<nx)=true:=by simp[hlt]
  simp only[e1];clear e1;(co_applyP (pX hb (i:=8));try walk_nrm);(co_applyP (pX hb (i:=9));try walk_nrm);(co_applyP (pX hb (i:=10));try walk_nrm);(co_applyP (pX hb (i:=11));try walk_nrm);(co_applyP AR hb (i:=12) rfl (by kernel_rfl) (by rfl) (fun _ _ hO hw=>?b13);(case b13=>((have q2:=iS.aZ hw.1 c2 Jo;have q3:=iS.aZ hw.1 c3 Jo;have q4:=iS.aZ hw.1 c4 Jo;have q5:=iS.aZ hw.1 c5 Jo);refine⟨fun K hK=>?_,?_⟩;(focus(go_simp;exact hK));(refine DX.still _ _ (GH Jo fun e he=>?_);have hm:=mem_listed he;simp[go_sem,q2,q3,q4,q5]at hm;rcases hm with rfl|rfl|rfl|rfl<;>exact⟨_,rfl,rfl⟩)));try walk_nrm);(co_applyP (pX hb (i:=13));try walk_nrm);refine jN (rs:= [14]) (by kernel_rfl) (by simp) fun i hi=>?_;obtain rfl:i=14:=by simpa using hi
  refine .inr ⟨116,_,_,nm,_,zb3 _,rfl,by walk_nrm;exact hmay key (nx:Int) hx tx sx fx _ _ (afp.rx hG.1.1.rel) hz hG.1.1.top,?_⟩;rintro O2 y W2 ⟨rfl,hF2⟩;have oG:(∀i,O.own i->O2.own i)/\((bG L O1 W O2 W2/\OB r (.cells #[.int .i64 (n1:Int),.bool h1,.string t1,s1] 144) O2 W2)/\W2.ranges prog 9 aV qm it nn D left cnt):=⟨hF2.own,⟨hG.1.1.trans hF2,hG.1.2.wN hF2⟩,mz hG.2 MQ hown hF2.rel⟩
  have aaK:O2.own it:=hF2.own _ hown;clear hG hF2;refine⟨⟨oG.1,iS.of oG.2.1.1.rel,oG.2.1.2.heap⟩,?_⟩;walk_nrm;co_applyP Rn hSR (fun _ _ _ _ h r=>kM (aF L) h r) oG.1 ⟨iS.of oG.2.1.1.rel,oG.2.1.2.heap⟩;intro hb;(co_applyP (pX hb (i:=15));try walk_nrm);refine ko (by kernel_rfl) ?_ _;replace hG:=oG.2;clear oG;co_then;co_apply aU (aF L) (t:=fx key)
  ·simp[Act.eval]
  ·intro ht;have hG1:=hG.1.1;clear hG;co_apply (gJ);(co_apply (uE);intro _ hR;replace hG1:=hG1.rely hR;clear hR;refine⟨by simp[go_sem],fun K z=>?_⟩;go_simp;refine z _ ?_;clear z K;try walk_nrm);co_apply (gJ);exact hQ'.out hlt ht _ _ _ rfl rfl hG1
  ·intro ht;co_apply (gJ);exact⟨(fun h=>by rw[h.2]at ht;cases ht),⟨rfl,rfl,rfl,rfl⟩,rfl,rfl,aaK,hG.1.1,hG.1.2,hG.2⟩
 ·have e1:decide (n1<nx)=false:=by simp[hlt]
  simp only[e1];clear e1;co_applyP Rn hSR (fun _ _ _ _ h r=>kM (aF L) h r) (fun _ h=>h) ⟨iS.of hG.1.1.rel,hG.1.2.heap⟩;intro hb;(co_applyP (pX hb (i:=8));try walk_nrm);(co_applyP YR hb (i:=9) rfl (by kernel_rfl) (by rfl);try walk_nrm);(co_applyP YR hb (i:=10) rfl (by kernel_rfl) (by rfl);try walk_nrm);(co_applyP YR hb (i:=11) rfl (by kernel_rfl) (by rfl);try walk_nrm);(co_applyP YR hb (i:=12) rfl (by kernel_rfl) (by rfl);try walk_nrm);(co_applyP YR hb (i:=13) rfl (by kernel_rfl) (by rfl);try walk_nrm);(co_applyP YR hb (i:=14) rfl (by kernel_rfl) (by rfl);try walk_nrm);(co_applyP (pX hb (i:=15));try walk_nrm);refine ko (by kernel_rfl) ?_ _;co_then;co_apply aU (aF L) (t:=false)
  ·simp[Act.eval]
  ·intro ht;cases ht
  ·intro ht;co_apply (gJ);exact⟨fun h=>hlt h.1,⟨rfl,rfl,rfl,rfl⟩,rfl,rfl,hown,hG.1.1,hG.1.2,hG.2⟩
end
section
open Go Go.Conc Go.RowKit Go.MuLone Go.Maps
variable {main:Bool}{J:Jm}{L:dY}
def xT(p:ah->Prop)(wn:ah->Nat)(hv:ah->Bool)(fm:ah->ah->Bool)(key:ah):Prop:=
 ¬(wn key≠0/\hv key=false)/\∀x,p x->¬(wn key<wn x/\fm x key=true)
def SX{x y:ah}(h:Lit.string x.data.toList=Lit.string y.data.toList):x=y:=by injection h with h;exact ByteArray.ext (Array.toList_inj.1 h)
def OJ:∃n,∀(pr qm:Nat) (f:Lit->Option aj) (qb:ah->Nat) (p:ah->Prop) (wn:ah->Nat) (hv:ah->Bool) (tv:ah->ah) (ts:ah->aj) (fm:ah->ah->Bool) (nn:Nat) (D:DataW aj) (r it:Nat) (key:ah) (O1:aI) (W:af) (Q:ep),
 MP L W pr qm f qb p wn hv tv ts fm->Says D f->key.size<=1000->W.heap.size<=r->W.heap.size<=it->it≠r->
 ((∃x,p x/\wn key<wn x/\fm x key=true)->∀O' a' w',a'.defers= []->a'.tmps[4]?=some (.bool false)->bG L O1 W O' w'->Q O' .ret a' w')->
 ((∀x,p x->¬(wn key<wn x/\fm x key=true))->∀O' a' w',Dw a' pr key->bG L O1 W O' w'->Q O' (.exit 0) a' w')->
 ∀(j:Nat) (O:aI) (a:Act) (w:af),
 (∃(left:Lit->Bool) (cnt:Nat),cnt<=j/\Dw a pr key/\a.tmps[5]?=some (.pointer (some ⟨r,0,none⟩))/\a.tmps[29]?=some (.pointer (some ⟨it,0,none⟩))/\O.own it/\bG L O1 W O w/\OB r (.cells #[.int .i64 (wn key),.bool (hv key),.string (tv key),ts key] 144) O w/\w.ranges prog 9 aV qm it nn D left cnt/\∀x,p x->left (.string x.data.toList)=false->¬(wn key<wn x/\fm x key=true))->
 cR prog main J (RX L) (DX L) 77 GI n (bh (fun O' a' w'=>∃j',j'<j/\
  (∃(left:Lit->Bool) (cnt:Nat),cnt<=j'/\Dw a' pr key/\a'.tmps[5]?=some (.pointer (some ⟨r,0,none⟩))/\a'.tmps[29]?=some (.pointer (some ⟨it,0,none⟩))/\O'.own it/\bG L O1 W O' w'/\OB r (.cells #[.int .i64 (wn key),.bool (hv key),.string (tv key),ts key] 144) O' w'/\w'.ranges prog 9 aV qm it nn D left cnt/\∀x,p x->left (.string x.data.toList)=false->¬(wn key<wn x/\fm x key=true))) Q) O a w:=by
 obtain⟨n5,h5⟩:=afg (main:=main) (J:=J) (L:=L)
 obtain⟨n6,h6⟩:=afj (main:=main) (J:=J) (L:=L)
 obtain⟨n7,h7⟩:=afo (main:=main) (J:=J) (L:=L)
 co_apply Exists.intro
 intro pr qm f qb p wn hv tv ts fm nn D r it key O1 W Q wR hs hz hrW hit hne hQ hE j O a w hI
 obtain⟨left,cnt,dZ,hl,g5,F1,hown,hF,hB,mC,Jt⟩:=hI
 co_apply aK (aF L) (x:=cA GI) (y:=cB GI) _
 focus exact h5 pr qm f qb p nn D left cnt r it _ key O1 W _ _ _ _ wR.fq hs wR.meets hl g5 F1 hit hne hown hF hB mC
 rintro O a w ⟨hl,g5,F1,hown,hF,hB,jm⟩
 co_apply oQ (aF L) (x:=cA (cB GI)) (y:=cB (cB GI))
 rcases jm with⟨g31,hall⟩|⟨g31,x,cnt',hp,K1,hlt,mC,sj⟩
 ·co_apply aU (aF L) (t:=false)
  ·simp[Act.eval,g31]
  ·intro h;cases h
  ·intro _
   co_apply sV (aF L)
   exact hE (fun x hx=>Jt x hx (hall _)) _ _ _ hl hF
 ·co_apply aU (aF L) (t:=true)
  ·simp[Act.eval,g31]
  ·intro _
   co_apply iT (aF L)
   co_then
   co_apply fE (aF L) (c:=cI (cB (cB GI)))
   co_apply aK (aF L) (x:=cA (cI (cB (cB GI)))) (y:=cB (cI (cB (cB GI)))) _
   focus exact h6 pr qm (qb x) x nn D _ cnt' r it _ key O1 W _ _ _ _ wR.fq hl g5 F1 hown hF hB mC sj
   rintro O a w ⟨hl,g5,F1,g7,hown,hF,hB,mC⟩
   refine oR (h7 pr qm (qb x) (wn x) (wn key) (hv x) (hv key) (tv x) (tv key) (ts x) (ts key) (fm x) nn D _ cnt' r it key O1 W O a w (iU 1 (bh (fun _ _ _=>False) Q)) wR.fq (wR.fx x hp) (wR.c2 x hp) (wR.c3 x hp) (wR.c4 x hp) (wR.c5 x hp) (wR.KY x hp) hz hl g5 F1 g7 hrW hown hF hB mC ?_) ?_
   ·intro q1 q2 O' a' w' q3 q4 q5
    exact hQ ⟨x,hp,q1,q2⟩ O' a' w' q3 q4 q5
   ·intro O' e a' w' q
    cases e with
    |normal=>
     obtain⟨q1,q2,q3,q4,q5,q6,q7,q8⟩:=q
     refine⟨cnt',by omega,_,cnt',zb3 _,q2,q3,q4,q5,q6,q7,q8,fun y hy hly=>?_⟩
     by_cases e:y=x
     ·subst e;exact q1
     ·have hk:(Lit.string y.data.toList).sameKey (.string x.data.toList)=false:=Maps.sameKey_ne fun h=>e (SX h)
      rw[hk]at hly
      exact Jt y hy (by simpa using hly)
    |exit id=>
     simp only[bh,iU,Exit.then,Exit.inBlock]at q⊢
     split at q
     ·exact q.elim
     ·rename_i hid
      rw[if_neg hid]
      exact q
    |_=>exact q
  ·intro h;cases h
def aft:∃n,∀(pr qm:Nat) (f:Lit->Option aj) (qb:ah->Nat) (p:ah->Prop) (wn:ah->Nat) (hv:ah->Bool) (tv:ah->ah) (ts:ah->aj) (fm:ah->ah->Bool) (key:ah) (O:aI) (w:af),
 MP L w pr qm f qb p wn hv tv ts fm->(∀(u:af) (n:Nat) (D:DataW aj),u.ownsMap prog 9 aV qm n D->Says D f->Maps.size D<=8)->(∀x,p x->(f (.string x.data.toList)).isSome=true)->key.size<=1000->f (.string key.data.toList)=some (.pointer (some ⟨qb key,0,none⟩))->p key->L.N<=w.heap.size->
 bE prog main J (RX L) (DX L) 77 #[.pointer (some ⟨pr,0,none⟩),.string key] n O w fun O' v w'=>∃b:Bool,v=.bool b/\(b=true↔xT p wn hv fm key)/\bG L O w O' w':=by
 obtain⟨n1,h1⟩:=afc (main:=main) (J:=J) (L:=L);obtain⟨n2,h2⟩:=afe (main:=main) (J:=J) (L:=L);obtain⟨n4,h4⟩:=aff (main:=main) (J:=J) (L:=L);obtain⟨nr,hr⟩:=OJ (main:=main) (J:=J) (L:=L);co_apply Exists.intro;intro pr qm f qb p wn hv tv ts fm key O w wR h8 hsome hz hf hp hN;have hF:bG L O w O w:=bG.refl hN;co_apply bF func77 (by rfl) rfl;walk_nrmf ntmps77;obtain⟨W,hW⟩:∃W,W=w:=⟨_,rfl⟩
 obtain⟨O1,hO⟩:∃O1,O1=O:=⟨_,rfl⟩
 rw[<-hW,<-hO]at hF⊢;rw[<-hW]at wR;clear hW hO;obtain⟨nn,D,hown,hs⟩:=wR.map;have fin:∀(b:Bool),(b=true↔xT p wn hv fm key)->∀(O':aI) (a':Act) (w':af),a'.defers= []->a'.tmps[4]?=some (.bool b)->bG L O1 W O' w'->nY prog main J (RX L) (DX L) 0 77 f77 (fun O' v w'=>∃b:Bool,v=.bool b/\(b=true↔xT p wn hv fm key)/\bG L O1 W O' w') O' .ret a' w':=by intro b hb O' a' w' hd h4 Xe;refine .inl ⟨hd,.bool b,bR (aF L) ?_,b,rfl,hb,Xe⟩;have:=resultsC_tmp (P:=prog) (fn:=f77) (by rfl) a'.tmps;simpa[Array.getD_eq_getD_getElem?,h4]using this
 change cR prog main J (RX L) (DX L) 77 dS _ _ _ _ _;co_apply aK (aF L) (x:=cA dS) (y:=cB dS) (fun O' a' w'=>Dw a' pr key/\bG L O1 W O' w')
 ·dsimp only[dS,cA,cB,cI,cT,cE,f77,Option.getD_some];co_apply (gJ);co_apply (jY);intro _ hF;co_apply (gJ);exact⟨⟨rfl,rfl,rfl,rfl⟩,hF⟩
 rintro O a w ⟨hl,hF⟩;co_apply aK (aF L) (x:=cA (cB dS)) (y:=cB (cB dS)) _;focus exact h1 pr qm f qb p wn hv tv ts fm key O1 W _ _ _ _ wR hz hf hp hl hF
 rintro O a w ⟨hl,r,hrW,g5,hF,hB⟩;co_apply aK (aF L) (x:=cA (cB (cB dS))) (y:=cB (cB (cB dS))) _;focus exact h2 pr r (wn key) (hv key) (tv key) (ts key) key O1 W _ _ _ _ hl g5 hF hB (fun q1 q2 O' a' w' q3 q4 q5=>fin false ⟨(fun h=>by cases h),fun h=>absurd ⟨q1,q2⟩ h.1⟩ O' a' w' q3 q4 q5)
 rintro O a w ⟨hhas,hl,g5,hF,hB⟩;co_apply aK (aF L) (x:=cA (cB (cB (cB dS)))) (y:=cB (cB (cB (cB dS)))) (fun O' a' w'=>(∀x,p x->¬(wn key<wn x/\fm x key=true))/\Dw a' pr key/\bG L O1 W O' w')
 ·co_apply aK (aF L) (x:=cA (cA (cB (cB (cB dS))))) (y:=cB (cA (cB (cB (cB dS))))) _;focus exact h4 pr qm f qb p wn hv tv ts fm nn D r _ key O1 W _ _ _ _ wR hown hl g5 hF hB
  rintro O a w ⟨hl,g5,it,hit,hne,hoi,F1,hF,hB,mC⟩;co_apply fE (aF L) (c:=cI (cB (cA (cB (cB (cB dS))))));co_apply mq (aF L) (c:=GI) (N:=8) (fun j O' a' w'=>∃(left:Lit->Bool) (cnt:Nat),cnt<=j/\Dw a' pr key/\a'.tmps[5]?=some (.pointer (some ⟨r,0,none⟩))/\a'.tmps[29]?=some (.pointer (some ⟨it,0,none⟩))/\O'.own it/\bG L O1 W O' w'/\OB r (.cells #[.int .i64 (wn key),.bool (hv key),.string (tv key),ts key] 144) O' w'/\w'.ranges prog 9 aV qm it nn D left cnt/\∀x,p x->left (.string x.data.toList)=false->¬(wn key<wn x/\fm x key=true)) nr
  ·refine⟨_,_,h8 _ _ D hown hs,hl,g5,F1,hoi,hF,hB,mC,fun x hx K1=>?_⟩;have:=hsome x hx;rw[<-hs.2,K1]at this;cases this
  ·intro j O a w hI;exact hr pr qm f qb p wn hv tv ts fm nn D r it key O1 W _ wR hs hz hrW hit hne (fun⟨x,q1,q2,q3⟩ O' a' w' q4 q5 q6=>fin false ⟨(fun h=>by cases h),fun h=>absurd ⟨q2,q3⟩ (h.2 x q1)⟩ O' a' w' q4 q5 q6) (fun q O' a' w' q1 q2=>⟨q,q1,q2⟩) j O a w hI
 rintro O a w ⟨hall,hl,hF⟩;obtain⟨tms,w8⟩:=a;obtain⟨hd,hsz,g0,g1⟩:=hl;simp only at hd hsz g0 g1;subst hd;dsimp only[dS,cA,cB,cI,cT,cE,f77,Option.getD_some];co_apply (gJ);co_apply (jY);intro _ hF;co_apply (gJ);exact fin true ⟨fun _=>⟨hhas,hall⟩,fun _=>rfl⟩ _ _ _ rfl (by simp[hsz]) hF
end
section
open Go Go.Conc Go.RowKit Go.MuLone Go.Maps
variable {main:Bool}{J:Jm}{L:dY}
def sW(hd:a.defers=ds)(h:a.tmps.size=61):∃f:Nat->aj,a=⟨#[f 0,f 1,f 2,f 3,f 4,f 5,f 6,f 7,f 8,f 9,f 10,f 11,f 12,f 13,f 14,f 15,f 16,f 17,f 18,f 19,f 20,f 21,f 22,f 23,f 24,f 25,f 26,f 27,f 28,f 29,f 30,f 31,f 32,f 33,f 34,f 35,f 36,f 37,f 38,f 39,f 40,f 41,f 42,f 43,f 44,f 45,f 46,f 47,f 48,f 49,f 50,f 51,f 52,f 53,f 54,f 55,f 56,f 57,f 58,f 59,f 60],ds⟩/\∀i v,a.tmps[i]?=some v->f i=v:=uC hd (oK a.tmps 61 h)
noncomputable def lO:Code:=f44.body.getD .skip
noncomputable def wS:Code:=cB (cB (cB (cB (cB lO))))
noncomputable def AU:Code:=cI (cI (cB (cA wS)))
structure xU(a:Act)(pr ba bc wg:Nat)(asked:Nat):Prop where
 d:a.defers= []
 size:a.tmps.size=61
 g0:a.tmps[0]?=some (.pointer (some ⟨pr,0,none⟩))
 g4:a.tmps[4]?=some (.pointer (some ⟨ba,0,none⟩))
 g5:a.tmps[5]?=some (.pointer (some ⟨bc,0,none⟩))
 g6:a.tmps[6]?=some (.int .i64 asked)
 g7:a.tmps[7]?=some (.pointer (some ⟨wg,0,none⟩))
structure Er(a:Act)(kb N bX i:Nat):Prop where
 zP:a.tmps[22]?=some (.slice (some ⟨kb,0,none⟩) N bX)
 zQ:a.tmps[23]?=some (.int .i64 N)
 wP:a.tmps[24]?=some (.int .i64 i)
def afu:∃n,∀(pr ba bc wg asked kb N bX:Nat) (O1:aI) (W:af) (O:aI) (a:Act) (w:af) (Q:ep),
 L.Fx pr->W.cell? ⟨pr,3,none⟩=some (.slice (some ⟨kb,0,none⟩) N bX)->N<=8->xU a pr ba bc wg asked->bG L O1 W O w->
 cR prog main J (RX L) (DX L) 44 (cA (cA wS)) n (bh (fun O' a' w'=>xU a' pr ba bc wg asked/\Er a' kb N bX 0/\bG L O1 W O' w') Q) O a w:=by co_apply Exists.intro;intro pr ba bc wg asked kb N bX O1 W O a w Q MT hk WQ hl hF;dsimp only[wS,lO,cA,cB,cI,cT,cE,f44,Option.getD_some];obtain⟨hd,hsz,g0,g4,g5,g6,g7⟩:=hl;obtain⟨fv,hT,aL⟩:=sW hd hsz;subst hT;simp only[aL 0 _ g0,aL 4 _ g4,aL 5 _ g5,aL 6 _ g6,aL 7 _ g7];clear hd hsz aL g0 g4 g5 g6 g7;co_apply (gJ);co_apply (jY);intro _ hF;co_apply (jY);intro _ hF;co_apply (jY);intro _ hF;(co_apply aN rfl (by rfl);intro _ hR K hK;replace hF:=bG.rely hF hR;clear hR;(have hc:=hF.aZ hk MT);go_simp;refine hK _ ⟨?_,?_⟩;(focus(refine DX.still _ _ (cC (a:=⟨pr,3,none⟩) (.inl MT) fun e he=>?_);have hm:=mem_listed he;simp[go_sem,hc]at hm;exact hm));clear hK K;try walk_nrm);clear hc;co_apply (jY);intro _ hF;co_apply (jY);intro _ hF;co_apply (gJ);exact⟨⟨rfl,rfl,rfl,rfl,rfl,rfl,rfl⟩,⟨rfl,rfl,rfl⟩,hF⟩
def afv:∃n,∀(pr ba bc wg asked kb N bX i:Nat) (key:ah) (O1:aI) (W:af) (O:aI) (a:Act) (w:af) (Q:ep),
 L.Fx kb->i<N->N<=8->W.cell? ⟨kb,i,none⟩=some (.string key)->xU a pr ba bc wg asked->Er a kb N bX i->bG L O1 W O w->
 cR prog main J (RX L) (DX L) 44 (cA (cI (cA (cB (cB AU))))) n (bh (fun O' a' w'=>xU a' pr ba bc wg asked/\Er a' kb N bX i/\∃b1 b4,W.heap.size<=b1/\W.heap.size<=b4/\a'.tmps[8]?=some (.pointer (some ⟨b4,0,none⟩))/\a'.tmps[9]?=some (.pointer (some ⟨b1,0,none⟩))/\bG L O1 W O' w'/\OB b1 (.cells #[.string key] 9) O' w'/\OB b4 (.cells #[.int .i64 i] 3) O' w') Q) O a w:=by
 co_apply Exists.intro;intro pr ba bc wg asked kb N bX i key O1 W O a w Q hfk hi WQ hk hl oB hF;dsimp only[AU,wS,lO,cA,cB,cI,cT,cE,f44,Option.getD_some];obtain⟨hd,hsz,g0,g4,g5,g6,g7⟩:=hl;obtain⟨zP,zQ,wP⟩:=oB;obtain⟨fv,hT,aL⟩:=sW hd hsz;subst hT;simp only[aL 0 _ g0,aL 4 _ g4,aL 5 _ g5,aL 6 _ g6,aL 7 _ g7,aL 22 _ zP,aL 23 _ zQ,aL 24 _ wP];clear hd hsz aL g0 g4 g5 g6 g7 zP zQ wP;co_apply (gJ);co_apply (jY);intro _ hF;co_apply (jY);intro _ hF;(co_apply aN rfl (by rfl);intro _ hR K hK;replace hF:=bG.rely hF hR;clear hR;(have hc:=hF.aZ hk hfk);go_simp;refine hK _ ⟨?_,?_⟩;(focus(refine DX.still _ _ (cC (a:=⟨kb,i,none⟩) (.inl hfk) fun e he=>?_);have hm:=mem_listed he;simp[go_sem,hc]at hm;exact hm));clear hK K;try walk_nrm);clear hc;co_apply bJ rfl (by rfl);intro W1 hR K hK;replace hF:=hF.rely hR;clear hR;go_simp;refine hK _ _ ⟨?_,?_⟩
 ·rw[listed_nil (by simp[go_sem])];exact DX.alloc _ _ _
 clear hK K;try walk_nrm
 have hr4:W.heap.size<=W1.heap.size:=hF.rel.le;have hH:=And.intro (hF.alloc (.cells #[.int .i64 0] 3)) (OB.new O W1 (.cells #[.int .i64 0] 3));clear hF;generalize (O.grow W1 (W1.alloc (.cells #[.int .i64 0] 3)))=O2 at hH⊢;generalize (W1.alloc (.cells #[.int .i64 0] 3))=W2 at hH⊢;generalize W1.heap.size=b4 at hH hr4⊢;co_apply bJ rfl (by rfl);intro W3 hR K hK;replace hH:=And.intro (hH.1.rely hR) (hH.2.rely hR);clear hR;go_simp;refine hK _ _ ⟨?_,?_⟩
 ·rw[listed_nil (by simp[go_sem])];exact DX.alloc _ _ _
 clear hK K;try walk_nrm
 have FZ:W.heap.size<=W3.heap.size:=hH.1.rel.le;have hne:b4≠W3.heap.size:=Nat.ne_of_lt hH.2.lt;have hG:=And.intro (hH.1.alloc (.cells #[.string ⟨#[]⟩] 9)) (And.intro (OB.new O2 W3 (.cells #[.string ⟨#[]⟩] 9)) (hH.2.alloc (.cells #[.string ⟨#[]⟩] 9)));clear hH;generalize (O2.grow W3 (W3.alloc (.cells #[.string ⟨#[]⟩] 9)))=O3 at hG⊢;generalize (W3.alloc (.cells #[.string ⟨#[]⟩] 9))=W4 at hG⊢;generalize W3.heap.size=b1 at hG FZ hne⊢;co_apply bJ rfl (by rfl);intro W5 hR K hK;replace hG:=And.intro (hG.1.rely hR) (And.intro (hG.2.1.rely hR) (hG.2.2.rely hR));clear hR;have hA:bg W5 b4 #[.int .i64 0] 3:=hG.2.2.heap;have t0:=hA.cell (o:=0) (v:=.int .i64 0) rfl;have z0:=hA.frozen 0;go_simp;try(unfold stored;go_simp)
 refine hK _ _ ⟨?_,?_⟩
 ·refine DX.own hG.2.2.own (dO.cell b4 0 W5 _) (cO (b:=true) hG.2.2.own fun e he=>?_);have hm:=mem_listed he;have E0:=fun es=>kL (P:=prog) (v:=.int .i64 (i:Int)) t0 z0 rfl es;simp[go_sem, *]at hm;exact⟨_,hm,rfl⟩
 clear hK K;have OK:=dO.cell b4 0 W5 (.int .i64 (i:Int));have hE:=And.intro (OK.wN hG.1 hr4) (And.intro (OK.ob hG.2.1 (Ne.symm hne)) (show OB b4 (.cells #[.int .i64 (i:Int)] 3) O3 (W5.setCell ⟨b4,0,none⟩ (.int .i64 (i:Int)))from⟨hG.2.2.own,by simpa[bg]using hA.set 0 (.int .i64 (i:Int))⟩));rw[O3.dz OK.size];clear hG hA t0 z0 OK;generalize (W5.setCell ⟨b4,0,none⟩ (.int .i64 (i:Int)))=W6 at hE⊢;try walk_nrm
 co_apply bJ rfl (by rfl);intro W7 hR K hK;replace hE:=And.intro (hE.1.rely hR) (And.intro (hE.2.1.rely hR) (hE.2.2.rely hR));clear hR;have hA:bg W7 b1 #[.string ⟨#[]⟩] 9:=hE.2.1.heap;have t0:=hA.cell (o:=0) (v:=.string ⟨#[]⟩) rfl;have z0:=hA.frozen 0;go_simp;try(unfold stored;go_simp)
 refine hK _ _ ⟨?_,?_⟩
 ·refine DX.own hE.2.1.own (dO.cell b1 0 W7 _) (cO (b:=true) hE.2.1.own fun e he=>?_);have hm:=mem_listed he;have E0:=fun es=>kL (P:=prog) (v:=.string key) t0 z0 rfl es;simp[go_sem, *]at hm;exact⟨_,hm,rfl⟩
 clear hK K;have hT1:=dO.cell b1 0 W7 (.string key);have hG:=And.intro (hT1.wN hE.1 FZ) (And.intro (show OB b1 (.cells #[.string key] 9) O3 (W7.setCell ⟨b1,0,none⟩ (.string key))from⟨hE.2.1.own,by simpa[bg]using hA.set 0 (.string key)⟩) (hT1.ob hE.2.2 hne));rw[O3.dz hT1.size];clear hE hA t0 z0 hT1;generalize (W7.setCell ⟨b1,0,none⟩ (.string key))=W8 at hG⊢;try walk_nrm
 co_apply (gJ);exact⟨⟨rfl,rfl,rfl,rfl,rfl,rfl,rfl⟩,⟨rfl,rfl,rfl⟩,b1,b4,FZ,hr4,rfl,rfl,hG.1,hG.2.1,hG.2.2⟩
end
section
open Go Go.Conc Go.RowKit Go.MuLone Go.Maps
section
variable {P:aB}{fn:ay}{a:Act}{w:af}{o:Oper}
def OL(m x:aD)(t:az)(hop:o.op=Op.lookup t m x false)
 (k e:az) (K:Keyed P k) (hk:P.underlying k=some .string) (ht:P.underlying t=some (.map k e)) {z:aj} (hz:∀w,(zeroValue e).run P w=.ok z w) (b:Nat) (f:Lit->Option aj) {L:dY} {O:aI} (hb:L.Fx b)
 (hm:a.eval m=.map (some b)) (h':aS w P k b f) (s:ah) (kl:Lit) (hx:a.eval x=.string s) (hkey:keyOf P k (.string s)=some kl) (v:aj) (hf:f kl=some v):
 (execOp a.eval o).run P w=.ok (.value v) w/\DX L O w w (listed P fn a o w):=by have hrun:=h'.look K ht (hz w) hkey;rw[hf]at hrun;refine⟨by simp[execOp,hop,hm,hx,hrun,Result.andThen],DX.still _ _ fun ev he=>?_⟩;obtain⟨_,_,⟨es,clock,KX,_⟩,_⟩:=h';have hmm:=mem_listed he;simp[execOp,hop,hm,hx]at hmm;rw[xQ hk s ht b w KX ev hmm];exact⟨rfl,.inr ⟨b,rfl,.inr ⟨hb,rfl⟩⟩⟩
end
variable {main:Bool}{J:Jm}{L:dY}
def xV{k:az}{f:Lit->Option aj}{P:aB}(h:aS W P k b f)(hb:L.Fx b)(x:iS L W w):aS w P k b f:=h.of_eq (x.blk b h.lt hb)
def Xf(L:dY)(O1:aI)(W:af)(pr ba bc wg asked kb N bX i qx b1 b4:Nat)(key:ah)(O':aI)(a':Act)(w':af):Prop:=
 xU a' pr ba bc wg asked/\Er a' kb N bX i/\a'.tmps[8]?=some (.pointer (some ⟨b4,0,none⟩))/\a'.tmps[9]?=some (.pointer (some ⟨b1,0,none⟩))/\∃b0,W.heap.size<=b0/\a'.tmps[10]?=some (.pointer (some ⟨b0,0,none⟩))/\bG L O1 W O' w'/\OB b0 (.cells #[.pointer (some ⟨qx,0,none⟩)] 139) O' w'/\OB b1 (.cells #[.string key] 9) O' w'/\OB b4 (.cells #[.int .i64 i] 3) O' w'
def Xf.rely{O1:aI}{W:af}{pr ba bc wg asked kb N bX i qx b1 b4:Nat}{key:ah}{O':aI}{a':Act}{w' w₁:af}(h:Xf L O1 W pr ba bc wg asked kb N bX i qx b1 b4 key O' a' w')(r:RX L O' w' w₁):Xf L O1 W pr ba bc wg asked kb N bX i qx b1 b4 key O' a' w₁:=by obtain⟨h1,h2,h3,h4,b0,h5,h6,h7,h8,h9,Jr⟩:=h;exact⟨h1,h2,h3,h4,b0,h5,h6,h7.rely r,h8.rely r,h9.rely r,Jr.rely r⟩
def afx:∃n,∀(pr ba bc wg asked kb N bX i qm qx b1 b4:Nat) (f:Lit->Option aj) (key:ah) (O1:aI) (W:af) (O:aI) (a:Act) (w:af) (Q:ep),
 L.Fx pr->W.cell? ⟨pr,4,none⟩=some (.map (some qm))->L.Fx qm->aS W prog 9 qm f->f (.string key.data.toList)=some (.pointer (some ⟨qx,0,none⟩))->key.size<=1000->
 xU a pr ba bc wg asked->Er a kb N bX i->a.tmps[8]?=some (.pointer (some ⟨b4,0,none⟩))->a.tmps[9]?=some (.pointer (some ⟨b1,0,none⟩))->bG L O1 W O w->OB b1 (.cells #[.string key] 9) O w->OB b4 (.cells #[.int .i64 i] 3) O w->
 cR prog main J (RX L) (DX L) 44 (cA (cB (cI (cA (cB (cB AU)))))) n (bh (Xf L O1 W pr ba bc wg asked kb N bX i qx b1 b4 key) Q) O a w:=by
 co_apply Exists.intro;intro pr ba bc wg asked kb N bX i qm qx b1 b4 f key O1 W O a w Q MT Dx MQ hmp hf hz hl oB g8 g9 hF je sN;dsimp only[AU,wS,lO,cA,cB,cI,cT,cE,f44,Option.getD_some];obtain⟨hd,hsz,g0,g4,g5,g6,g7⟩:=hl;obtain⟨zP,zQ,wP⟩:=oB;obtain⟨fv,hT,aL⟩:=sW hd hsz;subst hT;simp only[aL 0 _ g0,aL 4 _ g4,aL 5 _ g5,aL 6 _ g6,aL 7 _ g7,aL 8 _ g8,aL 9 _ g9,aL 22 _ zP,aL 23 _ zQ,aL 24 _ wP];clear hd hsz aL g0 g4 g5 g6 g7 g8 g9 zP zQ wP;have hG:=And.intro hF (And.intro je sN);clear hF je sN;have hSR:∀(O':aI) (x y:af),(∀i,O.own i->O'.own i)->U3 L W b1 (.cells #[.string key] 9) x->RX L O' x y->U3 L W b1 (.cells #[.string key] 9) y:=
  fun O' x y hO hx hr=>⟨hx.1.rely hr,(hr.blk b1 (zb4.1 hx.2).1 (.inl (hO b1 hG.2.1.own))).trans hx.2⟩
 have Xd:∀{x:af},U3 L W b1 (.cells #[.string key] 9) x->x.cell? ⟨b1,0,none⟩=some (.string key):=fun h=>by simp[World.cell?,h.2]
 have hQR:∀(O:aI) (a:Act) (x y:af),bh (Xf L O1 W pr ba bc wg asked kb N bX i qx b1 b4 key) Q O .normal a x->RX L O x y->bh (Xf L O1 W pr ba bc wg asked kb N bX i qx b1 b4 key) Q O .normal a y:=fun O a x y hx hr=>Xf.rely hx hr;co_apply gi (aF L) DX.draw (c:=1) (O0:=O) (S:=U3 L W b1 (.cells #[.string key] 9)) (by omega) (by first|kernel_rfl|rfl);intro W1 hR;replace hG:=And.intro ((hG.1.rely hR).rely (RX.draw _ _)) (And.intro ((hG.2.1.rely hR).rely (RX.draw (L:=L) _ _)) ((hG.2.2.rely hR).rely (RX.draw (L:=L) _ _)));clear hR;simp only[List.size_toArray,List.length_cons,List.length_nil,Nat.reduceAdd,Nat.zero_add];co_applyP Rn hSR hQR (fun _ h=>h) ⟨iS.of hG.1.rel,hG.2.1.heap⟩;intro hb;(co_applyP (pX hb (i:=0));try walk_nrm);(co_applyP (pX hb (i:=1));try walk_nrm);(co_applyP (pX hb (i:=2));try walk_nrm);(co_applyP AR hb (i:=3) rfl (by kernel_rfl) (by rfl) (fun _ _ hO hw=>?b4);(case b4=>((have hc:=iS.aZ hw.1 Dx MT);refine⟨fun K hK=>?_,?_⟩;(focus(go_simp;exact hK));(refine DX.still _ _ (cC (a:=⟨pr,4,none⟩) (.inl MT) fun e he=>?_);have hm:=mem_listed he;simp[go_sem,hc]at hm;exact hm)));try walk_nrm);(co_applyP AR hb (i:=4) rfl (by kernel_rfl) (by rfl) (fun _ _ hO hw=>?b5);(case b5=>((have hc:=Xd hw);refine⟨fun K hK=>?_,?_⟩;(focus(go_simp;exact hK));(refine DX.still _ _ (cO (b:=false) (hO _ hG.2.1.own) fun e he=>?_);have hm:=mem_listed he;simp[go_sem,hc]at hm;exact⟨_,hm,rfl⟩)));try walk_nrm);co_applyP uF (aF L) hSR hQR (i:=5) (v:=.pointer (some ⟨qx,0,none⟩)) rfl (by kernel_rfl) (by kernel_rfl) (by kernel_rfl) (.inl ⟨by rfl,fun O' w' hO hw=>?Xg⟩) (fun _ h=>h) ⟨iS.of hG.1.rel,hG.2.1.heap⟩ ?afy;case Xg=>
  exact OL (.tmp 32) (.tmp 33) 135 rfl 9 139 fT underlying9 underlying135 mE qm f MQ (by rfl) (xV hmp MQ hw.1) key (.string key.data.toList) (by rfl) (fG (by unfold maxLen;omega)) _ hf
 try walk_nrm
 refine jN (rs:= [6]) (by kernel_rfl) (by simp) fun i' hi'=>?_;obtain rfl:i'=6:=by simpa using hi'
 refine .inl fun W2 h2=>?_;replace hG:=And.intro (hG.1.rely h2) (And.intro (hG.2.1.rely h2) (hG.2.2.rely h2));clear h2;go_simp;have BK:W.heap.size<=W2.heap.size:=hG.1.rel.le;have hn1:W2.heap.size≠b1:=Nat.ne_of_gt hG.2.1.lt;have hn4:W2.heap.size≠b4:=Nat.ne_of_gt hG.2.2.lt;have hH:=And.intro (hG.1.alloc (.cells #[.pointer none] 139)) (And.intro (OB.new O W2 (.cells #[.pointer none] 139)) (And.intro (hG.2.1.alloc (.cells #[.pointer none] 139)) (hG.2.2.alloc (.cells #[.pointer none] 139))));have Xh:∀i,O.own i->(O.grow W2 (W2.alloc (.cells #[.pointer none] 139))).own i:=fun i h=>.inl h;refine⟨?_,⟨Xh,iS.of hH.1.rel,hH.2.2.1.heap⟩,?_⟩
 ·rw[listed_nil (by simp[go_sem])];exact DX.alloc _ _ _
 clear hG;generalize (O.grow W2 (W2.alloc (.cells #[.pointer none] 139)))=O2 at hH Xh⊢;generalize (W2.alloc (.cells #[.pointer none] 139))=W3 at hH⊢;generalize W2.heap.size=b0 at hH BK hn1 hn4⊢;refine jN (rs:= [7]) (by kernel_rfl) (by simp) fun i' hi'=>?_;obtain rfl:i'=7:=by simpa using hi'
 refine .inl fun W4 h4=>?_;replace hH:=And.intro (hH.1.rely h4) (And.intro (hH.2.1.rely h4) (And.intro (hH.2.2.1.rely h4) (hH.2.2.2.rely h4)));clear h4;have hA:bg W4 b0 #[.pointer none] 139:=hH.2.1.heap;have t0:=hA.cell (o:=0) (v:=.pointer none) rfl;have z0:=hA.frozen 0;go_simp;try(unfold stored;go_simp)
 have hT0:=dO.cell b0 0 W4 (.pointer (some ⟨qx,0,none⟩));have hE:=And.intro (hT0.wN hH.1 BK) (And.intro (show OB b0 (.cells #[.pointer (some ⟨qx,0,none⟩)] 139) O2 (W4.setCell ⟨b0,0,none⟩ (.pointer (some ⟨qx,0,none⟩)))from⟨hH.2.1.own,by simpa[bg]using hA.set 0 (.pointer (some ⟨qx,0,none⟩))⟩) (And.intro (hT0.ob hH.2.2.1 (Ne.symm hn1)) (hT0.ob hH.2.2.2 (Ne.symm hn4))));rw[O2.dz hT0.size];refine⟨?_,⟨Xh,iS.of hE.1.rel,hE.2.2.1.heap⟩,?_⟩
 ·refine DX.own hH.2.1.own hT0 (cO (b:=true) hH.2.1.own fun e he=>?_);have hm:=mem_listed he;have E0:=fun es=>kL (P:=prog) (v:=.pointer (some ⟨qx,0,none⟩)) t0 z0 rfl es;simp[go_sem, *]at hm;exact⟨_,hm,rfl⟩
 refine ko (by kernel_rfl) ?_ _;exact⟨⟨rfl,rfl,rfl,rfl,rfl,rfl,rfl⟩,⟨rfl,rfl,rfl⟩,rfl,rfl,b0,BK,rfl,hE.1,hE.2.1,hE.2.2.1,hE.2.2.2⟩
end
section
open Go Go.Conc Go.RowKit Go.MuLone Go.Maps
variable {main:Bool}{J:Jm}{L:dY}
noncomputable def Es:Code:=cI (cA (cB (cB AU)))
def afz:∃n,∀(pr ba bc wg asked kb N bX i qm b1 b4 b0 qx:Nat) (f:Lit->Option aj) (qb:ah->Nat) (p:ah->Prop) (wn:ah->Nat) (hv:ah->Bool) (tv:ah->ah) (ts:ah->aj) (fm:ah->ah->Bool) (key:ah) (O1:aI) (W:af) (O:aI) (a:Act) (w:af) (Q:ep),
 MP L W pr qm f qb p wn hv tv ts fm->(∀(u:af) (n:Nat) (D:DataW aj),u.ownsMap prog 9 aV qm n D->Says D f->Maps.size D<=8)->(∀x,p x->(f (.string x.data.toList)).isSome=true)->key.size<=1000->f (.string key.data.toList)=some (.pointer (some ⟨qb key,0,none⟩))->p key->
 xU a pr ba bc wg asked->Er a kb N bX i->a.tmps[8]?=some (.pointer (some ⟨b4,0,none⟩))->a.tmps[9]?=some (.pointer (some ⟨b1,0,none⟩))->a.tmps[10]?=some (.pointer (some ⟨b0,0,none⟩))->bG L O1 W O w->OB b0 (.cells #[.pointer (some ⟨qx,0,none⟩)] 139) O w->OB b1 (.cells #[.string key] 9) O w->OB b4 (.cells #[.int .i64 i] 3) O w->
 cR prog main J (RX L) (DX L) 44 (cA (cA (cB (cB Es)))) n (bh (fun O' a' w'=>xU a' pr ba bc wg asked/\Er a' kb N bX i/\a'.tmps[8]?=some (.pointer (some ⟨b4,0,none⟩))/\a'.tmps[9]?=some (.pointer (some ⟨b1,0,none⟩))/\a'.tmps[10]?=some (.pointer (some ⟨b0,0,none⟩))/\(∃b:Bool,a'.tmps[37]?=some (.bool b)/\(b=true↔xT p wn hv fm key))/\bG L O1 W O' w'/\OB b0 (.cells #[.pointer (some ⟨qx,0,none⟩)] 139) O' w'/\OB b1 (.cells #[.string key] 9) O' w'/\OB b4 (.cells #[.int .i64 i] 3) O' w') Q) O a w:=by
 obtain⟨nt,hte⟩:=aft (main:=main) (J:=J) (L:=L);co_apply Exists.intro;intro pr ba bc wg asked kb N bX i qm b1 b4 b0 qx f qb p wn hv tv ts fm key O1 W O a w Q wR h8 hsome hz hf hp hl oB g8 g9 K3 hF sK je sN;dsimp only[Es,AU,wS,lO,cA,cB,cI,cT,cE,f44,Option.getD_some];obtain⟨hd,hsz,g0,g4,g5,g6,g7⟩:=hl;obtain⟨zP,zQ,wP⟩:=oB;obtain⟨fv,hT,aL⟩:=sW hd hsz;subst hT;simp only[aL 0 _ g0,aL 4 _ g4,aL 5 _ g5,aL 6 _ g6,aL 7 _ g7,aL 8 _ g8,aL 9 _ g9,aL 10 _ K3,aL 22 _ zP,aL 23 _ zQ,aL 24 _ wP];clear hd hsz aL g0 g4 g5 g6 g7 g8 g9 K3 zP zQ wP;have hG:=And.intro hF (And.intro sK (And.intro je sN));clear hF sK je sN;have rl:∀{o0 o1 o4:Obj} {O2:aI} {Wa Wb:af},(bG L O1 W O2 Wa/\OB b0 o0 O2 Wa/\OB b1 o1 O2 Wa/\OB b4 o4 O2 Wa)->RX L O2 Wa Wb->(bG L O1 W O2 Wb/\OB b0 o0 O2 Wb/\OB b1 o1 O2 Wb/\OB b4 o4 O2 Wb):=fun h x=>⟨h.1.rely x,h.2.1.rely x,h.2.2.1.rely x,h.2.2.2.rely x⟩
 have OE:∀{Wa:af} {O2:aI},OB b1 (.cells #[.string key] 9) O2 Wa->Wa.cell? ⟨b1,0,none⟩=some (.string key):=fun x=>by simp[World.cell?,x.heap]
 co_apply (gJ);co_apply (ox);intro _ hG;(co_apply aN rfl (by rfl);intro _ hR K hK;replace hG:=rl hG hR;clear hR;(have hc:=OE hG.2.2.1);go_simp;refine hK _ ⟨?_,?_⟩;(focus(refine DX.still _ _ (cO (b:=false) hG.2.2.1.own fun e he=>?_);have hm:=mem_listed he;simp[go_sem,hc]at hm;subst hm;exact⟨_,rfl,rfl⟩));clear hK K;try walk_nrm);clear hc;co_apply bS (aF L) rfl (by rfl) rfl (by walk_nrm;exact hte pr qm f qb p wn hv tv ts fm key _ _ (wR.rx hG.1.rel) h8 hsome hz hf hp hG.1.top);rintro O2 v W2 ⟨b,rfl,hb,hF2⟩;have hE:=And.intro (hG.1.trans hF2) (And.intro (hG.2.1.wN hF2) (And.intro (hG.2.2.1.wN hF2) (hG.2.2.2.wN hF2)));clear hG hF2;walk_nrm;co_apply (gJ);exact⟨⟨rfl,rfl,rfl,rfl,rfl,rfl,rfl⟩,⟨rfl,rfl,rfl⟩,rfl,rfl,rfl,⟨b,rfl,hb⟩,hE.1,hE.2.1,hE.2.2.1,hE.2.2.2⟩
structure RS(L:dY)(W w:af):Prop where
 le:W.heap.size<=w.heap.size
 blk:∀i,i<W.heap.size->L.Fx i->w.heap[i]?=W.heap[i]?
 GB:∀a,L.ny a->w.cell? a=W.cell? a
 sh:∀i c e f,L.Sh i->W.heap[i]?=some (.cells c e f)->∃c',w.heap[i]?=some (.cells c' e f)/\c'.size=c.size
 live:Dt L.tw L.Wg W->Dt L.tw L.Wg w
def RX.rs(h:RX L O W w):RS L W w:=⟨h.le,fun i hi hx=>h.blk i hi (.inr hx),h.GB,h.sh,h.live⟩
def RS.trans{a b c:af}(h:RS L a b)(k:RS L b c):RS L a c:=
 ⟨Nat.le_trans h.le k.le,fun i hi hx=>(k.blk i (Nat.lt_of_lt_of_le hi h.le) hx).trans (h.blk i hi hx),fun x hx=>(k.GB x hx).trans (h.GB x hx),fun i c e f hi hc=>by obtain⟨c1,h1,e1⟩:=h.sh i c e f hi hc;obtain⟨c2,h2,e2⟩:=k.sh i c1 e f hi h1;exact⟨c2,h2,e2.trans e1⟩,k.live ∘ h.live⟩
def RS.fxs(h:RS L W w):iS L W w:=⟨h.le,h.blk,h.live⟩
def RS.set{o:Nat}(hf:¬L.Fx ab)(hc:∀a,L.ny a->a.block≠ab)(hw:L.Wg≠ab):RS L w (w.setCell ⟨ab,o,none⟩ v):=by
 have A:=aside_setCell w ⟨ab,o,none⟩ v;refine⟨Nat.le_of_eq A.size.symm,fun i _ hx=>A.block i fun e=>hf (by have e':i=ab:=e;rw[<-e'];exact hx),fun a ha=>by simp[World.cell?,A.block a.block (hc a ha)],fun i c e f hi hcc=>?_,fun⟨st,sm,h⟩=>⟨st,sm,(A.block L.Wg hw).trans h⟩⟩;by_cases e':i=ab
 ·subst e';exact⟨c.setIfInBounds o v,by simp[World.setCell,Array.getElem?_modify,hcc],by simp⟩
 ·exact⟨c,(A.block i e').trans hcc,rfl⟩
end
section
open Go Go.Conc Go.RowKit Go.MuLone Go.Maps
variable {main:Bool}{J:Jm}{L:dY}
def Ge(ab i:Nat)(key:ah)(m:Int)(val:ah)(w:af):Prop:=
 w.cell? ⟨ab,i*3,none⟩=some (.string key)/\w.cell? ⟨ab,i*3+1,none⟩=some (.int .i64 m)/\w.cell? ⟨ab,i*3+2,none⟩=some (.string val)
def GK(L:dY)(O1:aI)(W:af)(pr ba bc wg asked kb N bX i ab:Nat)(key:ah)(m:Int)(val:ah)(cs:Nat->Option aj)(O':aI)(a':Act)(w':af):Prop:=
 xU a' pr ba bc wg asked/\Er a' kb N bX i/\(O'.pos=O1.pos/\O'.fu=O1.fu)/\(∀b,O'.own b->O1.own b\/W.heap.size<=b)/\RS L W w'/\Ge ab i key m val w'/\(∀o v,cs o=some v->L.Mn ⟨ab,o,none⟩->(o<i*3\/i*3+3<=o)->w'.cell? ⟨ab,o,none⟩=some v)
def GK.rely{pr ba bc wg asked kb N bX:Nat}{m:Int}{cs:Nat->Option aj}{w' w₁:af}(hmn:∀j,j<3->L.Mn ⟨ab,i*3+j,none⟩)(h:GK L O1 W pr ba bc wg asked kb N bX i ab key m val cs O' a' w')(r:RX L O' w' w₁):GK L O1 W pr ba bc wg asked kb N bX i ab key m val cs O' a' w₁:=by obtain⟨h1,h2,h3,h4,h5,⟨h6,h7,h8⟩,h9⟩:=h;exact⟨h1,h2,h3,h4,h5.trans r.rs,⟨(r.mn _ (hmn 0 (by omega))).1.trans h6,(r.mn _ (hmn 1 (by omega))).1.trans h7,(r.mn _ (hmn 2 (by omega))).1.trans h8⟩,fun o v ho hm hlt=>(r.mn _ hm).1.trans (h9 o v ho hm hlt)⟩
def YS(L:dY)(W:af)(b0 b1 b4:Nat)(o0 o1 o4:Obj)(w:af):Prop:=iS L W w/\w.heap[b0]?=some o0/\w.heap[b1]?=some o1/\w.heap[b4]?=some o4
def aaM:∃n,∀(pr ba bc wg asked kb N bX i b1 b4 b0 qx ab iP nx:Nat) (tx key:ah) (cs:Nat->Option aj) (O1:aI) (W:af) (O:aI) (a:Act) (w:af) (Q:ep),
 L.Fx ba->W.cell? ⟨ba,0,none⟩=some (.slice (some ⟨ab,0,none⟩) N iP)->i<N->N<=8->L.Fx qx->W.cell? ⟨qx,2,none⟩=some (.int .i64 nx)->W.cell? ⟨qx,4,none⟩=some (.string tx)->tx.size<=1000->¬L.Fx ab->(∀a,L.ny a->a.block≠ab)->L.Wg≠ab->ab<W.heap.size->¬O1.own ab->
 Hid (∀j,j<3->L.Mn ⟨ab,i*3+j,none⟩/\(∃v,W.cell? ⟨ab,i*3+j,none⟩=some v)/\W.frozen? ⟨ab,i*3+j,none⟩=false)->Hid (∀o v,cs o=some v->L.Mn ⟨ab,o,none⟩->W.cell? ⟨ab,o,none⟩=some v)->
 xU a pr ba bc wg asked->Er a kb N bX i->a.tmps[8]?=some (.pointer (some ⟨b4,0,none⟩))->a.tmps[9]?=some (.pointer (some ⟨b1,0,none⟩))->a.tmps[10]?=some (.pointer (some ⟨b0,0,none⟩))->bG L O1 W O w->OB b0 (.cells #[.pointer (some ⟨qx,0,none⟩)] 139) O w->OB b1 (.cells #[.string key] 9) O w->OB b4 (.cells #[.int .i64 i] 3) O w->
 cR prog main J (RX L) (DX L) 44 (cA (cT (cB (cA (cB (cB Es)))))) n (bh (GK L O1 W pr ba bc wg asked kb N bX i ab key nx tx cs) Q) O a w:=by
 obtain⟨na,han⟩:=vn (main:=main) (J:=J) (L:=L);co_apply Exists.intro;intro pr ba bc wg asked kb N bX i b1 b4 b0 qx ab iP nx tx key cs O1 W O a w Q hfa hca FY WQ Jo c2 c4 htx hnf K4 uh DO Xi hmn hcs hl oB g8 g9 K3 hF sK je sN;dsimp only[Es,AU,wS,lO,cA,cB,cI,cT,cE,f44,Option.getD_some];obtain⟨hd,hsz,g0,g4,g5,g6,g7⟩:=hl;obtain⟨zP,zQ,wP⟩:=oB;obtain⟨fv,hT,aL⟩:=sW hd hsz;subst hT;simp only[aL 0 _ g0,aL 4 _ g4,aL 5 _ g5,aL 6 _ g6,aL 7 _ g7,aL 8 _ g8,aL 9 _ g9,aL 10 _ K3,aL 22 _ zP,aL 23 _ zQ,aL 24 _ wP];clear hd hsz aL g0 g4 g5 g6 g7 g8 g9 K3 zP zQ wP;have hG:=And.intro hF (And.intro sK (And.intro je sN));clear hF sK je sN;have lt:∀{r:Nat} {ob:Obj} {x:af},x.heap[r]?=some ob->r<x.heap.size:=fun h=>(zb4.1 h).1;have hSR:∀(O':aI) (x y:af),(∀i,O.own i->O'.own i)->YS L W b0 b1 b4 (.cells #[.pointer (some ⟨qx,0,none⟩)] 139) (.cells #[.string key] 9) (.cells #[.int .i64 (i:Int)] 3) x->RX L O' x y->YS L W b0 b1 b4 (.cells #[.pointer (some ⟨qx,0,none⟩)] 139) (.cells #[.string key] 9) (.cells #[.int .i64 (i:Int)] 3) y:=
  fun O' x y hO hx hr=>⟨hx.1.rely hr,(hr.blk b0 (lt hx.2.1) (.inl (hO b0 hG.2.1.own))).trans hx.2.1,(hr.blk b1 (lt hx.2.2.1) (.inl (hO b1 hG.2.2.1.own))).trans hx.2.2.1,(hr.blk b4 (lt hx.2.2.2) (.inl (hO b4 hG.2.2.2.own))).trans hx.2.2.2⟩
 have SW:∀{x:af},YS L W b0 b1 b4 (.cells #[.pointer (some ⟨qx,0,none⟩)] 139) (.cells #[.string key] 9) (.cells #[.int .i64 (i:Int)] 3) x->x.cell? ⟨b0,0,none⟩=some (.pointer (some ⟨qx,0,none⟩)):=fun h=>by simp[World.cell?,h.2.1]
 have OE:∀{x:af},YS L W b0 b1 b4 (.cells #[.pointer (some ⟨qx,0,none⟩)] 139) (.cells #[.string key] 9) (.cells #[.int .i64 (i:Int)] 3) x->x.cell? ⟨b1,0,none⟩=some (.string key):=fun h=>by simp[World.cell?,h.2.2.1]
 have afB:∀{x:af},YS L W b0 b1 b4 (.cells #[.pointer (some ⟨qx,0,none⟩)] 139) (.cells #[.string key] 9) (.cells #[.int .i64 (i:Int)] 3) x->x.cell? ⟨b4,0,none⟩=some (.int .i64 (i:Int)):=fun h=>by simp[World.cell?,h.2.2.2]
 have hQR:∀(O:aI) (a:Act) (x y:af),bh (GK L O1 W pr ba bc wg asked kb N bX i ab key nx tx cs) Q O .normal a x->RX L O x y->bh (GK L O1 W pr ba bc wg asked kb N bX i ab key nx tx cs) Q O .normal a y:=fun O a x y hx hr=>GK.rely (fun j hj=>(hmn.out j hj).1) hx hr;co_apply gi (aF L) DX.draw (c:=na+Du) (O0:=O) (S:=YS L W b0 b1 b4 (.cells #[.pointer (some ⟨qx,0,none⟩)] 139) (.cells #[.string key] 9) (.cells #[.int .i64 (i:Int)] 3)) (by unfold Du;omega) (by first|kernel_rfl|rfl);intro W1 hR;replace hG:=And.intro ((hG.1.rely hR).rely (RX.draw _ _)) (And.intro ((hG.2.1.rely hR).rely (RX.draw (L:=L) _ _)) (And.intro ((hG.2.2.1.rely hR).rely (RX.draw (L:=L) _ _)) ((hG.2.2.2.rely hR).rely (RX.draw (L:=L) _ _))));clear hR;simp only[List.size_toArray,List.length_cons,List.length_nil,Nat.reduceAdd,Nat.zero_add];co_applyP Rn hSR hQR (fun _ h=>h) ⟨iS.of hG.1.rel,hG.2.1.heap,hG.2.2.1.heap,hG.2.2.2.heap⟩;intro hb;(co_applyP AR hb (i:=0) rfl (by kernel_rfl) (by rfl) (fun _ _ hO hw=>?b1);(case b1=>((have hc:=iS.aZ hw.1 hca hfa);refine⟨fun K hK=>?_,?_⟩;(focus(go_simp;exact hK));(refine DX.still _ _ (cC (a:=⟨ba,0,none⟩) (.inl hfa) fun e he=>?_);have hm:=mem_listed he;simp[go_sem,hc]at hm;exact hm)));try walk_nrm);(co_applyP AR hb (i:=1) rfl (by kernel_rfl) (by rfl) (fun _ _ hO hw=>?b2);(case b2=>((have hc:=afB hw);refine⟨fun K hK=>?_,?_⟩;(focus(go_simp;exact hK));(refine DX.still _ _ (cO (b:=false) (hO _ hG.2.2.2.own) fun e he=>?_);have hm:=mem_listed he;simp[go_sem,hc]at hm;exact⟨_,hm,rfl⟩)));try walk_nrm);(co_applyP AR hb (i:=2) rfl (by kernel_rfl) (by rfl) (fun _ _ hO hw=>?b3);(case b3=>((have hc:=OE hw);refine⟨fun K hK=>?_,?_⟩;(focus(go_simp;exact hK));(refine DX.still _ _ (cO (b:=false) (hO _ hG.2.2.1.own) fun e he=>?_);have hm:=mem_listed he;simp[go_sem,hc]at hm;exact⟨_,hm,rfl⟩)));try walk_nrm);(co_applyP AR hb (i:=3) rfl (by kernel_rfl) (by rfl) (fun _ _ hO hw=>?b4);(case b4=>((have hc:=SW hw);refine⟨fun K hK=>?_,?_⟩;(focus(go_simp;exact hK));(refine DX.still _ _ (cO (b:=false) (hO _ hG.2.1.own) fun e he=>?_);have hm:=mem_listed he;simp[go_sem,hc]at hm;exact⟨_,hm,rfl⟩)));try walk_nrm);(co_applyP (pX hb (i:=4));try walk_nrm);(co_applyP (pX hb (i:=5));try walk_nrm);(co_applyP (pX hb (i:=6));try walk_nrm);(co_applyP AR hb (i:=7) rfl (by kernel_rfl) (by rfl) (fun _ _ hO hw=>?b8);(case b8=>((have hc:=iS.aZ hw.1 c2 Jo);refine⟨fun K hK=>?_,?_⟩;(focus(go_simp;exact hK));(refine DX.still _ _ (cC (a:=⟨qx,2,none⟩) (.inl Jo) fun e he=>?_);have hm:=mem_listed he;simp[go_sem,hc]at hm;exact hm)));try walk_nrm);(co_applyP AR hb (i:=8) rfl (by kernel_rfl) (by rfl) (fun _ _ hO hw=>?b9);(case b9=>((have hc:=SW hw);refine⟨fun K hK=>?_,?_⟩;(focus(go_simp;exact hK));(refine DX.still _ _ (cO (b:=false) (hO _ hG.2.1.own) fun e he=>?_);have hm:=mem_listed he;simp[go_sem,hc]at hm;exact⟨_,hm,rfl⟩)));try walk_nrm);(co_applyP (pX hb (i:=9));try walk_nrm);(co_applyP (pX hb (i:=10));try walk_nrm);(co_applyP (pX hb (i:=11));try walk_nrm);(co_applyP AR hb (i:=12) rfl (by kernel_rfl) (by rfl) (fun _ _ hO hw=>?b13);(case b13=>((have hc:=iS.aZ hw.1 c4 Jo);refine⟨fun K hK=>?_,?_⟩;(focus(go_simp;exact hK));(refine DX.still _ _ (cC (a:=⟨qx,4,none⟩) (.inl Jo) fun e he=>?_);have hm:=mem_listed he;simp[go_sem,hc]at hm;exact hm)));try walk_nrm);refine jN (rs:= [13]) (by kernel_rfl) (by simp) fun i' hi'=>?_;obtain rfl:i'=13:=by simpa using hi'
 refine .inr ⟨78,_,_,na,_,zb3 _,rfl,by walk_nrm;exact han key (nx:Int) tx _ _ htx hG.1.top,?_⟩;rintro O2 y W2 ⟨rfl,hF2⟩;have hH:=And.intro (hG.1.trans hF2) (And.intro (hG.2.1.wN hF2) (And.intro (hG.2.2.1.wN hF2) (hG.2.2.2.wN hF2)));have Xh:=hF2.own;clear hG hF2;refine⟨⟨Xh,iS.of hH.1.rel,hH.2.1.heap,hH.2.2.1.heap,hH.2.2.2.heap⟩,?_⟩;walk_nrm;co_applyP Rn hSR hQR Xh ⟨iS.of hH.1.rel,hH.2.1.heap,hH.2.2.1.heap,hH.2.2.2.heap⟩;intro hb;(co_applyP (pX hb (i:=14));try walk_nrm);refine jN (rs:= [15]) (by kernel_rfl) (by simp) fun i' hi'=>?_;obtain rfl:i'=15:=by simpa using hi'
 refine .inl fun W5 h5=>?_;replace hH:=And.intro (hH.1.rely h5) (And.intro (hH.2.1.rely h5) (And.intro (hH.2.2.1.rely h5) (hH.2.2.2.rely h5)));clear h5;obtain⟨m0,⟨v0,q0⟩,z0⟩:=hmn.out 0 (by omega);obtain⟨m1,⟨v1,q1⟩,z1⟩:=hmn.out 1 (by omega);obtain⟨m2,⟨v2,q2⟩,z2⟩:=hmn.out 2 (by omega);simp only[Nat.add_zero]at m0 q0 z0;replace q0:=(hH.1.rel.mn _ m0).1.trans q0;replace z0:=(hH.1.rel.mn _ m0).2.trans z0;replace q1:=(hH.1.rel.mn _ m1).1.trans q1;replace z1:=(hH.1.rel.mn _ m1).2.trans z1;replace q2:=(hH.1.rel.mn _ m2).1.trans q2;replace z2:=(hH.1.rel.mn _ m2).2.trans z2;have afC:Hid (∀o v,cs o=some v->L.Mn ⟨ab,o,none⟩->W5.cell? ⟨ab,o,none⟩=some v):=fun o v ho hm=>(hH.1.rel.mn _ hm).1.trans (hcs.out o v ho hm);clear hcs;go_simp;try(unfold stored;go_simp)
 obtain⟨cs0,t,fr,hbk⟩:=vo q0;have hT:=((dO.cell ab (i*3) W5 (.string key)).trans (dO.cell ab (i*3+1) _ (.int .i64 (nx:Int)))).trans (dO.cell ab (i*3+2) _ (.string tx));have hb0:b0≠ab:=fun e=>(hH.1.nj Xi DO) (e▸hH.2.1.own)
 have iz:b1≠ab:=fun e=>(hH.1.nj Xi DO) (e▸hH.2.2.1.own)
 have hb4:b4≠ab:=fun e=>(hH.1.nj Xi DO) (e▸hH.2.2.2.own)
 have hrs:RS L W (((W5.setCell ⟨ab,i*3,none⟩ (.string key)).setCell ⟨ab,i*3+1,none⟩ (.int .i64 (nx:Int))).setCell ⟨ab,i*3+2,none⟩ (.string tx)):=((hH.1.rel.rs.trans (RS.set hnf K4 uh)).trans (RS.set hnf K4 uh)).trans (RS.set hnf K4 uh);refine⟨DX.mine hbk _ _ _ _ _ _ m0 m1 m2 fun e he=>?_,⟨fun j hj=>.inl (Xh j hj),hrs.fxs,(hT.other b0 hb0).trans hH.2.1.heap,(hT.other b1 iz).trans hH.2.2.1.heap,(hT.other b4 hb4).trans hH.2.2.2.heap⟩,?_⟩
 ·have hm:=mem_listed he;have E0:=fun es=>kL (P:=prog) (v:=.string key) q0 z0 rfl es;have p2:((W5.setCell ⟨ab,i*3,none⟩ (.string key)).setCell ⟨ab,i*3+1,none⟩ (.int .i64 (nx:Int))).cell? ⟨ab,i*3+2,none⟩=some v2:=by rw[zb5 _ _ _ _ (by simp),zb5 _ _ _ _ (by simp)];exact q2
  have r2:((W5.setCell ⟨ab,i*3,none⟩ (.string key)).setCell ⟨ab,i*3+1,none⟩ (.int .i64 (nx:Int))).frozen? ⟨ab,i*3+2,none⟩=false:=by rw[World.frozen?_setCell,World.frozen?_setCell];exact z2
  have E2:=fun es=>kL (P:=prog) (v:=.string tx) p2 r2 rfl es;simp[go_sem, *]at hm;rcases hm with rfl|rfl|rfl
  ·exact⟨rfl,.inl ⟨_,rfl,.inr (.inl m0)⟩⟩
  ·exact⟨rfl,.inl ⟨_,rfl,.inr (.inl m1)⟩⟩
  ·exact⟨rfl,.inl ⟨_,rfl,.inr (.inl m2)⟩⟩
 ·refine ko (by kernel_rfl) ?_ _;rw[O2.dz hT.size];have p1:(W5.setCell ⟨ab,i*3,none⟩ (.string key)).cell? ⟨ab,i*3+1,none⟩=some v1:=by rw[zb5 _ _ _ _ (by simp)];exact q1
  have p2:((W5.setCell ⟨ab,i*3,none⟩ (.string key)).setCell ⟨ab,i*3+1,none⟩ (.int .i64 (nx:Int))).cell? ⟨ab,i*3+2,none⟩=some v2:=by rw[zb5 _ _ _ _ (by simp),zb5 _ _ _ _ (by simp)];exact q2
  refine⟨⟨rfl,rfl,rfl,rfl,rfl,rfl,rfl⟩,⟨rfl,rfl,rfl⟩,hH.1.gh,hH.1.new,hrs,⟨?_,?_,?_⟩,fun o v ho hm hlt=>?_⟩
  ·rw[zb5 _ _ _ _ (by simp),zb5 _ _ _ _ (by simp)];exact zb6 _ _ _ q0
  ·rw[zb5 _ _ _ _ (by simp)];exact zb6 _ _ _ p1
  ·exact zb6 _ _ _ p2
  ·have n0:(⟨ab,o,none⟩:aA)≠⟨ab,i*3,none⟩:=by intro e;injection e;omega
   have n1:(⟨ab,o,none⟩:aA)≠⟨ab,i*3+1,none⟩:=by intro e;injection e;omega
   have n2:(⟨ab,o,none⟩:aA)≠⟨ab,i*3+2,none⟩:=by intro e;injection e;omega
   rw[zb5 _ _ _ _ (Ne.symm n2),zb5 _ _ _ _ (Ne.symm n1),zb5 _ _ _ _ (Ne.symm n0)];exact afC.out o v ho hm
end
section
open Go Go.RowKit Go.MuLone Go.Conc
open Go.Maps (Keyed)
structure Va(w0:af)(r:MR)(ab ba bc wg:Nat)(ms:List Int)(cv:aj)(w:af):Prop where
 below:Below w0.heap.size w0 w
 AA:∃C,bg w ab C 62/\C.size=r.keys.length*3
 Sm:bg w ba #[.slice (some ⟨ab,0,none⟩) r.keys.length r.keys.length] 42
 Sn:bg w bc #[cv] 58
 cand:Cj r ms
 row:w.ownsRow w0.heap.size 3 1 cv ms.length (ms.map (Value.int .i64))
 Gj:bg w wg #[.int .u64 0,.int .u32 0] 155
 ord:w0.heap.size<=ab/\ab<ba/\ba<bc/\bc<wg
 N3:∀k,cv.ownBlock=some k->ba<k/\k<bc
section
variable {w:af}{A:SA}
def Li{r:MR}(h:Seen w A i r)(c:List ak):
 To prog (fun fr c' w'=>c'=c/\∃(b:ak) (a:Act) (ab ba bc wg:Nat) (ms:List Int) (cv:aj),fr=b.at a [.code wS]/\b.fn=44/\b.kind=.normal/\xU a (A.R.pr i) ba bc wg 0/\Va w r ab ba bc wg ms cv w') (Frame.enter prog 44 #[ptr (A.R.pr i)] .normal) c w:=by
 have MU:=h.l8;have UE:=h.l1;obtain⟨kg,bX,hkv,_,_,XF,_⟩:=cJ h.ky (by omega);have Te:=h.rd.lt;have c3:w.cell? ⟨A.R.pr i,3,none⟩=some (.slice (some ⟨kg,0,none⟩) r.keys.length bX):=by have:=h.rd.cell (o:=3) (v:=A.R.ks i) rfl;rw[hkv]at this;exact this
 obtain⟨M,hMs,hmk⟩:=Pn r.keys.length MU w;have je:Below w.heap.size w ((w.alloc (.cells M 62)).alloc (.cells #[.slice (some ⟨w.heap.size,0,none⟩) r.keys.length r.keys.length] 42)):=((Below.refl _ _).alloc (zb3 _) _).alloc (by simp) _;have cc:=x8 (h.below je);have nZ:bg ((w.alloc (.cells M 62)).alloc (.cells #[.slice (some ⟨w.heap.size,0,none⟩) r.keys.length r.keys.length] 42)) w.heap.size M 62:=(bg.new w _ _).of_eq (zb2 _ _ _ (by simp));have hX1:bg ((w.alloc (.cells M 62)).alloc (.cells #[.slice (some ⟨w.heap.size,0,none⟩) r.keys.length r.keys.length] 42)) (w.heap.size+1) #[.slice (some ⟨w.heap.size,0,none⟩) r.keys.length r.keys.length] 42:=by have:=bg.new (w.alloc (.cells M 62)) #[.slice (some ⟨w.heap.size,0,none⟩) r.keys.length r.keys.length] 42;simpa using this
 have vU:((w.alloc (.cells M 62)).alloc (.cells #[.slice (some ⟨w.heap.size,0,none⟩) r.keys.length r.keys.length] 42)).heap.size=w.heap.size+2:=by simp
 clear hkv XF h;unfold ptr at cc⊢;rw[enter_at func44 rfl];walk_nrmf ntmps44;refine To.cj fun K hK=>?_;go_wp2_with fail
 refine To.cj fun K hK=>?_;go_wp2_with fail
 generalize (w.alloc (.cells M 62)).alloc (.cells #[.slice (some ⟨w.heap.size,0,none⟩) r.keys.length r.keys.length] 42)=w1 at *;refine To.cj fun K hK=>?_;go_wp2_with fail
 refine cc.mono ?_;rintro e w2 ⟨ms,cv,rfl,hrow,Vb,dQ⟩;clear cc hmk;obtain⟨ca,gE,rfl⟩:=cy hrow;rw[vU]at hrow dQ;have tj:Below w.heap.size w w2:=je.trans (dQ.mono (by omega));have Cp:=dQ.size;rw[vU]at Cp;have sN:Below w.heap.size w ((w2.alloc (.cells #[.slice ca ms.length gE] 58)).alloc (.cells #[.int .u64 0,.int .u32 0] 155)):=(tj.alloc tj.size _).alloc (by simp;omega) _;have Tf:∀k,k<w2.heap.size->((w2.alloc (.cells #[.slice ca ms.length gE] 58)).alloc (.cells #[.int .u64 0,.int .u32 0] 155)).heap[k]?=w2.heap[k]? :=fun k hk=>(zb2 _ _ _ (by simp;omega)).trans (zb2 _ _ _ hk);have Kv:bg ((w2.alloc (.cells #[.slice ca ms.length gE] 58)).alloc (.cells #[.int .u64 0,.int .u32 0] 155)) (w2.heap.size+1) #[.int .u64 0,.int .u32 0] 155:=by have:=bg.new (w2.alloc (.cells #[.slice ca ms.length gE] 58)) #[.int .u64 0,.int .u32 0] 155;simpa using this
 have hC4:bg ((w2.alloc (.cells #[.slice ca ms.length gE] 58)).alloc (.cells #[.int .u64 0,.int .u32 0] 155)) w2.heap.size #[.slice ca ms.length gE] 58:=(bg.new w2 _ _).of_eq (zb2 _ _ _ (by simp));have HF:Hid (Va w r w.heap.size (w.heap.size+1) w2.heap.size (w2.heap.size+1) ms (.slice ca ms.length gE) ((w2.alloc (.cells #[.slice ca ms.length gE] 58)).alloc (.cells #[.int .u64 0,.int .u32 0] 155))):=by refine⟨sN,⟨M,(nZ.of_eq (dQ.block _ (by omega))).of_eq (Tf _ (by omega)),hMs⟩,(hX1.of_eq (dQ.block _ (by omega))).of_eq (Tf _ (by omega)),hC4,Vb,aH (sI hrow (by omega)) (fun k hk=>Tf k (aQ hrow k hk).2),Kv,⟨zb3 _,by omega,by omega,by omega⟩,fun k hk=>?_⟩;have:=aQ hrow k hk;omega
 clear je nZ hX1 vU dQ tj Cp sN Tf Kv hC4 hrow Vb;go_wp2_with fail
 refine To.cj fun K hK=>?_;go_wp2_with fail
 refine To.cj fun K hK=>?_;go_wp2_with fail
 exact To.done ⟨rfl,_,_,_,_,_,_,_,_,rfl,rfl,rfl,⟨rfl,rfl,rfl,rfl,rfl,rfl,rfl⟩,HF.out⟩
end
end
section
open Go Go.Conc
def Rc(X:List (Nat×Nat)):uu.ck 44 0 wS 1 X=none:=by kernel_rfl
def Td{d:Nat}{fr:ak}{c:List ak}{k:List Item}(h:zJ uu d fr c)(hf:fr.fn=44)(hm:fr.mode=.run)(ht:fr.todo=.code wS :: k):d=0:=by
 obtain⟨out,⟨h1,h2⟩,_⟩:=h;unfold gO at h2;rw[hm]at h2;obtain⟨s,X,e1,e2,h3⟩:=(show mS uu d fr out from h2).ok;have e3:oC uu fr=0:=by unfold oC;rw[hf];rfl
 have hout:out=0:=by
  obtain⟨a,ha⟩:=h1.jS;rw[hf]at ha;have h4:=Cn.two _ _ _ ha;rcases Nat.lt_or_ge a 1 with h5|h5
  ·obtain rfl:a=0:=by omega
   have e:uu.jS 44 0=some 0:=by kernel_rfl
   rw[e]at ha;cases ha;rfl
  ·obtain rfl:a=1:=by omega
   have e:uu.jS 44 1=none:=by kernel_rfl
   rw[e]at ha;cases ha
 subst hout;rw[ht,hf]at h3;obtain⟨r,h6,_⟩:=h3;have:s<2:=by omega
 rcases Nat.lt_or_ge s 1 with h5|h5
 ·omega
 ·obtain rfl:s=1:=by omega
  rw[Rc]at h6;cases h6
end
end Go.Proofs.YteoahlieielcdaaGreat
