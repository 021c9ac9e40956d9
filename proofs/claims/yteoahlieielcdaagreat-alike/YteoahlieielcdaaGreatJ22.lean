import Derived.Test.YteoahlieielcdaaGreatX7
import Derived.Test.YteoahlieielcdaaGreatPr21
import Derived.Test.YteoahlieielcdaaGreatJ12
import Derived.Test.YteoahlieielcdaaGreatZ16
set_option linter.all false
set_option maxHeartbeats 8000000
set_option maxRecDepth 100000
namespace Go.Proofs.YteoahlieielcdaaGreat
open Go.Proofs.Tryz
abbrev zbl:=@Array.getElem?_eq_some_iff
abbrev zbm:=@World.cell?_setCell_other
abbrev zbn:=@World.cell?_setCell_same
variable{P:Program}{R:Value->Option (DataW Value×List MemPlace)}{w w₁ w' W:World}{b r n cnt cl ab:Nat}{D:DataW Value}{O O1 O':au}{v:Value}{f:Lit->Option Value}{g:ByteArray->Bool}{a a':Act}{ds:List Deferred}{key val:ByteArray}
section
open Go Go.Conc Go.RowKit Go.MuLone Go.Maps
theorem K8{k:TypeId}{left:Lit->Bool}(h:w.ranges P k R b r n D left cnt)(hb:w₁.heap[b]?=w.heap[b]?)(hr:w₁.heap[r]?=w.heap[r]?):w₁.ranges P k R b r n D left cnt:=by unfold World.ranges at h⊢;rw[hb,hr];exact h
theorem mN{L:eg}{k:TypeId}{left:Lit->Bool}(h:w.ranges P k R b r n D left cnt)(hb:L.Fx b)(hr:O.own r)(x:RX L O w w₁):w₁.ranges P k R b r n D left cnt:=
 K8 h (x.blk b h.owns.lt (.inr hb)) (x.blk r h.lt (.inl hr))
theorem Hj(h:w.grownBy w' (some r))(hs:w'.heap.size=w.heap.size):dO r w w':=by
 refine⟨h.tape,h.os,h.output,hs,fun i hi=>?_⟩;rcases Nat.lt_or_ge i w.heap.size with hl|hl
 ·exact h.block i hl (fun e=>hi (by cases e;rfl))
 ·rw[Array.getElem?_eq_none hl,Array.getElem?_eq_none (by omega)]
section
variable {P:Program}{main:Bool}{J:Jm}{L:eg}{fn:FuncId}{Q:ew}{O:au}{a:Act}{w:World}{n1:Nat}{ops:Array Oper}{i:Nat}{rest:List Nat}{o:Oper}
theorem EC(hr:O.own r)(hb:L.Fx b){es:Array Event}(he:∀e∈es,e=⟨.obj r,false,false⟩\/e=⟨.obj b,false,false⟩\/e=⟨.obj r,true,false⟩):∀e∈es,Ec L O e:=by
 intro e hm;rcases he e hm with rfl|rfl|rfl
 ·exact⟨rfl,.inr ⟨r,rfl,.inl hr⟩⟩
 ·exact⟨rfl,.inr ⟨b,rfl,.inr ⟨hb,rfl⟩⟩⟩
 ·exact⟨rfl,.inr ⟨r,rfl,.inl hr⟩⟩
theorem Hl(ho:ops[i]?=some o)(hw:Region.wanted o (yielded ops a.tmps)=true)(it:Operand)(hop:o.op=Op.next it false)(k:TypeId)(K:Keyed P k)(hk:P.underlying k=some .string)
 (b r n:Nat) (D:DataW Value) (f:Lit->Option Value) (hs:Says D f) (g:ByteArray->Nat) (p:ByteArray->Prop) (hf:∀x u,f (.string x.data.toList)=some u->u=.pointer (some ⟨g x,0,none⟩)/\p x) (left:Lit->Bool) (cnt:Nat)
 (hit:a.eval it=.pointer (some ⟨r,0,none⟩)) (hb:L.Fx b) (hr:O.own r) (h:w.ranges P k aL b r n D left cnt)
 (hDone:∀w₁,RX L O w w₁->(∀kl,left kl=false)->bG P main J (RX L) (DX L) fn ops rest n1 Q O (a.put o.dst (.tuple #[.bool false])) w₁)
 (hMore:∀w₁,RX L O w w₁->∀(x:ByteArray) (w':World) (cnt':Nat),p x->left (.string x.data.toList)=true->w'.ranges P k aL b r n D (fun z=>left z && !z.sameKey (.string x.data.toList)) cnt'->cnt'<cnt->dO r w₁ w'->
   (Instr.entry (.pointer (some ⟨r,0,none⟩))).run P w'=.ok (.tuple #[.string x,.pointer (some ⟨g x,0,none⟩)]) w'->bG P main J (RX L) (DX L) fn ops rest n1 Q O (a.put o.dst (.tuple #[.bool true,.string x,.pointer (some ⟨g x,0,none⟩)])) w'):
 bG P main J (RX L) (DX L) fn ops (i :: rest) (n1+1) Q O a w:=by
 refine jC ho hw fun w₁ h₁=>?_;have h':=mN h hb hr h₁;have hev:∀e∈listed P fn a o w₁,Ec L O e:=by obtain⟨es,clock,since,seen,c0,K9,_,_,_,U8,_⟩:=h';refine EC hr hb fun e he=>?_;have hm:=mem_listed he;simp[execOp,hop,hit]at hm;exact NJ U8 K9 e hm
 rcases h'.next K o.type with⟨h0,hl,hrun⟩|⟨key,v,kl,y,w',cnt',hkey,hlk,hv,hat,hrun,lm,hlt,TU,hsz,q9⟩
 ·have e:(execOp a.eval o).run P w₁=.ok (.value (.tuple #[.bool false])) w₁:=by simp[execOp,hop,hit,hrun,Result.andThen]
  rw[e];exact⟨DX.still _ _ hev,by rw[O.dh rfl];exact hDone w₁ h₁ hl⟩
 ·obtain⟨x,rfl,rfl,_⟩:=WideMaps.string_of_keyOf hk hkey;simp only[aL,Option.some.injEq]at hv;subst hv;have hh:=Maps.has_true_of_atKey hat;rw[hs.2]at hh;obtain⟨u,hu⟩:=Option.isSome_iff_exists.1 hh;have e1:=(hs.1 _ u hu .nil).symm.trans (hat .nil);injection e1 with e1;subst e1;obtain⟨rfl,hp⟩:=hf x _ hu;have e:(execOp a.eval o).run P w₁=.ok (.value (.tuple #[.bool true,.string x,.pointer (some ⟨g x,0,none⟩)])) w':=by simp[execOp,hop,hit,hrun,Result.andThen]
  rw[e];have hT:=Hj TU hsz;exact⟨DX.own hr hT hev,by rw[O.dh hsz];exact hMore w₁ h₁ x w' cnt' hp hlk lm hlt hT q9⟩
end
end
section
open Go Go.Conc Go.RowKit Go.MuLone Go.Maps
section
variable {P:Program}{main:Bool}{J:Jm}{L:eg}{fn:FuncId}{Q:ew}{O:au}{a:Act}{w:World}{n1:Nat}{ops:Array Oper}{i:Nat}{rest:List Nat}{o:Oper}
theorem yj{k:TypeId}(h:w.ownsMap P k R b n D)(hb:L.Fx b)(x:RX L O w w₁):w₁.ownsMap P k R b n D:=by have e:=x.blk b h.lt (.inr hb);unfold World.ownsMap at h⊢;rw[e];exact h
theorem ED(ho:ops[i]?=some o)(hw:Region.wanted o (yielded ops a.tmps)=true)(m:Operand)(t:TypeId)(hop:o.op=Op.range t m)(k e:TypeId)(K:Keyed P k)(ht:P.underlying t=some (.map k e))(b n:Nat)(D:DataW Value)
 (hm:a.eval m=.map (some b)) (hb:L.Fx b) (h:w.ownsMap P k R b n D)
 (hK:∀w₁ w',RX L O w w₁->(∃ob,w'=w₁.alloc ob)->w'.ranges P k R b w₁.heap.size n D (Maps.has D) (Maps.size D)->bG P main J (RX L) (DX L) fn ops rest n1 Q (O.grow w₁ w') (a.put o.dst (.pointer (some ⟨w₁.heap.size,0,none⟩))) w'):
 bG P main J (RX L) (DX L) fn ops (i :: rest) (n1+1) Q O a w:=by
 refine jC ho hw fun w₁ h₁=>?_;have h':=yj h hb h₁;obtain⟨w',hrun,r1,_,_⟩:=h'.range K ht;obtain⟨es,clock,K9,_⟩:=h';obtain⟨q1,q2⟩:=Hh (P:=P) ht K9;have hw':w'=w₁.alloc (.mapIter (some b) clock #[] clock):=by rw[q1]at hrun;cases hrun;rfl
 have e1:(execOp a.eval o).run P w₁=.ok (.value (.pointer (some ⟨w₁.heap.size,0,none⟩))) w':=by simp[execOp,hop,hm,hrun,Result.andThen]
 rw[e1];refine⟨?_,hK w₁ w' h₁ ⟨_,hw'⟩ r1⟩;have hev:∀x∈listed P fn a o w₁,Ec L O x:=fun x hx=>by have GU:=mem_listed hx;simp[execOp,hop,hm,q2]at GU;subst GU;exact⟨rfl,.inr ⟨b,rfl,.inr ⟨hb,rfl⟩⟩⟩
 have hd:=DX.alloc (L:=L) O w₁ (.mapIter (some b) clock #[] clock);rw[<-hw']at hd;exact⟨hd.tape,hd.os,hd.out,hd.le,hd.blk,hev⟩
theorem entry_eq{s0 l:Nat}{seen:Array Nat}{en:Array MapEntry}(hi:w.heap[r]?=some (.mapIter (some b) s0 seen l))(hb:w.heap[b]?=some (.map en cl))(hi':w₁.heap[r]?=some (.mapIter (some b) s0 seen l))(hb':w₁.heap[b]?=some (.map en cl))
 (h:(Instr.entry (.pointer (some ⟨r,0,none⟩))).run P w=.ok v w):(Instr.entry (.pointer (some ⟨r,0,none⟩))).run P w₁=.ok v w₁:=by
 have g1:=(gL (P:=P) hb #[]).1;have i1:=(iS (P:=P) hi #[]).1;have g2:=(gL (P:=P) hb' #[]).1;have i2:=(iS (P:=P) hi' #[]).1;unfold Instr.entry at h⊢;simp only[Sem.run_bind,i1,i2,Result.andThen]at h⊢;cases hs:seen.back? with
 |none=>rw[hs]at h;cases h
 |some st=>
  rw[hs]at h;simp only[Sem.run_bind,g1,g2,Result.andThen]at h⊢;split at h
  ·rename_i hc;rw[Sem.run_bind]at h;cases h
  ·rename_i hc;rw[if_neg hc];cases hf:en.find? (fun x=>x.born == st)with
   |none=>rw[hf]at h;cases h
   |some e=>
    rw[hf]at h;simp only[Sem.run_pure,Result.ok.injEq]at h⊢;exact⟨h.1,trivial⟩
theorem EE(ho:ops[i]?=some o)(hw:Region.wanted o (yielded ops a.tmps)=true)(it:Operand)(hop:o.op=Op.entry it){k:TypeId}(b r n:Nat)(D:DataW Value)(left:Lit->Bool)(cnt:Nat)
 (hit:a.eval it=.pointer (some ⟨r,0,none⟩)) (hb:L.Fx b) (hr:O.own r) (h:w.ranges P k R b r n D left cnt) {v:Value} (q9:(Instr.entry (.pointer (some ⟨r,0,none⟩))).run P w=.ok v w)
 (hK:∀w₁,RX L O w w₁->bG P main J (RX L) (DX L) fn ops rest n1 Q O (a.put o.dst v) w₁):
 bG P main J (RX L) (DX L) fn ops (i :: rest) (n1+1) Q O a w:=by
 refine jC ho hw fun w₁ h₁=>?_;have vP:=h.owns.lt;have hrl:=h.lt;obtain⟨es,clock,since,seen,c0,K9,_,_,_,U8,_⟩:=h;have iR:=(h₁.blk b vP (.inr hb)).trans K9;have GR:=(h₁.blk r hrl (.inl hr)).trans U8;have ac0:=entry_eq U8 K9 GR iR q9;have e1:(execOp a.eval o).run P w₁=.ok (.value v) w₁:=by simp[execOp,hop,hit,ac0,Result.andThen]
 rw[e1];refine⟨DX.still _ _ (EC hr hb fun e he=>?_),by rw[O.dh rfl];exact hK w₁ h₁⟩;have hm:=mem_listed he;simp[execOp,hop,hit]at hm;rcases K7 GR iR e hm with q|q
 ·exact .inl q
 ·exact .inr (.inl q)
end
end
section
open Go Go.Conc Go.RowKit Go.MuLone Go.Maps
section
variable {P:Program}{main:Bool}{J:Jm}{L:eg}{fn:FuncId}{Q:ew}{O:au}{a:Act}{w:World}{n1:Nat}{ops:Array Oper}{i:Nat}{rest:List Nat}{o:Oper}
theorem CC{k:TypeId}(h:aK w P k b f)(hb:L.Fx b)(x:RX L O w w₁):aK w₁ P k b f:=h.of_eq (x.blk b h.lt (.inr hb))
theorem Ho(ho:ops[i]?=some o)(hw:Region.wanted o (yielded ops a.tmps)=true)(m x:Operand)(t:TypeId)(hop:o.op=Op.lookup t m x false)
 (k e:TypeId) (K:Keyed P k) (hk:P.underlying k=some .string) (ht:P.underlying t=some (.map k e)) {z:Value} (hz:∀w,(zeroValue e).run P w=.ok z w) (b:Nat) (f:Lit->Option Value)
 (hm:a.eval m=.map (some b)) (hb:L.Fx b) (hown:aK w P k b f) (s:ByteArray) (kl:Lit) (hx:a.eval x=.string s) (hkey:keyOf P k (.string s)=some kl) (fv:Option Value) (hf:f kl=fv)
 (hK:∀w₁,RX L O w w₁->bG P main J (RX L) (DX L) fn ops rest n1 Q O (a.put o.dst (fv.getD z)) w₁):
 bG P main J (RX L) (DX L) fn ops (i :: rest) (n1+1) Q O a w:=by
 refine jC ho hw fun w₁ h₁=>?_;have h':=CC hown hb h₁;have hrun:=h'.look K ht (hz w₁) hkey;rw[hf]at hrun;have e1:(execOp a.eval o).run P w₁=.ok (.value (fv.getD z)) w₁:=by simp[execOp,hop,hm,hx,hrun,Result.andThen]
 rw[e1];refine⟨DX.still _ _ fun ev he=>?_,by rw[O.dh rfl];exact hK w₁ h₁⟩;obtain⟨_,_,⟨es,clock,K9,_⟩,_⟩:=h';have GU:=mem_listed he;simp[execOp,hop,hm,hx]at GU;have:=yh hk s ht b w₁ K9 ev GU;subst this;exact⟨rfl,.inr ⟨b,rfl,.inr ⟨hb,rfl⟩⟩⟩
end
end
section
open Go Go.Conc Go.RowKit Go.MuLone
variable {main:Bool}{J:Jm}{L:eg}
structure M8(L:eg)(w:World)(pr qm:Nat)(f:Lit->Option Value)(qb:ByteArray->Nat)(p:ByteArray->Prop)(wn:ByteArray->Nat)(hv:ByteArray->Bool)(tv:ByteArray->ByteArray)(ts:ByteArray->Value)(fm:ByteArray->ByteArray->Bool):Prop where
 fp:L.Fx pr
 cell:w.cell? ⟨pr,4,none⟩=some (.map (some qm))
 fq:L.Fx qm
 map:aK w prog 9 qm f
 meets:∀x u,f (.string x.data.toList)=some u->u=.pointer (some ⟨qb x,0,none⟩)/\p x
 fx:∀x,p x->L.Fx (qb x)
 c2:∀x,p x->w.cell? ⟨qb x,2,none⟩=some (.int .i64 (wn x))
 c3:∀x,p x->w.cell? ⟨qb x,3,none⟩=some (.bool (hv x))
 c4:∀x,p x->w.cell? ⟨qb x,4,none⟩=some (.string (tv x))
 c5:∀x,p x->w.cell? ⟨qb x,5,none⟩=some (ts x)
 La:∀x,p x->rU L w (ts x) (fm x)
 bd:∀x,p x->wn x<=1000
theorem rU.rx(h:rU L w v g)(x:RX L O w w₁):rU L w₁ v g:=by
 cases h with
 |none=>exact .none
 |keys a Ls cap h8 hc=>exact .keys a Ls cap h8 fun k y hy=>by obtain⟨g,hg,e,hh⟩:=hc k y hy;exact⟨g,hg,e,x.aV hh hg⟩
 |mask m=>exact .mask m
theorem M8.rx{w w₁:World}{O:au}{pr qm:Nat}{f:Lit->Option Value}{qb:ByteArray->Nat}{p:ByteArray->Prop}{wn:ByteArray->Nat}{hv:ByteArray->Bool}{tv:ByteArray->ByteArray}{ts:ByteArray->Value}{fm:ByteArray->ByteArray->Bool}(h:M8 L w pr qm f qb p wn hv tv ts fm)(x:RX L O w w₁):M8 L w₁ pr qm f qb p wn hv tv ts fm:=
 ⟨h.fp,x.aV h.cell h.fp,h.fq,CC h.map h.fq x,h.meets,h.fx,fun y hy=>x.aV (h.c2 y hy) (h.fx y hy),fun y hy=>x.aV (h.c3 y hy) (h.fx y hy),fun y hy=>x.aV (h.c4 y hy) (h.fx y hy),fun y hy=>x.aV (h.c5 y hy) (h.fx y hy),fun y hy=>(h.La y hy).rx x,h.bd⟩
end
section
open Go Go.Conc Go.RowKit Go.MuLone
variable {main:Bool}{J:Jm}{L:eg}
theorem BA(hd:a.defers=ds)(h:a.tmps.size=50):∃f:Nat->Value,a=⟨#[f 0,f 1,f 2,f 3,f 4,f 5,f 6,f 7,f 8,f 9,f 10,f 11,f 12,f 13,f 14,f 15,f 16,f 17,f 18,f 19,f 20,f 21,f 22,f 23,f 24,f 25,f 26,f 27,f 28,f 29,f 30,f 31,f 32,f 33,f 34,f 35,f 36,f 37,f 38,f 39,f 40,f 41,f 42,f 43,f 44,f 45,f 46,f 47,f 48,f 49],ds⟩/\∀i v,a.tmps[i]?=some v->f i=v:=uM hd (oV a.tmps 50 h)
theorem rU.isIf(h:rU L w v g):yl v:=by
 cases h<;>first|exact .inl rfl|exact .inr ⟨_,_,rfl⟩
noncomputable def dW:Code:=Tryz.f77.body.getD .skip
structure Ed(a:Act)(pr:Nat)(key:ByteArray):Prop where
 d:a.defers= []
 size:a.tmps.size=50
 g0:a.tmps[0]?=some (.pointer (some ⟨pr,0,none⟩))
 g1:a.tmps[1]?=some (.string key)
theorem ac1:∃n,∀(pr qm:Nat) (f:Lit->Option Value) (qb:ByteArray->Nat) (p:ByteArray->Prop) (wn:ByteArray->Nat) (hv:ByteArray->Bool) (tv:ByteArray->ByteArray) (ts:ByteArray->Value) (fm:ByteArray->ByteArray->Bool) (key:ByteArray) (O1:au) (W:World) (O:au) (a:Act) (w:World) (Q:ew),
 M8 L W pr qm f qb p wn hv tv ts fm->key.size<=1000->f (.string key.data.toList)=some (.pointer (some ⟨qb key,0,none⟩))->p key->Ed a pr key->bA L O1 W O w->
 cO prog main J (RX L) (DX L) 77 (cA (cB dW)) n (aX (fun O' a' w'=>Ed a' pr key/\∃r,W.heap.size<=r/\a'.tmps[5]?=some (.pointer (some ⟨r,0,none⟩))/\bA L O1 W O' w'/\OB r (.cells #[.int .i64 (wn key),.bool (hv key),.string (tv key),ts key] 144) O' w') Q) O a w:=by
 co_apply Exists.intro;intro pr qm f qb p wn hv tv ts fm key O1 W O a w Q hQ hz hf hp hl hF;dsimp only[dW,cA,cB,cI,cT,cE,Tryz.f77,Option.getD_some];obtain⟨hd,hsz,g0,g1⟩:=hl;obtain⟨fv,hT,aj⟩:=BA hd hsz;subst hT;simp only[aj 0 _ g0,aj 1 _ g1];clear hd hsz aj g0 g1;(repeat(first|co_apply aQ|(co_apply aO;try co_then)));(co_apply (aP);intro _ hR;replace hF:=hF.rely hR;clear hR;refine⟨by simp[go_sem],fun K z=>?_⟩;go_simp;refine z _ ?_;clear z K;try walk_nrm);(co_apply (aP);intro _ hR;replace hF:=hF.rely hR;clear hR;refine⟨by simp[go_sem],fun K z=>?_⟩;go_simp;refine z _ ?_;clear z K;try walk_nrm);(co_apply (aP);intro _ hR;replace hF:=hF.rely hR;clear hR;refine⟨by simp[go_sem],fun K z=>?_⟩;go_simp;refine z _ ?_;clear z K;try walk_nrm);(co_apply aC rfl (by rfl);intro _ hR K hK;replace hF:=bA.rely hF hR;clear hR;(have hc:=hF.aV hQ.cell hQ.fp);go_simp;refine hK _ ⟨?_,?_⟩;(focus(refine DX.still _ _ (cr (a:=⟨pr,4,none⟩) (.inl hQ.fp) fun e he=>?_);have hm:=mem_listed he;simp[go_sem,hc]at hm;exact hm));clear hK K;try walk_nrm);clear hc;(co_apply (aP);intro _ hR;replace hF:=hF.rely hR;clear hR;refine⟨by simp[go_sem],fun K z=>?_⟩;go_simp;refine z _ ?_;clear z K;try walk_nrm);co_apply Ho rfl (by rfl) _ _ 135 rfl 9 139 dI underlying9 underlying135 jQ qm f rfl hQ.fq (CC hQ.map hQ.fq hF.rel) key (.string key.data.toList) rfl (dZ (by unfold maxLen;omega)) _ hf;intro W2 hR;replace hF:=hF.rely hR;clear hR;walk_nrm;(co_apply (aP);intro _ hR;replace hF:=hF.rely hR;clear hR;refine⟨by simp[go_sem],fun K z=>?_⟩;go_simp;refine z _ ?_;clear z K;try walk_nrm);(co_apply (aP);intro _ hR;replace hF:=hF.rely hR;clear hR;refine⟨by simp[go_sem],fun K z=>?_⟩;go_simp;refine z _ ?_;clear z K;try walk_nrm);co_apply aC rfl (by rfl);intro W4 hR K hK;replace hF:=hF.rely hR;clear hR;have q2:=hF.aV (hQ.c2 key hp) (hQ.fx key hp);have q3:=hF.aV (hQ.c3 key hp) (hQ.fx key hp);have q4:=hF.aV (hQ.c4 key hp) (hQ.fx key hp);have q5:=hF.aV (hQ.c5 key hp) (hQ.fx key hp);have hg:=hQ.fx key hp;generalize wn key=n1 at *;generalize hv key=h1 at *;generalize tv key=t1 at *;have hs1:=(hQ.La key hp).isIf;generalize ts key=s1 at *;go_simp;refine hK _ ⟨?_,?_⟩
 ·refine DX.still _ _ (Hp hg fun e he=>?_);have hm:=mem_listed he;simp[go_sem, *]at hm;rcases hm with rfl|rfl|rfl|rfl<;>exact⟨_,rfl,rfl⟩
 clear hK K q2 q3 q4 q5;try walk_nrm
 co_apply bB rfl (by rfl);intro W5 hR K hK;replace hF:=hF.rely hR;clear hR;go_simp;refine hK _ _ ⟨?_,?_⟩
 ·rw[listed_nil (by simp[go_sem])];exact DX.alloc _ _ _
 clear hK K;try walk_nrm
 have hr:W.heap.size<=W5.heap.size:=hF.rel.le;have hH:=And.intro (hF.alloc (.cells #[.int .i64 0,.bool false,.string ⟨#[]⟩,.nilIface] 144)) (OB.new O W5 (.cells #[.int .i64 0,.bool false,.string ⟨#[]⟩,.nilIface] 144));clear hF;generalize (O.grow W5 (W5.alloc (.cells #[.int .i64 0,.bool false,.string ⟨#[]⟩,.nilIface] 144)))=O3 at hH⊢;generalize (W5.alloc (.cells #[.int .i64 0,.bool false,.string ⟨#[]⟩,.nilIface] 144))=W6 at hH⊢;generalize W5.heap.size=r at hH hr⊢;co_apply bB rfl (by rfl);intro W7 hR K hK;replace hH:=And.intro (hH.1.rely hR) (hH.2.rely hR);clear hR;have hA:aT W7 r #[.int .i64 0,.bool false,.string ⟨#[]⟩,.nilIface] 144:=hH.2.heap;have b0:=hA.cell (o:=0) (v:=.int .i64 0) rfl;have b1:=hA.cell (o:=1) (v:=.bool false) rfl;have b2:=hA.cell (o:=2) (v:=.string ⟨#[]⟩) rfl;have b3:=hA.cell (o:=3) (v:=.nilIface) rfl;have f0:=hA.frozen 0;have f1:=hA.frozen 1;have f2:=hA.frozen 2;have f3:=hA.frozen 3;have h1c:s1.oneCell'=true:=by rcases hs1 with rfl|⟨_,_,rfl⟩ <;>rfl
 have YG:=hA.set 0 (.int .i64 (n1:Int));have hA2:=YG.set 1 (.bool h1);have Hq:=hA2.set 2 (.string t1);have YH:=Hq.set 3 s1;have U9:(store ⟨r,3,none⟩ s1).run prog (((W7.setCell ⟨r,0,none⟩ (.int .i64 (n1:Int))).setCell ⟨r,1,none⟩ (.bool h1)).setCell ⟨r,2,none⟩ (.string t1))=.ok () ((((W7.setCell ⟨r,0,none⟩ (.int .i64 (n1:Int))).setCell ⟨r,1,none⟩ (.bool h1)).setCell ⟨r,2,none⟩ (.string t1)).setCell ⟨r,3,none⟩ s1):=by rw[run_store _ _ _ s1 _ h1c,Hq.cell (o:=3) (v:=.nilIface) rfl,Hq.frozen 3];rfl
 have hT:=(((dO.cell r 0 W7 (.int .i64 (n1:Int))).trans (dO.cell r 1 _ (.bool h1))).trans (dO.cell r 2 _ (.string t1))).trans (dO.cell r 3 _ s1);go_simp;try(unfold stored;go_simp)
 refine hK _ _ ⟨?_,?_⟩
 ·refine DX.own hH.2.own hT (cK (b:=true) hH.2.own fun e he=>?_);have hm:=mem_listed he;have E0:=fun es=>lp (P:=prog) (v:=.int .i64 (n1:Int)) b0 f0 rfl es;have E1:=fun es=>lp (P:=prog) (v:=.bool h1) (YG.cell (o:=1) (v:=.bool false) rfl) (YG.frozen 1) rfl es;have E2:=fun es=>lp (P:=prog) (v:=.string t1) (hA2.cell (o:=2) (v:=.string ⟨#[]⟩) rfl) (hA2.frozen 2) rfl es;have E3:=fun es=>lp (P:=prog) (v:=s1) (Hq.cell (o:=3) (v:=.nilIface) rfl) (Hq.frozen 3) h1c es;clear hQ hA YG hA2 Hq YH hH hT hs1;simp[go_sem, *]at hm;rcases hm with rfl|rfl|rfl|rfl<;>exact⟨_,rfl,rfl⟩
 clear hK K;have hE:bA L O1 W O3 ((((W7.setCell ⟨r,0,none⟩ (.int .i64 (n1:Int))).setCell ⟨r,1,none⟩ (.bool h1)).setCell ⟨r,2,none⟩ (.string t1)).setCell ⟨r,3,none⟩ s1)/\OB r (.cells #[.int .i64 (n1:Int),.bool h1,.string t1,s1] 144) O3 ((((W7.setCell ⟨r,0,none⟩ (.int .i64 (n1:Int))).setCell ⟨r,1,none⟩ (.bool h1)).setCell ⟨r,2,none⟩ (.string t1)).setCell ⟨r,3,none⟩ s1):=⟨hT.xC hH.1 hr,hH.2.own,by simpa[aT]using YH⟩
 rw[O3.dh hT.size];clear hH hA YG hA2 Hq YH b0 b1 b2 b3 f0 f1 f2 f3 hT U9;generalize ((((W7.setCell ⟨r,0,none⟩ (.int .i64 (n1:Int))).setCell ⟨r,1,none⟩ (.bool h1)).setCell ⟨r,2,none⟩ (.string t1)).setCell ⟨r,3,none⟩ s1)=W8 at hE⊢;try walk_nrm
 (repeat(first|co_apply aQ|(co_apply aO;try co_then)));exact⟨⟨rfl,rfl,rfl,rfl⟩,r,hr,rfl,hE.1,hE.2⟩
end
section
open Go Go.Conc Go.RowKit Go.MuLone
variable {main:Bool}{J:Jm}{L:eg}
theorem ac2:∃n,∀(pr r:Nat) (n1:Nat) (h1:Bool) (t1:ByteArray) (s1:Value) (key:ByteArray) (O1:au) (W:World) (O:au) (a:Act) (w:World) (Q:ew),
 Ed a pr key->a.tmps[5]?=some (.pointer (some ⟨r,0,none⟩))->bA L O1 W O w->OB r (.cells #[.int .i64 n1,.bool h1,.string t1,s1] 144) O w->
 (n1≠0->h1=false->∀O' a' w',a'.defers= []->a'.tmps[4]?=some (.bool false)->bA L O1 W O' w'->Q O' .ret a' w')->
 cO prog main J (RX L) (DX L) 77 (cA (cB (cB dW))) n (aX (fun O' a' w'=>¬(n1≠0/\h1=false)/\Ed a' pr key/\a'.tmps[5]?=some (.pointer (some ⟨r,0,none⟩))/\bA L O1 W O' w'/\OB r (.cells #[.int .i64 n1,.bool h1,.string t1,s1] 144) O' w') Q) O a w:=by
 co_apply Exists.intro;intro pr r n1 h1 t1 s1 key O1 W O a w Q hl g5 hF hB hQ;dsimp only[dW,cA,cB,cI,cT,cE,Tryz.f77,Option.getD_some];obtain⟨hd,hsz,g0,g1⟩:=hl;obtain⟨fv,hT,aj⟩:=BA hd hsz;subst hT;simp only[aj 0 _ g0,aj 1 _ g1,aj 5 _ g5];clear hd hsz aj g0 g1 g5;have hG:=And.intro hF hB;clear hF hB;have YI:Hid (n1≠0->h1=false->∀O' a' w',a'.defers= []->a'.tmps[4]?=some (.bool false)->bA L O1 W O' w'->Q O' .ret a' w'):=hQ;clear hQ;have rl:∀{o:Obj} {O2:au} {Wa Wb:World},(bA L O1 W O2 Wa/\OB r o O2 Wa)->RX L O2 Wa Wb->(bA L O1 W O2 Wb/\OB r o O2 Wb):=fun h x=>⟨h.1.rely x,h.2.rely x⟩
 have RE:∀{Wa:World} {O2:au},OB r (.cells #[.int .i64 (n1:Int),.bool h1,.string t1,s1] 144) O2 Wa->Wa.cell? ⟨r,0,none⟩=some (.int .i64 (n1:Int)):=fun x=>by simp[World.cell?,x.heap]
 have NK:∀{Wa:World} {O2:au},OB r (.cells #[.int .i64 (n1:Int),.bool h1,.string t1,s1] 144) O2 Wa->Wa.cell? ⟨r,1,none⟩=some (.bool h1):=fun x=>by simp[World.cell?,x.heap]
 co_apply ay (ah L) (fun O' a' w'=>a'.defers= []/\a'.tmps.size=50/\a'.tmps[0]?=some (.pointer (some ⟨pr,0,none⟩))/\a'.tmps[1]?=some (.string key)/\a'.tmps[5]?=some (.pointer (some ⟨r,0,none⟩))/\a'.tmps[24]?=some (.bool (!decide (n1=0)&& !h1))/\bA L O1 W O' w'/\OB r (.cells #[.int .i64 n1,.bool h1,.string t1,s1] 144) O' w')
 ·(repeat(first|co_apply aQ|((first|co_apply bh|co_apply cx|co_apply cZ|co_apply aO);try co_then)));(co_apply (aP);intro _ hR;replace hG:=rl hG hR;clear hR;refine⟨by simp[go_sem],fun K z=>?_⟩;go_simp;refine z _ ?_;clear z K;try walk_nrm);(co_apply aC rfl (by rfl);intro _ hR K hK;replace hG:=rl hG hR;clear hR;(have hc:=RE hG.2);go_simp;refine hK _ ⟨?_,?_⟩;(focus(refine DX.still _ _ (cK (b:=false) hG.2.own fun e he=>?_);have hm:=mem_listed he;simp[go_sem,hc]at hm;subst hm;exact⟨_,rfl,rfl⟩));clear hK K;try walk_nrm);clear hc;(co_apply (aP);intro _ hR;replace hG:=rl hG hR;clear hR;refine⟨by simp[go_sem],fun K z=>?_⟩;go_simp;refine z _ ?_;clear z K;try walk_nrm);by_cases h0:n1=0
  ·have e1:((n1:Int)!= 0)=false:=by simp[h0]
   simp only[e1];(co_apply (aP);intro _ hR;replace hG:=rl hG hR;clear hR;refine⟨by simp[go_sem],fun K z=>?_⟩;go_simp;refine z _ ?_;clear z K;try walk_nrm);(co_apply (qN);try walk_nrm);(co_apply (qN);try walk_nrm);(co_apply (qN);try walk_nrm);(co_apply (aP);intro _ hR;replace hG:=rl hG hR;clear hR;refine⟨by simp[go_sem],fun K z=>?_⟩;go_simp;refine z _ ?_;clear z K;try walk_nrm);(repeat(first|co_apply aQ|((first|co_apply bh|co_apply cx|co_apply cZ|co_apply aO);try co_then)));exact⟨by trivial,rfl,rfl,rfl,rfl,by simp[h0],hG.1,hG.2⟩
  ·have e1:((n1:Int)!= 0)=true:=by simp;omega
   simp only[e1];(co_apply (aP);intro _ hR;replace hG:=rl hG hR;clear hR;refine⟨by simp[go_sem],fun K z=>?_⟩;go_simp;refine z _ ?_;clear z K;try walk_nrm);(co_apply (aP);intro _ hR;replace hG:=rl hG hR;clear hR;refine⟨by simp[go_sem],fun K z=>?_⟩;go_simp;refine z _ ?_;clear z K;try walk_nrm);(co_apply aC rfl (by rfl);intro _ hR K hK;replace hG:=rl hG hR;clear hR;(have hc:=NK hG.2);go_simp;refine hK _ ⟨?_,?_⟩;(focus(refine DX.still _ _ (cK (b:=false) hG.2.own fun e he=>?_);have hm:=mem_listed he;simp[go_sem,hc]at hm;subst hm;exact⟨_,rfl,rfl⟩));clear hK K;try walk_nrm);clear hc;(co_apply (aP);intro _ hR;replace hG:=rl hG hR;clear hR;refine⟨by simp[go_sem],fun K z=>?_⟩;go_simp;refine z _ ?_;clear z K;try walk_nrm);(co_apply (aP);intro _ hR;replace hG:=rl hG hR;clear hR;refine⟨by simp[go_sem],fun K z=>?_⟩;go_simp;refine z _ ?_;clear z K;try walk_nrm);(repeat(first|co_apply aQ|((first|co_apply bh|co_apply cx|co_apply cZ|co_apply aO);try co_then)));exact⟨by trivial,rfl,rfl,rfl,rfl,by simp[h0],hG.1,hG.2⟩
 ·rintro O' ⟨tms,EF⟩ w' ⟨hd,hsz,g0,g1,g5,xD,hF,hB⟩;simp only at hd hsz g0 g1 g5 xD;subst hd;co_apply aN (ah L) (t:=!decide (n1=0)&& !h1)
  ·simp[Act.eval,xD]
  ·intro ht;have hn:n1≠0/\h1=false:=by simpa using ht
   (repeat(first|co_apply aQ|((first|co_apply bh|co_apply cx|co_apply cZ|co_apply aO);try co_then)));(co_apply (aP);intro _ hR;replace hF:=hF.rely hR;clear hR;refine⟨by simp[go_sem],fun K z=>?_⟩;go_simp;refine z _ ?_;clear z K;try walk_nrm);(repeat(first|co_apply aQ|((first|co_apply bh|co_apply cx|co_apply cZ|co_apply aO);try co_then)));exact YI.out hn.1 hn.2 _ _ _ rfl (by simp[hsz]) hF
  ·intro ht;(repeat(first|co_apply aQ|((first|co_apply bh|co_apply cx|co_apply cZ|co_apply aO);try co_then)));exact⟨fun h=>by simp[h.1,h.2]at ht,⟨rfl,hsz,g0,g1⟩,g5,hF,hB⟩
end
section
open Go Go.Conc Go.RowKit Go.MuLone Go.Maps
variable {main:Bool}{J:Jm}{L:eg}
theorem ac3:∃n,∀(pr qm:Nat) (f:Lit->Option Value) (qb:ByteArray->Nat) (p:ByteArray->Prop) (wn:ByteArray->Nat) (hv:ByteArray->Bool) (tv:ByteArray->ByteArray) (ts:ByteArray->Value) (fm:ByteArray->ByteArray->Bool) (nn:Nat) (D:DataW Value) (r:Nat) (ob:Obj) (key:ByteArray) (O1:au) (W:World) (O:au) (a:Act) (w:World) (Q:ew),
 M8 L W pr qm f qb p wn hv tv ts fm->W.ownsMap prog 9 aL qm nn D->Ed a pr key->a.tmps[5]?=some (.pointer (some ⟨r,0,none⟩))->bA L O1 W O w->OB r ob O w->
 cO prog main J (RX L) (DX L) 77 (cA (cA (cB (cB (cB dW))))) n (aX (fun O' a' w'=>Ed a' pr key/\a'.tmps[5]?=some (.pointer (some ⟨r,0,none⟩))/\∃it,W.heap.size<=it/\it≠r/\O'.own it/\a'.tmps[29]?=some (.pointer (some ⟨it,0,none⟩))/\bA L O1 W O' w'/\OB r ob O' w'/\w'.ranges prog 9 aL qm it nn D (Maps.has D) (Maps.size D)) Q) O a w:=by
 co_apply Exists.intro;intro pr qm f qb p wn hv tv ts fm nn D r ob key O1 W O a w Q hQ hown hl g5 hF hB;dsimp only[dW,cA,cB,cI,cT,cE,Tryz.f77,Option.getD_some];obtain⟨hd,hsz,g0,g1⟩:=hl;obtain⟨fv,hT,aj⟩:=BA hd hsz;subst hT;simp only[aj 0 _ g0,aj 1 _ g1,aj 5 _ g5];clear hd hsz aj g0 g1 g5;have hG:=And.intro hF hB;clear hF hB;have rl:∀{o:Obj} {O2:au} {Wa Wb:World},(bA L O1 W O2 Wa/\OB r o O2 Wa)->RX L O2 Wa Wb->(bA L O1 W O2 Wb/\OB r o O2 Wb):=fun h x=>⟨h.1.rely x,h.2.rely x⟩
 (repeat(first|co_apply aQ|(co_apply aO;try co_then)));(co_apply (aP);intro _ hR;replace hG:=rl hG hR;clear hR;refine⟨by simp[go_sem],fun K z=>?_⟩;go_simp;refine z _ ?_;clear z K;try walk_nrm);(co_apply (aP);intro _ hR;replace hG:=rl hG hR;clear hR;refine⟨by simp[go_sem],fun K z=>?_⟩;go_simp;refine z _ ?_;clear z K;try walk_nrm);(co_apply (aP);intro _ hR;replace hG:=rl hG hR;clear hR;refine⟨by simp[go_sem],fun K z=>?_⟩;go_simp;refine z _ ?_;clear z K;try walk_nrm);(co_apply aC rfl (by rfl);intro _ hR K hK;replace hG:=rl hG hR;clear hR;(have hc:=hG.1.aV hQ.cell hQ.fp);go_simp;refine hK _ ⟨?_,?_⟩;(focus(refine DX.still _ _ (cr (a:=⟨pr,4,none⟩) (.inl hQ.fp) fun e he=>?_);have hm:=mem_listed he;simp[go_sem,hc]at hm;exact hm));clear hK K;try walk_nrm);clear hc;co_apply ED rfl (by rfl) _ 135 rfl 9 139 dI underlying135 qm nn D (by rfl) hQ.fq (yj hown hQ.fq hG.1.rel);rintro W1 W2 hR ⟨o2,rfl⟩ lm;replace hG:=rl hG hR;clear hR;have hit:W.heap.size<=W1.heap.size:=hG.1.rel.le;have hne:W1.heap.size≠r:=Nat.ne_of_gt hG.2.lt;have hnew:(O.grow W1 (W1.alloc o2)).own W1.heap.size:=.inr ⟨Nat.le_refl _,by rw[xE];omega⟩;have hE:=And.intro (hG.1.alloc o2) (hG.2.alloc o2);clear hG;generalize (O.grow W1 (W1.alloc o2))=O2 at hE hnew⊢;generalize (W1.alloc o2)=W2 at hE lm⊢;generalize W1.heap.size=it at hit hne hnew lm⊢;try walk_nrm
 (repeat(first|co_apply aQ|(co_apply aO;try co_then)));exact⟨⟨rfl,rfl,rfl,rfl⟩,rfl,it,hit,hne,hnew,rfl,hE.1,hE.2,lm⟩
end
section
open Go Go.Conc Go.RowKit Go.MuLone Go.Maps
variable {main:Bool}{J:Jm}{L:eg}
noncomputable def Hs:Code:=cI (cI (cB (cA (cB (cB (cB dW))))))
theorem ac4:∃n,∀(pr qm:Nat) (f:Lit->Option Value) (qb:ByteArray->Nat) (p:ByteArray->Prop) (nn:Nat) (D:DataW Value) (left:Lit->Bool) (cnt:Nat) (r it:Nat) (ob:Obj) (key:ByteArray) (O1:au) (W:World) (O:au) (a:Act) (w:World) (Q:ew),
 L.Fx qm->Says D f->(∀x u,f (.string x.data.toList)=some u->u=.pointer (some ⟨qb x,0,none⟩)/\p x)->Ed a pr key->a.tmps[5]?=some (.pointer (some ⟨r,0,none⟩))->a.tmps[29]?=some (.pointer (some ⟨it,0,none⟩))->W.heap.size<=it->it≠r->O.own it->bA L O1 W O w->OB r ob O w->w.ranges prog 9 aL qm it nn D left cnt->
 cO prog main J (RX L) (DX L) 77 (cA Hs) n (aX (fun O' a' w'=>Ed a' pr key/\a'.tmps[5]?=some (.pointer (some ⟨r,0,none⟩))/\a'.tmps[29]?=some (.pointer (some ⟨it,0,none⟩))/\O'.own it/\bA L O1 W O' w'/\OB r ob O' w'/\
  ((a'.tmps[31]?=some (.bool false)/\∀kl,left kl=false)\/(a'.tmps[31]?=some (.bool true)/\∃(x:ByteArray) (cnt':Nat),p x/\left (.string x.data.toList)=true/\cnt'<cnt/\w'.ranges prog 9 aL qm it nn D (fun z=>left z && !z.sameKey (.string x.data.toList)) cnt'/\(Instr.entry (.pointer (some ⟨it,0,none⟩))).run prog w'=.ok (.tuple #[.string x,.pointer (some ⟨qb x,0,none⟩)]) w'))) Q) O a w:=by
 co_apply Exists.intro
 intro pr qm f qb p nn D left cnt r it ob key O1 W O a w Q M9 hs Va hl g5 GV hit hne hown hF hB lm
 dsimp only[Hs,dW,cA,cB,cI,cT,cE,Tryz.f77,Option.getD_some]
 obtain⟨hd,hsz,g0,g1⟩:=hl
 obtain⟨fv,hT,aj⟩:=BA hd hsz
 subst hT
 simp only[aj 0 _ g0,aj 1 _ g1,aj 5 _ g5,aj 29 _ GV]
 clear hd hsz aj g0 g1 g5 GV
 have rl:∀{o:Obj} {O2:au} {Wa Wb:World},(bA L O1 W O2 Wa/\OB r o O2 Wa)->RX L O2 Wa Wb->(bA L O1 W O2 Wb/\OB r o O2 Wb):=fun h x=>⟨h.1.rely x,h.2.rely x⟩
 repeat(first|co_apply aQ|(co_apply aO;try co_then))
 co_apply Hl rfl (by rfl) _ rfl 9 dI underlying9 qm it nn D f hs qb p Va left cnt (by rfl) M9 hown lm
 ·intro W1 hR hall
  have hG:=rl (And.intro hF hB) hR
  clear hR hF hB lm
  try walk_nrm
  co_apply (aP);intro _ hR;replace hG:=rl hG hR;clear hR;refine⟨by simp[go_sem],fun K z=>?_⟩;go_simp;refine z _ ?_;clear z K;try walk_nrm
  repeat(first|co_apply aQ|(co_apply aO;try co_then))
  exact⟨⟨rfl,rfl,rfl,rfl⟩,rfl,rfl,hown,hG.1,hG.2,.inl ⟨rfl,hall⟩⟩
 ·intro W1 hR x W2 cnt' hp EG EH hlt hT q9
  have hG:=rl (And.intro hF hB) hR
  clear hR hF hB lm
  have hE:=And.intro (hT.xC hG.1 hit) (hT.ob hG.2 (Ne.symm hne))
  clear hG
  have hH:Hid (w.heap.size=w.heap.size):=rfl
  have iR:qm<W2.heap.size:=EH.owns.lt
  have kQ:it<W2.heap.size:=EH.lt
  try walk_nrm
  co_apply aC rfl (by rfl)
  intro W3 hR K hK
  have ac5:=mN EH M9 hown hR
  have ac6:(Instr.entry (.pointer (some ⟨it,0,none⟩))).run prog W3=.ok (.tuple #[.string x,.pointer (some ⟨qb x,0,none⟩)]) W3:=by obtain⟨es,clock,since,seen,c0,K9,_,_,_,U8,_⟩:=EH;exact entry_eq U8 K9 ((hR.blk it kQ (.inl hown)).trans U8) ((hR.blk qm iR (.inr M9)).trans K9) q9
  replace hE:=rl hE hR
  clear hR EH q9
  go_simp
  refine hK _ ⟨?_,?_⟩
  ·(rw[listed_nil (by simp[go_sem])];exact DX.idle _ _)
  clear hK K
  try walk_nrm
  repeat(first|co_apply aQ|(co_apply aO;try co_then))
  exact⟨⟨rfl,rfl,rfl,rfl⟩,rfl,rfl,hown,hE.1,hE.2,.inr ⟨rfl,x,cnt',hp,EG,hlt,ac5,ac6⟩⟩
theorem ac7:∃n,∀(pr qm:Nat) (qx:Nat) (x:ByteArray) (nn:Nat) (D:DataW Value) (left:Lit->Bool) (cnt:Nat) (r it:Nat) (ob:Obj) (key:ByteArray) (O1:au) (W:World) (O:au) (a:Act) (w:World) (Q:ew),
 L.Fx qm->Ed a pr key->a.tmps[5]?=some (.pointer (some ⟨r,0,none⟩))->a.tmps[29]?=some (.pointer (some ⟨it,0,none⟩))->O.own it->bA L O1 W O w->OB r ob O w->w.ranges prog 9 aL qm it nn D left cnt->(Instr.entry (.pointer (some ⟨it,0,none⟩))).run prog w=.ok (.tuple #[.string x,.pointer (some ⟨qx,0,none⟩)]) w->
 cO prog main J (RX L) (DX L) 77 (cA (cI (cB (cB Hs)))) n (aX (fun O' a' w'=>Ed a' pr key/\a'.tmps[5]?=some (.pointer (some ⟨r,0,none⟩))/\a'.tmps[29]?=some (.pointer (some ⟨it,0,none⟩))/\a'.tmps[7]?=some (.pointer (some ⟨qx,0,none⟩))/\O'.own it/\bA L O1 W O' w'/\OB r ob O' w'/\w'.ranges prog 9 aL qm it nn D left cnt) Q) O a w:=by
 co_apply Exists.intro;intro pr qm qx x nn D left cnt r it ob key O1 W O a w Q M9 hl g5 GV hown hF hB lm q9;dsimp only[Hs,dW,cA,cB,cI,cT,cE,Tryz.f77,Option.getD_some];obtain⟨hd,hsz,g0,g1⟩:=hl;obtain⟨fv,hT,aj⟩:=BA hd hsz;subst hT;simp only[aj 0 _ g0,aj 1 _ g1,aj 5 _ g5,aj 29 _ GV];clear hd hsz aj g0 g1 g5 GV;have hG:=And.intro (And.intro hF hB) lm;clear hF hB;have rl:∀{o:Obj} {Wa Wb:World},((bA L O1 W O Wa/\OB r o O Wa)/\Wa.ranges prog 9 aL qm it nn D left cnt)->RX L O Wa Wb->((bA L O1 W O Wb/\OB r o O Wb)/\Wb.ranges prog 9 aL qm it nn D left cnt):=fun h x=>⟨⟨h.1.1.rely x,h.1.2.rely x⟩,mN h.2 M9 hown x⟩
 (repeat(first|co_apply aQ|(co_apply aO;try co_then)));co_apply EE rfl (by rfl) _ rfl qm it nn D left cnt (by rfl) M9 hown lm q9;intro W1 hR;replace hG:=rl hG hR;clear hR lm q9;try walk_nrm
 (co_apply (aP);intro _ hR;replace hG:=rl hG hR;clear hR;refine⟨by simp[go_sem],fun K z=>?_⟩;go_simp;refine z _ ?_;clear z K;try walk_nrm);(co_apply (aP);intro _ hR;replace hG:=rl hG hR;clear hR;refine⟨by simp[go_sem],fun K z=>?_⟩;go_simp;refine z _ ?_;clear z K;try walk_nrm);(repeat(first|co_apply aQ|(co_apply aO;try co_then)));exact⟨⟨rfl,rfl,rfl,rfl⟩,rfl,rfl,rfl,hown,hG.1.1,hG.1.2,hG.2⟩
end
section
open Go Go.Conc Go.RowKit Go.MuLone Go.Maps
variable {main:Bool}{J:Jm}{L:eg}
def TW(L:eg)(W:World)(r:Nat)(ob:Obj)(w:World):Prop:=iY L W w/\w.heap[r]?=some ob
theorem ade:∃n,∀(pr qm:Nat) (qx nx n1:Nat) (hx h1:Bool) (tx t1:ByteArray) (sx s1:Value) (fx:ByteArray->Bool) (nn:Nat) (D:DataW Value) (left:Lit->Bool) (cnt:Nat) (r it:Nat) (key:ByteArray) (O1:au) (W:World) (O:au) (a:Act) (w:World) (Q:ew),
 L.Fx qm->L.Fx qx->W.cell? ⟨qx,2,none⟩=some (.int .i64 nx)->W.cell? ⟨qx,3,none⟩=some (.bool hx)->W.cell? ⟨qx,4,none⟩=some (.string tx)->W.cell? ⟨qx,5,none⟩=some sx->rU L W sx fx->key.size<=1000->Ed a pr key->a.tmps[5]?=some (.pointer (some ⟨r,0,none⟩))->a.tmps[29]?=some (.pointer (some ⟨it,0,none⟩))->a.tmps[7]?=some (.pointer (some ⟨qx,0,none⟩))->W.heap.size<=r->O.own it->bA L O1 W O w->OB r (.cells #[.int .i64 n1,.bool h1,.string t1,s1] 144) O w->w.ranges prog 9 aL qm it nn D left cnt->
 (n1<nx->fx key=true->∀O' a' w',a'.defers= []->a'.tmps[4]?=some (.bool false)->bA L O1 W O' w'->Q O' .ret a' w')->
 cO prog main J (RX L) (DX L) 77 (cB (cI (cB (cB Hs)))) n (aX (fun O' a' w'=>¬(n1<nx/\fx key=true)/\Ed a' pr key/\a'.tmps[5]?=some (.pointer (some ⟨r,0,none⟩))/\a'.tmps[29]?=some (.pointer (some ⟨it,0,none⟩))/\O'.own it/\bA L O1 W O' w'/\OB r (.cells #[.int .i64 n1,.bool h1,.string t1,s1] 144) O' w'/\w'.ranges prog 9 aL qm it nn D left cnt) Q) O a w:=by
 obtain⟨nm,hmay⟩:=YF (main:=main) (J:=J) (L:=L);co_apply Exists.intro;intro pr qm qx nx n1 hx h1 tx t1 sx s1 fx nn D left cnt r it key O1 W O a w Q M9 D9 c2 c3 c4 c5 adf hz hl g5 GV g7 hrW hown hF hB lm hQ;dsimp only[Hs,dW,cA,cB,cI,cT,cE,Tryz.f77,Option.getD_some];obtain⟨hd,hsz,g0,g1⟩:=hl;obtain⟨fv,hT,aj⟩:=BA hd hsz;subst hT;simp only[aj 0 _ g0,aj 1 _ g1,aj 5 _ g5,aj 29 _ GV,aj 7 _ g7];clear hd hsz aj g0 g1 g5 GV g7;have YI:Hid (n1<nx->fx key=true->∀O' a' w',a'.defers= []->a'.tmps[4]?=some (.bool false)->bA L O1 W O' w'->Q O' .ret a' w'):=hQ;clear hQ;have hG:=And.intro (And.intro hF hB) lm;clear hF hB lm;have rl:∀{o:Obj} {O2:au} {Wa Wb:World},O2.own it->((bA L O1 W O2 Wa/\OB r o O2 Wa)/\Wa.ranges prog 9 aL qm it nn D left cnt)->RX L O2 Wa Wb->((bA L O1 W O2 Wb/\OB r o O2 Wb)/\Wb.ranges prog 9 aL qm it nn D left cnt):=fun ho h x=>⟨⟨h.1.1.rely x,h.1.2.rely x⟩,mN h.2 M9 ho x⟩
 have aiW:r<w.heap.size:=hG.1.2.lt;have hSR:∀(O':au) (x y:World),(∀i,O.own i->O'.own i)->TW L W r (.cells #[.int .i64 (n1:Int),.bool h1,.string t1,s1] 144) x->RX L O' x y->TW L W r (.cells #[.int .i64 (n1:Int),.bool h1,.string t1,s1] 144) y:=
  fun O' x y hO hx hr=>⟨hx.1.rely hr,(hr.blk r (zbl.1 hx.2).1 (.inl (hO r hG.1.2.own))).trans hx.2⟩
 have Ve:∀{x:World},TW L W r (.cells #[.int .i64 (n1:Int),.bool h1,.string t1,s1] 144) x->x.cell? ⟨r,0,none⟩=some (.int .i64 (n1:Int)):=fun h=>by simp[World.cell?,h.2]
 co_apply oZ (ah L);co_apply gp (ah L) DX.draw (c:=nm+Eb) (O0:=O) (S:=TW L W r (.cells #[.int .i64 (n1:Int),.bool h1,.string t1,s1] 144)) (by unfold Eb;omega) (by first|kernel_rfl|rfl);intro W1 hR;replace hG:=rl hown (rl hown hG hR) (RX.draw _ _);clear hR;simp only[List.size_toArray,List.length_cons,List.length_nil,Nat.reduceAdd,Nat.zero_add];co_applyP Q6 hSR (fun _ _ _ _ h r=>lq (ah L) h r) (fun _ h=>h) ⟨iY.of hG.1.1.rel,hG.1.2.heap⟩;intro hb;(co_applyP qu hb (i:=0) rfl (by kernel_rfl) (by rfl) (fun _ hw=>?b1);(case b1=>(refine⟨by simp[go_sem],fun K hK=>?_⟩;go_simp;exact hK));try walk_nrm);(co_applyP qu hb (i:=1) rfl (by kernel_rfl) (by rfl) (fun _ hw=>?b2);(case b2=>(refine⟨by simp[go_sem],fun K hK=>?_⟩;go_simp;exact hK));try walk_nrm);(co_applyP qu hb (i:=2) rfl (by kernel_rfl) (by rfl) (fun _ hw=>?b3);(case b3=>(refine⟨by simp[go_sem],fun K hK=>?_⟩;go_simp;exact hK));try walk_nrm);(co_applyP qu hb (i:=3) rfl (by kernel_rfl) (by rfl) (fun _ hw=>?b4);(case b4=>(refine⟨by simp[go_sem],fun K hK=>?_⟩;go_simp;exact hK));try walk_nrm);(co_applyP BB hb (i:=4) rfl (by kernel_rfl) (by rfl) (fun _ _ hO hw=>?b5);(case b5=>((have hc:=iY.aV hw.1 c2 D9);refine⟨fun K hK=>?_,?_⟩;(focus(go_simp;exact hK));(refine DX.still _ _ (cr (a:=⟨qx,2,none⟩) (.inl D9) fun e he=>?_);have hm:=mem_listed he;simp[go_sem,hc]at hm;exact hm)));try walk_nrm);(co_applyP qu hb (i:=5) rfl (by kernel_rfl) (by rfl) (fun _ hw=>?b6);(case b6=>(refine⟨by simp[go_sem],fun K hK=>?_⟩;go_simp;exact hK));try walk_nrm);(co_applyP BB hb (i:=6) rfl (by kernel_rfl) (by rfl) (fun _ _ hO hw=>?b7);(case b7=>((have hc:=Ve hw);refine⟨fun K hK=>?_,?_⟩;(focus(go_simp;exact hK));(refine DX.still _ _ (cK (b:=false) (hO _ hG.1.2.own) fun e he=>?_);have hm:=mem_listed he;simp[go_sem,hc]at hm;exact⟨_,hm,rfl⟩)));try walk_nrm);(co_applyP qu hb (i:=7) rfl (by kernel_rfl) (by rfl) (fun _ hw=>?b8);(case b8=>(refine⟨by simp[go_sem],fun K hK=>?_⟩;go_simp;exact hK));try walk_nrm);by_cases hlt:n1<nx
 ·have e1:decide (n1<nx)=true:=by simp[hlt]
  simp only[e1];clear e1;(co_applyP qu hb (i:=8) rfl (by kernel_rfl) (by rfl) (fun _ hw=>?b9);(case b9=>(refine⟨by simp[go_sem],fun K hK=>?_⟩;go_simp;exact hK));try walk_nrm);(co_applyP qu hb (i:=9) rfl (by kernel_rfl) (by rfl) (fun _ hw=>?Vf);(case Vf=>(refine⟨by simp[go_sem],fun K hK=>?_⟩;go_simp;exact hK));try walk_nrm);(co_applyP qu hb (i:=10) rfl (by kernel_rfl) (by rfl) (fun _ hw=>?Vg);(case Vg=>(refine⟨by simp[go_sem],fun K hK=>?_⟩;go_simp;exact hK));try walk_nrm);(co_applyP qu hb (i:=11) rfl (by kernel_rfl) (by rfl) (fun _ hw=>?Vh);(case Vh=>(refine⟨by simp[go_sem],fun K hK=>?_⟩;go_simp;exact hK));try walk_nrm);(co_applyP BB hb (i:=12) rfl (by kernel_rfl) (by rfl) (fun _ _ hO hw=>?Vi);(case Vi=>((have q2:=iY.aV hw.1 c2 D9;have q3:=iY.aV hw.1 c3 D9;have q4:=iY.aV hw.1 c4 D9;have q5:=iY.aV hw.1 c5 D9);refine⟨fun K hK=>?_,?_⟩;(focus(go_simp;exact hK));(refine DX.still _ _ (Hp D9 fun e he=>?_);have hm:=mem_listed he;simp[go_sem,q2,q3,q4,q5]at hm;rcases hm with rfl|rfl|rfl|rfl<;>exact⟨_,rfl,rfl⟩)));try walk_nrm);(co_applyP qu hb (i:=13) rfl (by kernel_rfl) (by rfl) (fun _ hw=>?Vj);(case Vj=>(refine⟨by simp[go_sem],fun K hK=>?_⟩;go_simp;exact hK));try walk_nrm);refine jR (rs:= [14]) (by kernel_rfl) (by simp) fun i hi=>?_;obtain rfl:i=14:=by simpa using hi
  refine .inr ⟨116,_,_,nm,_,Nat.le_refl _,rfl,by walk_nrm;exact hmay key (nx:Int) hx tx sx fx _ _ (adf.rx hG.1.1.rel) hz hG.1.1.top,?_⟩;rintro O2 y W2 ⟨rfl,hF2⟩;have qO:(∀i,O.own i->O2.own i)/\((bA L O1 W O2 W2/\OB r (.cells #[.int .i64 (n1:Int),.bool h1,.string t1,s1] 144) O2 W2)/\W2.ranges prog 9 aL qm it nn D left cnt):=⟨hF2.own,⟨hG.1.1.trans hF2,hG.1.2.xC hF2⟩,mN hG.2 M9 hown hF2.rel⟩
  have YK:O2.own it:=hF2.own _ hown;clear hG hF2;refine⟨⟨qO.1,iY.of qO.2.1.1.rel,qO.2.1.2.heap⟩,?_⟩;walk_nrm;co_applyP Q6 hSR (fun _ _ _ _ h r=>lq (ah L) h r) qO.1 ⟨iY.of qO.2.1.1.rel,qO.2.1.2.heap⟩;intro hb;(co_applyP qu hb (i:=15) rfl (by kernel_rfl) (by rfl) (fun _ hw=>?b15);(case b15=>(refine⟨by simp[go_sem],fun K hK=>?_⟩;go_simp;exact hK));try walk_nrm);refine kR (by kernel_rfl) ?_ _;replace hG:=qO.2;clear qO;co_then;co_apply aN (ah L) (t:=fx key)
  ·simp[Act.eval]
  ·intro ht;have hG1:=hG.1.1;clear hG;(repeat(first|co_apply aQ|((first|co_apply bh|co_apply cx|co_apply cZ|co_apply aO);try co_then)));(co_apply (aP);intro _ hR;replace hG1:=hG1.rely hR;clear hR;refine⟨by simp[go_sem],fun K z=>?_⟩;go_simp;refine z _ ?_;clear z K;try walk_nrm);(repeat(first|co_apply aQ|((first|co_apply bh|co_apply cx|co_apply cZ|co_apply aO);try co_then)));exact YI.out hlt ht _ _ _ rfl rfl hG1
  ·intro ht;(repeat(first|co_apply aQ|((first|co_apply bh|co_apply cx|co_apply cZ|co_apply aO);try co_then)));exact⟨(fun h=>by rw[h.2]at ht;cases ht),⟨rfl,rfl,rfl,rfl⟩,rfl,rfl,YK,hG.1.1,hG.1.2,hG.2⟩
 ·have e1:decide (n1<nx)=false:=by simp[hlt]
  simp only[e1];clear e1;co_applyP Q6 hSR (fun _ _ _ _ h r=>lq (ah L) h r) (fun _ h=>h) ⟨iY.of hG.1.1.rel,hG.1.2.heap⟩;intro hb;(co_applyP qu hb (i:=8) rfl (by kernel_rfl) (by rfl) (fun _ hw=>?b30);(case b30=>(refine⟨by simp[go_sem],fun K hK=>?_⟩;go_simp;exact hK));try walk_nrm);(co_applyP Xr hb (i:=9) rfl (by kernel_rfl) (by rfl);try walk_nrm);(co_applyP Xr hb (i:=10) rfl (by kernel_rfl) (by rfl);try walk_nrm);(co_applyP Xr hb (i:=11) rfl (by kernel_rfl) (by rfl);try walk_nrm);(co_applyP Xr hb (i:=12) rfl (by kernel_rfl) (by rfl);try walk_nrm);(co_applyP Xr hb (i:=13) rfl (by kernel_rfl) (by rfl);try walk_nrm);(co_applyP Xr hb (i:=14) rfl (by kernel_rfl) (by rfl);try walk_nrm);(co_applyP qu hb (i:=15) rfl (by kernel_rfl) (by rfl) (fun _ hw=>?b37);(case b37=>(refine⟨by simp[go_sem],fun K hK=>?_⟩;go_simp;exact hK));try walk_nrm);refine kR (by kernel_rfl) ?_ _;co_then;co_apply aN (ah L) (t:=false)
  ·simp[Act.eval]
  ·intro ht;cases ht
  ·intro ht;(repeat(first|co_apply aQ|((first|co_apply bh|co_apply cx|co_apply cZ|co_apply aO);try co_then)));exact⟨fun h=>hlt h.1,⟨rfl,rfl,rfl,rfl⟩,rfl,rfl,hown,hG.1.1,hG.1.2,hG.2⟩
end
section
open Go Go.Conc Go.RowKit Go.MuLone Go.Maps
variable {main:Bool}{J:Jm}{L:eg}
def ym(p:ByteArray->Prop)(wn:ByteArray->Nat)(hv:ByteArray->Bool)(fm:ByteArray->ByteArray->Bool)(key:ByteArray):Prop:=
 ¬(wn key≠0/\hv key=false)/\∀x,p x->¬(wn key<wn x/\fm x key=true)
theorem RF{x y:ByteArray}(h:Lit.string x.data.toList=Lit.string y.data.toList):x=y:=by injection h with h;exact ByteArray.ext (Array.toList_inj.1 h)
theorem NP:∃n,∀(pr qm:Nat) (f:Lit->Option Value) (qb:ByteArray->Nat) (p:ByteArray->Prop) (wn:ByteArray->Nat) (hv:ByteArray->Bool) (tv:ByteArray->ByteArray) (ts:ByteArray->Value) (fm:ByteArray->ByteArray->Bool) (nn:Nat) (D:DataW Value) (r it:Nat) (key:ByteArray) (O1:au) (W:World) (Q:ew),
 M8 L W pr qm f qb p wn hv tv ts fm->Says D f->key.size<=1000->W.heap.size<=r->W.heap.size<=it->it≠r->
 ((∃x,p x/\wn key<wn x/\fm x key=true)->∀O' a' w',a'.defers= []->a'.tmps[4]?=some (.bool false)->bA L O1 W O' w'->Q O' .ret a' w')->
 ((∀x,p x->¬(wn key<wn x/\fm x key=true))->∀O' a' w',Ed a' pr key->bA L O1 W O' w'->Q O' (.exit 0) a' w')->
 ∀(j:Nat) (O:au) (a:Act) (w:World),
 (∃(left:Lit->Bool) (cnt:Nat),cnt<=j/\Ed a pr key/\a.tmps[5]?=some (.pointer (some ⟨r,0,none⟩))/\a.tmps[29]?=some (.pointer (some ⟨it,0,none⟩))/\O.own it/\bA L O1 W O w/\OB r (.cells #[.int .i64 (wn key),.bool (hv key),.string (tv key),ts key] 144) O w/\w.ranges prog 9 aL qm it nn D left cnt/\∀x,p x->left (.string x.data.toList)=false->¬(wn key<wn x/\fm x key=true))->
 cO prog main J (RX L) (DX L) 77 Hs n (aX (fun O' a' w'=>∃j',j'<j/\
  (∃(left:Lit->Bool) (cnt:Nat),cnt<=j'/\Ed a' pr key/\a'.tmps[5]?=some (.pointer (some ⟨r,0,none⟩))/\a'.tmps[29]?=some (.pointer (some ⟨it,0,none⟩))/\O'.own it/\bA L O1 W O' w'/\OB r (.cells #[.int .i64 (wn key),.bool (hv key),.string (tv key),ts key] 144) O' w'/\w'.ranges prog 9 aL qm it nn D left cnt/\∀x,p x->left (.string x.data.toList)=false->¬(wn key<wn x/\fm x key=true))) Q) O a w:=by
 obtain⟨n5,h5⟩:=ac4 (main:=main) (J:=J) (L:=L)
 obtain⟨n6,h6⟩:=ac7 (main:=main) (J:=J) (L:=L)
 obtain⟨n7,h7⟩:=ade (main:=main) (J:=J) (L:=L)
 co_apply Exists.intro
 intro pr qm f qb p wn hv tv ts fm nn D r it key O1 W Q xF hs hz hrW hit hne hQ hE j O a w hI
 obtain⟨left,cnt,ep,hl,g5,GV,hown,hF,hB,lm,JS⟩:=hI
 co_apply ay (ah L) (x:=cA Hs) (y:=cB Hs) _
 focus exact h5 pr qm f qb p nn D left cnt r it _ key O1 W _ _ _ _ xF.fq hs xF.meets hl g5 GV hit hne hown hF hB lm
 rintro O a w ⟨hl,g5,GV,hown,hF,hB,iF⟩
 co_apply oZ (ah L) (x:=cA (cB Hs)) (y:=cB (cB Hs))
 rcases iF with⟨g31,hall⟩|⟨g31,x,cnt',hp,EG,hlt,lm,q9⟩
 ·co_apply aN (ah L) (t:=false)
  ·simp[Act.eval,g31]
  ·intro h;cases h
  ·intro _
   co_apply sZ (ah L)
   exact hE (fun x hx=>JS x hx (hall _)) _ _ _ hl hF
 ·co_apply aN (ah L) (t:=true)
  ·simp[Act.eval,g31]
  ·intro _
   co_apply iZ (ah L)
   co_then
   co_apply fJ (ah L) (c:=cI (cB (cB Hs)))
   co_apply ay (ah L) (x:=cA (cI (cB (cB Hs)))) (y:=cB (cI (cB (cB Hs)))) _
   focus exact h6 pr qm (qb x) x nn D _ cnt' r it _ key O1 W _ _ _ _ xF.fq hl g5 GV hown hF hB lm q9
   rintro O a w ⟨hl,g5,GV,g7,hown,hF,hB,lm⟩
   refine o8 (h7 pr qm (qb x) (wn x) (wn key) (hv x) (hv key) (tv x) (tv key) (ts x) (ts key) (fm x) nn D _ cnt' r it key O1 W O a w (jc 1 (aX (fun _ _ _=>False) Q)) xF.fq (xF.fx x hp) (xF.c2 x hp) (xF.c3 x hp) (xF.c4 x hp) (xF.c5 x hp) (xF.La x hp) hz hl g5 GV g7 hrW hown hF hB lm ?_) ?_
   ·intro q1 q2 O' a' w' q3 q4 q5
    exact hQ ⟨x,hp,q1,q2⟩ O' a' w' q3 q4 q5
   ·intro O' e a' w' q
    cases e with
    |normal=>
     obtain⟨q1,q2,q3,q4,q5,q6,q7,q8⟩:=q
     refine⟨cnt',by omega,_,cnt',Nat.le_refl _,q2,q3,q4,q5,q6,q7,q8,fun y hy hly=>?_⟩
     by_cases e:y=x
     ·subst e;exact q1
     ·have hk:(Lit.string y.data.toList).sameKey (.string x.data.toList)=false:=Maps.sameKey_ne fun h=>e (RF h)
      rw[hk]at hly
      exact JS y hy (by simpa using hly)
    |exit id=>
     simp only[aX,jc,Exit.then,Exit.inBlock]at q⊢
     split at q
     ·exact q.elim
     ·rename_i hid
      rw[if_neg hid]
      exact q
    |_=>exact q
  ·intro h;cases h
theorem adj:∃n,∀(pr qm:Nat) (f:Lit->Option Value) (qb:ByteArray->Nat) (p:ByteArray->Prop) (wn:ByteArray->Nat) (hv:ByteArray->Bool) (tv:ByteArray->ByteArray) (ts:ByteArray->Value) (fm:ByteArray->ByteArray->Bool) (key:ByteArray) (O:au) (w:World),
 M8 L w pr qm f qb p wn hv tv ts fm->(∀(u:World) (n:Nat) (D:DataW Value),u.ownsMap prog 9 aL qm n D->Says D f->Maps.size D<=8)->(∀x,p x->(f (.string x.data.toList)).isSome=true)->key.size<=1000->f (.string key.data.toList)=some (.pointer (some ⟨qb key,0,none⟩))->p key->L.N<=w.heap.size->
 bu prog main J (RX L) (DX L) 77 #[.pointer (some ⟨pr,0,none⟩),.string key] n O w fun O' v w'=>∃b:Bool,v=.bool b/\(b=true↔ym p wn hv fm key)/\bA L O w O' w':=by
 obtain⟨n1,h1⟩:=ac1 (main:=main) (J:=J) (L:=L);obtain⟨n2,h2⟩:=ac2 (main:=main) (J:=J) (L:=L);obtain⟨n4,h4⟩:=ac3 (main:=main) (J:=J) (L:=L);obtain⟨nr,hr⟩:=NP (main:=main) (J:=J) (L:=L);co_apply Exists.intro;intro pr qm f qb p wn hv tv ts fm key O w xF h8 hsome hz hf hp hN;have hF:bA L O w O w:=bA.refl hN;co_apply bz func77 (by rfl) rfl;walk_nrmf ntmps77;obtain⟨W,hW⟩:∃W,W=w:=⟨_,rfl⟩
 obtain⟨O1,hO⟩:∃O1,O1=O:=⟨_,rfl⟩
 rw[<-hW,<-hO]at hF⊢;rw[<-hW]at xF;clear hW hO;obtain⟨nn,D,hown,hs⟩:=xF.map;have fin:∀(b:Bool),(b=true↔ym p wn hv fm key)->∀(O':au) (a':Act) (w':World),a'.defers= []->a'.tmps[4]?=some (.bool b)->bA L O1 W O' w'->oF prog main J (RX L) (DX L) 0 77 Tryz.f77 (fun O' v w'=>∃b:Bool,v=.bool b/\(b=true↔ym p wn hv fm key)/\bA L O1 W O' w') O' .ret a' w':=by intro b hb O' a' w' hd h4 Vk;refine .inl ⟨hd,.bool b,bP (ah L) ?_,b,rfl,hb,Vk⟩;have:=resultsC_tmp (P:=prog) (fn:=Tryz.f77) (by rfl) a'.tmps;simpa[Array.getD_eq_getD_getElem?,h4]using this
 change cO prog main J (RX L) (DX L) 77 dW _ _ _ _ _;co_apply ay (ah L) (x:=cA dW) (y:=cB dW) (fun O' a' w'=>Ed a' pr key/\bA L O1 W O' w')
 ·dsimp only[dW,cA,cB,cI,cT,cE,Tryz.f77,Option.getD_some];(repeat(first|co_apply aQ|((first|co_apply bh|co_apply ju|co_apply cZ|co_apply aO);try co_then)));(co_apply (aP);intro _ hR;replace hF:=hF.rely hR;clear hR;refine⟨by simp[go_sem],fun K z=>?_⟩;go_simp;refine z _ ?_;clear z K;try walk_nrm);(repeat(first|co_apply aQ|((first|co_apply bh|co_apply ju|co_apply cZ|co_apply aO);try co_then)));exact⟨⟨rfl,rfl,rfl,rfl⟩,hF⟩
 rintro O a w ⟨hl,hF⟩;co_apply ay (ah L) (x:=cA (cB dW)) (y:=cB (cB dW)) _;focus exact h1 pr qm f qb p wn hv tv ts fm key O1 W _ _ _ _ xF hz hf hp hl hF
 rintro O a w ⟨hl,r,hrW,g5,hF,hB⟩;co_apply ay (ah L) (x:=cA (cB (cB dW))) (y:=cB (cB (cB dW))) _;focus exact h2 pr r (wn key) (hv key) (tv key) (ts key) key O1 W _ _ _ _ hl g5 hF hB (fun q1 q2 O' a' w' q3 q4 q5=>fin false ⟨(fun h=>by cases h),fun h=>absurd ⟨q1,q2⟩ h.1⟩ O' a' w' q3 q4 q5)
 rintro O a w ⟨hhas,hl,g5,hF,hB⟩;co_apply ay (ah L) (x:=cA (cB (cB (cB dW)))) (y:=cB (cB (cB (cB dW)))) (fun O' a' w'=>(∀x,p x->¬(wn key<wn x/\fm x key=true))/\Ed a' pr key/\bA L O1 W O' w')
 ·co_apply ay (ah L) (x:=cA (cA (cB (cB (cB dW))))) (y:=cB (cA (cB (cB (cB dW))))) _;focus exact h4 pr qm f qb p wn hv tv ts fm nn D r _ key O1 W _ _ _ _ xF hown hl g5 hF hB
  rintro O a w ⟨hl,g5,it,hit,hne,hoi,GV,hF,hB,lm⟩;co_apply fJ (ah L) (c:=cI (cB (cA (cB (cB (cB dW))))));co_apply mL (ah L) (c:=Hs) (N:=8) (fun j O' a' w'=>∃(left:Lit->Bool) (cnt:Nat),cnt<=j/\Ed a' pr key/\a'.tmps[5]?=some (.pointer (some ⟨r,0,none⟩))/\a'.tmps[29]?=some (.pointer (some ⟨it,0,none⟩))/\O'.own it/\bA L O1 W O' w'/\OB r (.cells #[.int .i64 (wn key),.bool (hv key),.string (tv key),ts key] 144) O' w'/\w'.ranges prog 9 aL qm it nn D left cnt/\∀x,p x->left (.string x.data.toList)=false->¬(wn key<wn x/\fm x key=true)) nr
  ·refine⟨_,_,h8 _ _ D hown hs,hl,g5,GV,hoi,hF,hB,lm,fun x hx EG=>?_⟩;have:=hsome x hx;rw[<-hs.2,EG]at this;cases this
  ·intro j O a w hI;exact hr pr qm f qb p wn hv tv ts fm nn D r it key O1 W _ xF hs hz hrW hit hne (fun⟨x,q1,q2,q3⟩ O' a' w' q4 q5 q6=>fin false ⟨(fun h=>by cases h),fun h=>absurd ⟨q2,q3⟩ (h.2 x q1)⟩ O' a' w' q4 q5 q6) (fun q O' a' w' q1 q2=>⟨q,q1,q2⟩) j O a w hI
 rintro O a w ⟨hall,hl,hF⟩;obtain⟨tms,EF⟩:=a;obtain⟨hd,hsz,g0,g1⟩:=hl;simp only at hd hsz g0 g1;subst hd;dsimp only[dW,cA,cB,cI,cT,cE,Tryz.f77,Option.getD_some];(repeat(first|co_apply aQ|((first|co_apply bh|co_apply ju|co_apply cZ|co_apply aO);try co_then)));(co_apply (aP);intro _ hR;replace hF:=hF.rely hR;clear hR;refine⟨by simp[go_sem],fun K z=>?_⟩;go_simp;refine z _ ?_;clear z K;try walk_nrm);(repeat(first|co_apply aQ|((first|co_apply bh|co_apply ju|co_apply cZ|co_apply aO);try co_then)));exact fin true ⟨fun _=>⟨hhas,hall⟩,fun _=>rfl⟩ _ _ _ rfl (by simp[hsz]) hF
end
section
open Go Go.Conc Go.RowKit Go.MuLone Go.Maps
variable {main:Bool}{J:Jm}{L:eg}
theorem s7(hd:a.defers=ds)(h:a.tmps.size=61):∃f:Nat->Value,a=⟨#[f 0,f 1,f 2,f 3,f 4,f 5,f 6,f 7,f 8,f 9,f 10,f 11,f 12,f 13,f 14,f 15,f 16,f 17,f 18,f 19,f 20,f 21,f 22,f 23,f 24,f 25,f 26,f 27,f 28,f 29,f 30,f 31,f 32,f 33,f 34,f 35,f 36,f 37,f 38,f 39,f 40,f 41,f 42,f 43,f 44,f 45,f 46,f 47,f 48,f 49,f 50,f 51,f 52,f 53,f 54,f 55,f 56,f 57,f 58,f 59,f 60],ds⟩/\∀i v,a.tmps[i]?=some v->f i=v:=uM hd (oV a.tmps 61 h)
noncomputable def mC:Code:=Tryz.f44.body.getD .skip
noncomputable def yp:Code:=cB (cB (cB (cB (cB mC))))
noncomputable def BC:Code:=cI (cI (cB (cA yp)))
structure Ap(a:Act)(pr ba bc wg:Nat)(asked:Nat):Prop where
 d:a.defers= []
 size:a.tmps.size=61
 g0:a.tmps[0]?=some (.pointer (some ⟨pr,0,none⟩))
 g4:a.tmps[4]?=some (.pointer (some ⟨ba,0,none⟩))
 g5:a.tmps[5]?=some (.pointer (some ⟨bc,0,none⟩))
 g6:a.tmps[6]?=some (.int .i64 asked)
 g7:a.tmps[7]?=some (.pointer (some ⟨wg,0,none⟩))
structure EI(a:Act)(kb N bC i:Nat):Prop where
 Ax:a.tmps[22]?=some (.slice (some ⟨kb,0,none⟩) N bC)
 uO:a.tmps[23]?=some (.int .i64 N)
 xD:a.tmps[24]?=some (.int .i64 i)
theorem adk:∃n,∀(pr ba bc wg asked kb N bC:Nat) (O1:au) (W:World) (O:au) (a:Act) (w:World) (Q:ew),
 L.Fx pr->W.cell? ⟨pr,3,none⟩=some (.slice (some ⟨kb,0,none⟩) N bC)->N<=8->Ap a pr ba bc wg asked->bA L O1 W O w->
 cO prog main J (RX L) (DX L) 44 (cA (cA yp)) n (aX (fun O' a' w'=>Ap a' pr ba bc wg asked/\EI a' kb N bC 0/\bA L O1 W O' w') Q) O a w:=by co_apply Exists.intro;intro pr ba bc wg asked kb N bC O1 W O a w Q Na hk UY hl hF;dsimp only[yp,mC,cA,cB,cI,cT,cE,Tryz.f44,Option.getD_some];obtain⟨hd,hsz,g0,g4,g5,g6,g7⟩:=hl;obtain⟨fv,hT,aj⟩:=s7 hd hsz;subst hT;simp only[aj 0 _ g0,aj 4 _ g4,aj 5 _ g5,aj 6 _ g6,aj 7 _ g7];clear hd hsz aj g0 g4 g5 g6 g7;(repeat(first|co_apply aQ|(co_apply aO;try co_then)));(co_apply (aP);intro _ hR;replace hF:=hF.rely hR;clear hR;refine⟨by simp[go_sem],fun K z=>?_⟩;go_simp;refine z _ ?_;clear z K;try walk_nrm);(co_apply (aP);intro _ hR;replace hF:=hF.rely hR;clear hR;refine⟨by simp[go_sem],fun K z=>?_⟩;go_simp;refine z _ ?_;clear z K;try walk_nrm);(co_apply (aP);intro _ hR;replace hF:=hF.rely hR;clear hR;refine⟨by simp[go_sem],fun K z=>?_⟩;go_simp;refine z _ ?_;clear z K;try walk_nrm);(co_apply aC rfl (by rfl);intro _ hR K hK;replace hF:=bA.rely hF hR;clear hR;(have hc:=hF.aV hk Na);go_simp;refine hK _ ⟨?_,?_⟩;(focus(refine DX.still _ _ (cr (a:=⟨pr,3,none⟩) (.inl Na) fun e he=>?_);have hm:=mem_listed he;simp[go_sem,hc]at hm;exact hm));clear hK K;try walk_nrm);clear hc;(co_apply (aP);intro _ hR;replace hF:=hF.rely hR;clear hR;refine⟨by simp[go_sem],fun K z=>?_⟩;go_simp;refine z _ ?_;clear z K;try walk_nrm);(co_apply (aP);intro _ hR;replace hF:=hF.rely hR;clear hR;refine⟨by simp[go_sem],fun K z=>?_⟩;go_simp;refine z _ ?_;clear z K;try walk_nrm);(repeat(first|co_apply aQ|(co_apply aO;try co_then)));exact⟨⟨rfl,rfl,rfl,rfl,rfl,rfl,rfl⟩,⟨rfl,rfl,rfl⟩,hF⟩
theorem adl:∃n,∀(pr ba bc wg asked kb N bC i:Nat) (key:ByteArray) (O1:au) (W:World) (O:au) (a:Act) (w:World) (Q:ew),
 L.Fx kb->i<N->N<=8->W.cell? ⟨kb,i,none⟩=some (.string key)->Ap a pr ba bc wg asked->EI a kb N bC i->bA L O1 W O w->
 cO prog main J (RX L) (DX L) 44 (cA (cI (cA (cB (cB BC))))) n (aX (fun O' a' w'=>Ap a' pr ba bc wg asked/\EI a' kb N bC i/\∃b1 b4,W.heap.size<=b1/\W.heap.size<=b4/\a'.tmps[8]?=some (.pointer (some ⟨b4,0,none⟩))/\a'.tmps[9]?=some (.pointer (some ⟨b1,0,none⟩))/\bA L O1 W O' w'/\OB b1 (.cells #[.string key] 9) O' w'/\OB b4 (.cells #[.int .i64 i] 3) O' w') Q) O a w:=by
 co_apply Exists.intro;intro pr ba bc wg asked kb N bC i key O1 W O a w Q hfk hi UY hk hl oG hF;dsimp only[BC,yp,mC,cA,cB,cI,cT,cE,Tryz.f44,Option.getD_some];obtain⟨hd,hsz,g0,g4,g5,g6,g7⟩:=hl;obtain⟨Ax,uO,xD⟩:=oG;obtain⟨fv,hT,aj⟩:=s7 hd hsz;subst hT;simp only[aj 0 _ g0,aj 4 _ g4,aj 5 _ g5,aj 6 _ g6,aj 7 _ g7,aj 22 _ Ax,aj 23 _ uO,aj 24 _ xD];clear hd hsz aj g0 g4 g5 g6 g7 Ax uO xD;(repeat(first|co_apply aQ|(co_apply aO;try co_then)));(co_apply (aP);intro _ hR;replace hF:=hF.rely hR;clear hR;refine⟨by simp[go_sem],fun K z=>?_⟩;go_simp;refine z _ ?_;clear z K;try walk_nrm);(co_apply (aP);intro _ hR;replace hF:=hF.rely hR;clear hR;refine⟨by simp[*,go_sem],fun K z=>?_⟩;go_simp;refine z _ ?_;clear z K;try walk_nrm);(co_apply aC rfl (by rfl);intro _ hR K hK;replace hF:=bA.rely hF hR;clear hR;(have hc:=hF.aV hk hfk);go_simp;refine hK _ ⟨?_,?_⟩;(focus(refine DX.still _ _ (cr (a:=⟨kb,i,none⟩) (.inl hfk) fun e he=>?_);have hm:=mem_listed he;simp[go_sem,hc]at hm;exact hm));clear hK K;try walk_nrm);clear hc;co_apply bB rfl (by rfl);intro W1 hR K hK;replace hF:=hF.rely hR;clear hR;go_simp;refine hK _ _ ⟨?_,?_⟩
 ·rw[listed_nil (by simp[go_sem])];exact DX.alloc _ _ _
 clear hK K;try walk_nrm
 have hr4:W.heap.size<=W1.heap.size:=hF.rel.le;have hH:=And.intro (hF.alloc (.cells #[.int .i64 0] 3)) (OB.new O W1 (.cells #[.int .i64 0] 3));clear hF;generalize (O.grow W1 (W1.alloc (.cells #[.int .i64 0] 3)))=O2 at hH⊢;generalize (W1.alloc (.cells #[.int .i64 0] 3))=W2 at hH⊢;generalize W1.heap.size=b4 at hH hr4⊢;co_apply bB rfl (by rfl);intro W3 hR K hK;replace hH:=And.intro (hH.1.rely hR) (hH.2.rely hR);clear hR;go_simp;refine hK _ _ ⟨?_,?_⟩
 ·rw[listed_nil (by simp[go_sem])];exact DX.alloc _ _ _
 clear hK K;try walk_nrm
 have GR:W.heap.size<=W3.heap.size:=hH.1.rel.le;have hne:b4≠W3.heap.size:=Nat.ne_of_lt hH.2.lt;have hG:=And.intro (hH.1.alloc (.cells #[.string ⟨#[]⟩] 9)) (And.intro (OB.new O2 W3 (.cells #[.string ⟨#[]⟩] 9)) (hH.2.alloc (.cells #[.string ⟨#[]⟩] 9)));clear hH;generalize (O2.grow W3 (W3.alloc (.cells #[.string ⟨#[]⟩] 9)))=O3 at hG⊢;generalize (W3.alloc (.cells #[.string ⟨#[]⟩] 9))=W4 at hG⊢;generalize W3.heap.size=b1 at hG GR hne⊢;co_apply bB rfl (by rfl);intro W5 hR K hK;replace hG:=And.intro (hG.1.rely hR) (And.intro (hG.2.1.rely hR) (hG.2.2.rely hR));clear hR;have hA:aT W5 b4 #[.int .i64 0] 3:=hG.2.2.heap;have t0:=hA.cell (o:=0) (v:=.int .i64 0) rfl;have z0:=hA.frozen 0;go_simp;try(unfold stored;go_simp)
 refine hK _ _ ⟨?_,?_⟩
 ·refine DX.own hG.2.2.own (dO.cell b4 0 W5 _) (cK (b:=true) hG.2.2.own fun e he=>?_);have hm:=mem_listed he;have E0:=fun es=>lp (P:=prog) (v:=.int .i64 (i:Int)) t0 z0 rfl es;simp[go_sem, *]at hm;exact⟨_,hm,rfl⟩
 clear hK K;have Lb:=dO.cell b4 0 W5 (.int .i64 (i:Int));have hE:=And.intro (Lb.xC hG.1 hr4) (And.intro (Lb.ob hG.2.1 (Ne.symm hne)) (show OB b4 (.cells #[.int .i64 (i:Int)] 3) O3 (W5.setCell ⟨b4,0,none⟩ (.int .i64 (i:Int)))from⟨hG.2.2.own,by simpa[aT]using hA.set 0 (.int .i64 (i:Int))⟩));rw[O3.dh Lb.size];clear hG hA t0 z0 Lb;generalize (W5.setCell ⟨b4,0,none⟩ (.int .i64 (i:Int)))=W6 at hE⊢;try walk_nrm
 co_apply bB rfl (by rfl);intro W7 hR K hK;replace hE:=And.intro (hE.1.rely hR) (And.intro (hE.2.1.rely hR) (hE.2.2.rely hR));clear hR;have hA:aT W7 b1 #[.string ⟨#[]⟩] 9:=hE.2.1.heap;have t0:=hA.cell (o:=0) (v:=.string ⟨#[]⟩) rfl;have z0:=hA.frozen 0;go_simp;try(unfold stored;go_simp)
 refine hK _ _ ⟨?_,?_⟩
 ·refine DX.own hE.2.1.own (dO.cell b1 0 W7 _) (cK (b:=true) hE.2.1.own fun e he=>?_);have hm:=mem_listed he;have E0:=fun es=>lp (P:=prog) (v:=.string key) t0 z0 rfl es;simp[go_sem, *]at hm;exact⟨_,hm,rfl⟩
 clear hK K;have hT1:=dO.cell b1 0 W7 (.string key);have hG:=And.intro (hT1.xC hE.1 GR) (And.intro (show OB b1 (.cells #[.string key] 9) O3 (W7.setCell ⟨b1,0,none⟩ (.string key))from⟨hE.2.1.own,by simpa[aT]using hA.set 0 (.string key)⟩) (hT1.ob hE.2.2 hne));rw[O3.dh hT1.size];clear hE hA t0 z0 hT1;generalize (W7.setCell ⟨b1,0,none⟩ (.string key))=W8 at hG⊢;try walk_nrm
 (repeat(first|co_apply aQ|(co_apply aO;try co_then)));exact⟨⟨rfl,rfl,rfl,rfl,rfl,rfl,rfl⟩,⟨rfl,rfl,rfl⟩,b1,b4,GR,hr4,rfl,rfl,hG.1,hG.2.1,hG.2.2⟩
end
section
open Go Go.Conc Go.RowKit Go.MuLone Go.Maps
section
variable {P:Program}{fn:FuncId}{a:Act}{w:World}{o:Oper}
theorem NQ(m x:Operand)(t:TypeId)(hop:o.op=Op.lookup t m x false)
 (k e:TypeId) (K:Keyed P k) (hk:P.underlying k=some .string) (ht:P.underlying t=some (.map k e)) {z:Value} (hz:∀w,(zeroValue e).run P w=.ok z w) (b:Nat) (f:Lit->Option Value) {L:eg} {O:au} (hb:L.Fx b)
 (hm:a.eval m=.map (some b)) (h':aK w P k b f) (s:ByteArray) (kl:Lit) (hx:a.eval x=.string s) (hkey:keyOf P k (.string s)=some kl) (v:Value) (hf:f kl=some v):
 (execOp a.eval o).run P w=.ok (.value v) w/\DX L O w w (listed P fn a o w):=by have hrun:=h'.look K ht (hz w) hkey;rw[hf]at hrun;refine⟨by simp[execOp,hop,hm,hx,hrun,Result.andThen],DX.still _ _ fun ev he=>?_⟩;obtain⟨_,_,⟨es,clock,K9,_⟩,_⟩:=h';have GU:=mem_listed he;simp[execOp,hop,hm,hx]at GU;rw[yh hk s ht b w K9 ev GU];exact⟨rfl,.inr ⟨b,rfl,.inr ⟨hb,rfl⟩⟩⟩
end
variable {main:Bool}{J:Jm}{L:eg}
theorem yq{k:TypeId}(h:aK W P k b f)(hb:L.Fx b)(x:iY L W w):aK w P k b f:=h.of_eq (x.blk b h.lt hb)
def Vl(L:eg)(O1:au)(W:World)(pr ba bc wg asked kb N bC i qx b1 b4:Nat)(key:ByteArray)(O':au)(a':Act)(w':World):Prop:=
 Ap a' pr ba bc wg asked/\EI a' kb N bC i/\a'.tmps[8]?=some (.pointer (some ⟨b4,0,none⟩))/\a'.tmps[9]?=some (.pointer (some ⟨b1,0,none⟩))/\∃b0,W.heap.size<=b0/\a'.tmps[10]?=some (.pointer (some ⟨b0,0,none⟩))/\bA L O1 W O' w'/\OB b0 (.cells #[.pointer (some ⟨qx,0,none⟩)] 139) O' w'/\OB b1 (.cells #[.string key] 9) O' w'/\OB b4 (.cells #[.int .i64 i] 3) O' w'
theorem Vl.rely{O1:au}{W:World}{pr ba bc wg asked kb N bC i qx b1 b4:Nat}{key:ByteArray}{O':au}{a':Act}{w' w₁:World}(h:Vl L O1 W pr ba bc wg asked kb N bC i qx b1 b4 key O' a' w')(r:RX L O' w' w₁):Vl L O1 W pr ba bc wg asked kb N bC i qx b1 b4 key O' a' w₁:=by obtain⟨h1,h2,h3,h4,b0,h5,h6,h7,h8,h9,JQ⟩:=h;exact⟨h1,h2,h3,h4,b0,h5,h6,h7.rely r,h8.rely r,h9.rely r,JQ.rely r⟩
theorem ado:∃n,∀(pr ba bc wg asked kb N bC i qm qx b1 b4:Nat) (f:Lit->Option Value) (key:ByteArray) (O1:au) (W:World) (O:au) (a:Act) (w:World) (Q:ew),
 L.Fx pr->W.cell? ⟨pr,4,none⟩=some (.map (some qm))->L.Fx qm->aK W prog 9 qm f->f (.string key.data.toList)=some (.pointer (some ⟨qx,0,none⟩))->key.size<=1000->
 Ap a pr ba bc wg asked->EI a kb N bC i->a.tmps[8]?=some (.pointer (some ⟨b4,0,none⟩))->a.tmps[9]?=some (.pointer (some ⟨b1,0,none⟩))->bA L O1 W O w->OB b1 (.cells #[.string key] 9) O w->OB b4 (.cells #[.int .i64 i] 3) O w->
 cO prog main J (RX L) (DX L) 44 (cA (cB (cI (cA (cB (cB BC)))))) n (aX (Vl L O1 W pr ba bc wg asked kb N bC i qx b1 b4 key) Q) O a w:=by
 co_apply Exists.intro;intro pr ba bc wg asked kb N bC i qm qx b1 b4 f key O1 W O a w Q Na Ee M9 hmp hf hz hl oG g8 g9 hF iM rj;dsimp only[BC,yp,mC,cA,cB,cI,cT,cE,Tryz.f44,Option.getD_some];obtain⟨hd,hsz,g0,g4,g5,g6,g7⟩:=hl;obtain⟨Ax,uO,xD⟩:=oG;obtain⟨fv,hT,aj⟩:=s7 hd hsz;subst hT;simp only[aj 0 _ g0,aj 4 _ g4,aj 5 _ g5,aj 6 _ g6,aj 7 _ g7,aj 8 _ g8,aj 9 _ g9,aj 22 _ Ax,aj 23 _ uO,aj 24 _ xD];clear hd hsz aj g0 g4 g5 g6 g7 g8 g9 Ax uO xD;have hG:=And.intro hF (And.intro iM rj);clear hF iM rj;have hSR:∀(O':au) (x y:World),(∀i,O.own i->O'.own i)->TW L W b1 (.cells #[.string key] 9) x->RX L O' x y->TW L W b1 (.cells #[.string key] 9) y:=
  fun O' x y hO hx hr=>⟨hx.1.rely hr,(hr.blk b1 (zbl.1 hx.2).1 (.inl (hO b1 hG.2.1.own))).trans hx.2⟩
 have Ve:∀{x:World},TW L W b1 (.cells #[.string key] 9) x->x.cell? ⟨b1,0,none⟩=some (.string key):=fun h=>by simp[World.cell?,h.2]
 have hQR:∀(O:au) (a:Act) (x y:World),aX (Vl L O1 W pr ba bc wg asked kb N bC i qx b1 b4 key) Q O .normal a x->RX L O x y->aX (Vl L O1 W pr ba bc wg asked kb N bC i qx b1 b4 key) Q O .normal a y:=fun O a x y hx hr=>Vl.rely hx hr;co_apply gp (ah L) DX.draw (c:=1) (O0:=O) (S:=TW L W b1 (.cells #[.string key] 9)) (by omega) (by first|kernel_rfl|rfl);intro W1 hR;replace hG:=And.intro ((hG.1.rely hR).rely (RX.draw _ _)) (And.intro ((hG.2.1.rely hR).rely (RX.draw (L:=L) _ _)) ((hG.2.2.rely hR).rely (RX.draw (L:=L) _ _)));clear hR;simp only[List.size_toArray,List.length_cons,List.length_nil,Nat.reduceAdd,Nat.zero_add];co_applyP Q6 hSR hQR (fun _ h=>h) ⟨iY.of hG.1.rel,hG.2.1.heap⟩;intro hb;(co_applyP qu hb (i:=0) rfl (by kernel_rfl) (by rfl) (fun _ hw=>?b1);(case b1=>(refine⟨by simp[go_sem],fun K hK=>?_⟩;go_simp;exact hK));try walk_nrm);(co_applyP qu hb (i:=1) rfl (by kernel_rfl) (by rfl) (fun _ hw=>?b2);(case b2=>(refine⟨by simp[go_sem],fun K hK=>?_⟩;go_simp;exact hK));try walk_nrm);(co_applyP qu hb (i:=2) rfl (by kernel_rfl) (by rfl) (fun _ hw=>?b3);(case b3=>(refine⟨by simp[go_sem],fun K hK=>?_⟩;go_simp;exact hK));try walk_nrm);(co_applyP BB hb (i:=3) rfl (by kernel_rfl) (by rfl) (fun _ _ hO hw=>?b4);(case b4=>((have hc:=iY.aV hw.1 Ee Na);refine⟨fun K hK=>?_,?_⟩;(focus(go_simp;exact hK));(refine DX.still _ _ (cr (a:=⟨pr,4,none⟩) (.inl Na) fun e he=>?_);have hm:=mem_listed he;simp[go_sem,hc]at hm;exact hm)));try walk_nrm);(co_applyP BB hb (i:=4) rfl (by kernel_rfl) (by rfl) (fun _ _ hO hw=>?b5);(case b5=>((have hc:=Ve hw);refine⟨fun K hK=>?_,?_⟩;(focus(go_simp;exact hK));(refine DX.still _ _ (cK (b:=false) (hO _ hG.2.1.own) fun e he=>?_);have hm:=mem_listed he;simp[go_sem,hc]at hm;exact⟨_,hm,rfl⟩)));try walk_nrm);co_applyP uP (ah L) hSR hQR (i:=5) (v:=.pointer (some ⟨qx,0,none⟩)) rfl (by kernel_rfl) (by kernel_rfl) (by kernel_rfl) (.inl ⟨by rfl,fun O' w' hO hw=>?Vm⟩) (fun _ h=>h) ⟨iY.of hG.1.rel,hG.2.1.heap⟩ ?adp;case Vm=>
  exact NQ (.tmp 32) (.tmp 33) 135 rfl 9 139 dI underlying9 underlying135 jQ qm f M9 (by rfl) (yq hmp M9 hw.1) key (.string key.data.toList) (by rfl) (dZ (by unfold maxLen;omega)) _ hf
 try walk_nrm
 refine jR (rs:= [6]) (by kernel_rfl) (by simp) fun i' hi'=>?_;obtain rfl:i'=6:=by simpa using hi'
 refine .inl fun W2 h2=>?_;replace hG:=And.intro (hG.1.rely h2) (And.intro (hG.2.1.rely h2) (hG.2.2.rely h2));clear h2;go_simp;have EJ:W.heap.size<=W2.heap.size:=hG.1.rel.le;have hn1:W2.heap.size≠b1:=Nat.ne_of_gt hG.2.1.lt;have hn4:W2.heap.size≠b4:=Nat.ne_of_gt hG.2.2.lt;have hH:=And.intro (hG.1.alloc (.cells #[.pointer none] 139)) (And.intro (OB.new O W2 (.cells #[.pointer none] 139)) (And.intro (hG.2.1.alloc (.cells #[.pointer none] 139)) (hG.2.2.alloc (.cells #[.pointer none] 139))));have Vn:∀i,O.own i->(O.grow W2 (W2.alloc (.cells #[.pointer none] 139))).own i:=fun i h=>.inl h;refine⟨?_,⟨Vn,iY.of hH.1.rel,hH.2.2.1.heap⟩,?_⟩
 ·rw[listed_nil (by simp[go_sem])];exact DX.alloc _ _ _
 clear hG;generalize (O.grow W2 (W2.alloc (.cells #[.pointer none] 139)))=O2 at hH Vn⊢;generalize (W2.alloc (.cells #[.pointer none] 139))=W3 at hH⊢;generalize W2.heap.size=b0 at hH EJ hn1 hn4⊢;refine jR (rs:= [7]) (by kernel_rfl) (by simp) fun i' hi'=>?_;obtain rfl:i'=7:=by simpa using hi'
 refine .inl fun W4 h4=>?_;replace hH:=And.intro (hH.1.rely h4) (And.intro (hH.2.1.rely h4) (And.intro (hH.2.2.1.rely h4) (hH.2.2.2.rely h4)));clear h4;have hA:aT W4 b0 #[.pointer none] 139:=hH.2.1.heap;have t0:=hA.cell (o:=0) (v:=.pointer none) rfl;have z0:=hA.frozen 0;go_simp;try(unfold stored;go_simp)
 have YL:=dO.cell b0 0 W4 (.pointer (some ⟨qx,0,none⟩));have hE:=And.intro (YL.xC hH.1 EJ) (And.intro (show OB b0 (.cells #[.pointer (some ⟨qx,0,none⟩)] 139) O2 (W4.setCell ⟨b0,0,none⟩ (.pointer (some ⟨qx,0,none⟩)))from⟨hH.2.1.own,by simpa[aT]using hA.set 0 (.pointer (some ⟨qx,0,none⟩))⟩) (And.intro (YL.ob hH.2.2.1 (Ne.symm hn1)) (YL.ob hH.2.2.2 (Ne.symm hn4))));rw[O2.dh YL.size];refine⟨?_,⟨Vn,iY.of hE.1.rel,hE.2.2.1.heap⟩,?_⟩
 ·refine DX.own hH.2.1.own YL (cK (b:=true) hH.2.1.own fun e he=>?_);have hm:=mem_listed he;have E0:=fun es=>lp (P:=prog) (v:=.pointer (some ⟨qx,0,none⟩)) t0 z0 rfl es;simp[go_sem, *]at hm;exact⟨_,hm,rfl⟩
 refine kR (by kernel_rfl) ?_ _;exact⟨⟨rfl,rfl,rfl,rfl,rfl,rfl,rfl⟩,⟨rfl,rfl,rfl⟩,rfl,rfl,b0,EJ,rfl,hE.1,hE.2.1,hE.2.2.1,hE.2.2.2⟩
end
section
open Go Go.Conc Go.RowKit Go.MuLone Go.Maps
variable {main:Bool}{J:Jm}{L:eg}
noncomputable def EK:Code:=cI (cA (cB (cB BC)))
theorem adr:∃n,∀(pr ba bc wg asked kb N bC i qm b1 b4 b0 qx:Nat) (f:Lit->Option Value) (qb:ByteArray->Nat) (p:ByteArray->Prop) (wn:ByteArray->Nat) (hv:ByteArray->Bool) (tv:ByteArray->ByteArray) (ts:ByteArray->Value) (fm:ByteArray->ByteArray->Bool) (key:ByteArray) (O1:au) (W:World) (O:au) (a:Act) (w:World) (Q:ew),
 M8 L W pr qm f qb p wn hv tv ts fm->(∀(u:World) (n:Nat) (D:DataW Value),u.ownsMap prog 9 aL qm n D->Says D f->Maps.size D<=8)->(∀x,p x->(f (.string x.data.toList)).isSome=true)->key.size<=1000->f (.string key.data.toList)=some (.pointer (some ⟨qb key,0,none⟩))->p key->
 Ap a pr ba bc wg asked->EI a kb N bC i->a.tmps[8]?=some (.pointer (some ⟨b4,0,none⟩))->a.tmps[9]?=some (.pointer (some ⟨b1,0,none⟩))->a.tmps[10]?=some (.pointer (some ⟨b0,0,none⟩))->bA L O1 W O w->OB b0 (.cells #[.pointer (some ⟨qx,0,none⟩)] 139) O w->OB b1 (.cells #[.string key] 9) O w->OB b4 (.cells #[.int .i64 i] 3) O w->
 cO prog main J (RX L) (DX L) 44 (cA (cA (cB (cB EK)))) n (aX (fun O' a' w'=>Ap a' pr ba bc wg asked/\EI a' kb N bC i/\a'.tmps[8]?=some (.pointer (some ⟨b4,0,none⟩))/\a'.tmps[9]?=some (.pointer (some ⟨b1,0,none⟩))/\a'.tmps[10]?=some (.pointer (some ⟨b0,0,none⟩))/\(∃b:Bool,a'.tmps[37]?=some (.bool b)/\(b=true↔ym p wn hv fm key))/\bA L O1 W O' w'/\OB b0 (.cells #[.pointer (some ⟨qx,0,none⟩)] 139) O' w'/\OB b1 (.cells #[.string key] 9) O' w'/\OB b4 (.cells #[.int .i64 i] 3) O' w') Q) O a w:=by
 obtain⟨nt,hte⟩:=adj (main:=main) (J:=J) (L:=L);co_apply Exists.intro;intro pr ba bc wg asked kb N bC i qm b1 b4 b0 qx f qb p wn hv tv ts fm key O1 W O a w Q xF h8 hsome hz hf hp hl oG g8 g9 Lc hF uQ iM rj;dsimp only[EK,BC,yp,mC,cA,cB,cI,cT,cE,Tryz.f44,Option.getD_some];obtain⟨hd,hsz,g0,g4,g5,g6,g7⟩:=hl;obtain⟨Ax,uO,xD⟩:=oG;obtain⟨fv,hT,aj⟩:=s7 hd hsz;subst hT;simp only[aj 0 _ g0,aj 4 _ g4,aj 5 _ g5,aj 6 _ g6,aj 7 _ g7,aj 8 _ g8,aj 9 _ g9,aj 10 _ Lc,aj 22 _ Ax,aj 23 _ uO,aj 24 _ xD];clear hd hsz aj g0 g4 g5 g6 g7 g8 g9 Lc Ax uO xD;have hG:=And.intro hF (And.intro uQ (And.intro iM rj));clear hF uQ iM rj;have rl:∀{o0 o1 o4:Obj} {O2:au} {Wa Wb:World},(bA L O1 W O2 Wa/\OB b0 o0 O2 Wa/\OB b1 o1 O2 Wa/\OB b4 o4 O2 Wa)->RX L O2 Wa Wb->(bA L O1 W O2 Wb/\OB b0 o0 O2 Wb/\OB b1 o1 O2 Wb/\OB b4 o4 O2 Wb):=fun h x=>⟨h.1.rely x,h.2.1.rely x,h.2.2.1.rely x,h.2.2.2.rely x⟩
 have NK:∀{Wa:World} {O2:au},OB b1 (.cells #[.string key] 9) O2 Wa->Wa.cell? ⟨b1,0,none⟩=some (.string key):=fun x=>by simp[World.cell?,x.heap]
 (repeat(first|co_apply aQ|(co_apply aO;try co_then)));(co_apply (aP);intro _ hR;replace hG:=rl hG hR;clear hR;refine⟨by simp[go_sem],fun K z=>?_⟩;go_simp;refine z _ ?_;clear z K;try walk_nrm);(co_apply aC rfl (by rfl);intro _ hR K hK;replace hG:=rl hG hR;clear hR;(have hc:=NK hG.2.2.1);go_simp;refine hK _ ⟨?_,?_⟩;(focus(refine DX.still _ _ (cK (b:=false) hG.2.2.1.own fun e he=>?_);have hm:=mem_listed he;simp[go_sem,hc]at hm;subst hm;exact⟨_,rfl,rfl⟩));clear hK K;try walk_nrm);clear hc;co_apply bQ (ah L) rfl (by rfl) rfl (by walk_nrm;exact hte pr qm f qb p wn hv tv ts fm key _ _ (xF.rx hG.1.rel) h8 hsome hz hf hp hG.1.top);rintro O2 v W2 ⟨b,rfl,hb,hF2⟩;have hE:=And.intro (hG.1.trans hF2) (And.intro (hG.2.1.xC hF2) (And.intro (hG.2.2.1.xC hF2) (hG.2.2.2.xC hF2)));clear hG hF2;walk_nrm;(repeat(first|co_apply aQ|(co_apply aO;try co_then)));exact⟨⟨rfl,rfl,rfl,rfl,rfl,rfl,rfl⟩,⟨rfl,rfl,rfl⟩,rfl,rfl,rfl,⟨b,rfl,hb⟩,hE.1,hE.2.1,hE.2.2.1,hE.2.2.2⟩
structure RS(L:eg)(W w:World):Prop where
 le:W.heap.size<=w.heap.size
 blk:∀i,i<W.heap.size->L.Fx i->w.heap[i]?=W.heap[i]?
 K3:∀a,L.nR a->w.cell? a=W.cell? a
 sh:∀i c e f,L.Sh i->W.heap[i]?=some (.cells c e f)->∃c',w.heap[i]?=some (.cells c' e f)/\c'.size=c.size
 live:Ea L.tw L.Wg W->Ea L.tw L.Wg w
theorem RX.rs(h:RX L O W w):RS L W w:=⟨h.le,fun i hi hx=>h.blk i hi (.inr hx),h.K3,h.sh,h.live⟩
theorem RS.trans{a b c:World}(h:RS L a b)(k:RS L b c):RS L a c:=
 ⟨Nat.le_trans h.le k.le,fun i hi hx=>(k.blk i (Nat.lt_of_lt_of_le hi h.le) hx).trans (h.blk i hi hx),fun x hx=>(k.K3 x hx).trans (h.K3 x hx),fun i c e f hi hc=>by obtain⟨c1,h1,e1⟩:=h.sh i c e f hi hc;obtain⟨c2,h2,e2⟩:=k.sh i c1 e f hi h1;exact⟨c2,h2,e2.trans e1⟩,k.live ∘ h.live⟩
theorem RS.fxs(h:RS L W w):iY L W w:=⟨h.le,h.blk,h.live⟩
theorem RS.set{o:Nat}(hf:¬L.Fx ab)(hc:∀a,L.nR a->a.block≠ab)(hw:L.Wg≠ab):RS L w (w.setCell ⟨ab,o,none⟩ v):=by
 have A:=aside_setCell w ⟨ab,o,none⟩ v;refine⟨Nat.le_of_eq A.size.symm,fun i _ hx=>A.block i fun e=>hf (by have e':i=ab:=e;rw[<-e'];exact hx),fun a ha=>by simp[World.cell?,A.block a.block (hc a ha)],fun i c e f hi hcc=>?_,fun⟨st,sm,h⟩=>⟨st,sm,(A.block L.Wg hw).trans h⟩⟩;by_cases e':i=ab
 ·subst e';exact⟨c.setIfInBounds o v,by simp[World.setCell,Array.getElem?_modify,hcc],by simp⟩
 ·exact⟨c,(A.block i e').trans hcc,rfl⟩
end
section
open Go Go.Conc Go.RowKit Go.MuLone Go.Maps
variable {main:Bool}{J:Jm}{L:eg}
def Q7(ab i:Nat)(key:ByteArray)(m:Int)(val:ByteArray)(w:World):Prop:=
 w.cell? ⟨ab,i*3,none⟩=some (.string key)/\w.cell? ⟨ab,i*3+1,none⟩=some (.int .i64 m)/\w.cell? ⟨ab,i*3+2,none⟩=some (.string val)
def Hu(L:eg)(O1:au)(W:World)(pr ba bc wg asked kb N bC i ab:Nat)(key:ByteArray)(m:Int)(val:ByteArray)(cs:Nat->Option Value)(O':au)(a':Act)(w':World):Prop:=
 Ap a' pr ba bc wg asked/\EI a' kb N bC i/\(O'.pos=O1.pos/\O'.fu=O1.fu)/\(∀b,O'.own b->O1.own b\/W.heap.size<=b)/\RS L W w'/\Q7 ab i key m val w'/\(∀o v,cs o=some v->L.Mn ⟨ab,o,none⟩->(o<i*3\/i*3+3<=o)->w'.cell? ⟨ab,o,none⟩=some v)
theorem Hu.rely{pr ba bc wg asked kb N bC i:Nat}{m:Int}{cs:Nat->Option Value}(hmn:∀j,j<3->L.Mn ⟨ab,i*3+j,none⟩)(h:Hu L O1 W pr ba bc wg asked kb N bC i ab key m val cs O' a' w')(r:RX L O' w' w₁):Hu L O1 W pr ba bc wg asked kb N bC i ab key m val cs O' a' w₁:=by obtain⟨h1,h2,h3,h4,h5,⟨h6,h7,h8⟩,h9⟩:=h;exact⟨h1,h2,h3,h4,h5.trans r.rs,⟨(r.mn _ (hmn 0 (by omega))).1.trans h6,(r.mn _ (hmn 1 (by omega))).1.trans h7,(r.mn _ (hmn 2 (by omega))).1.trans h8⟩,fun o v ho hm hlt=>(r.mn _ hm).1.trans (h9 o v ho hm hlt)⟩
def Xt(L:eg)(W:World)(b0 b1 b4:Nat)(o0 o1 o4:Obj)(w:World):Prop:=iY L W w/\w.heap[b0]?=some o0/\w.heap[b1]?=some o1/\w.heap[b4]?=some o4
theorem YM:∃n,∀(pr ba bc wg asked kb N bC i b1 b4 b0 qx ab lS nx:Nat) (tx key:ByteArray) (cs:Nat->Option Value) (O1:au) (W:World) (O:au) (a:Act) (w:World) (Q:ew),
 L.Fx ba->W.cell? ⟨ba,0,none⟩=some (.slice (some ⟨ab,0,none⟩) N lS)->i<N->N<=8->L.Fx qx->W.cell? ⟨qx,2,none⟩=some (.int .i64 nx)->W.cell? ⟨qx,4,none⟩=some (.string tx)->tx.size<=1000->¬L.Fx ab->(∀a,L.nR a->a.block≠ab)->L.Wg≠ab->ab<W.heap.size->¬O1.own ab->
 Hid (∀j,j<3->L.Mn ⟨ab,i*3+j,none⟩/\(∃v,W.cell? ⟨ab,i*3+j,none⟩=some v)/\W.frozen? ⟨ab,i*3+j,none⟩=false)->Hid (∀o v,cs o=some v->L.Mn ⟨ab,o,none⟩->W.cell? ⟨ab,o,none⟩=some v)->
 Ap a pr ba bc wg asked->EI a kb N bC i->a.tmps[8]?=some (.pointer (some ⟨b4,0,none⟩))->a.tmps[9]?=some (.pointer (some ⟨b1,0,none⟩))->a.tmps[10]?=some (.pointer (some ⟨b0,0,none⟩))->bA L O1 W O w->OB b0 (.cells #[.pointer (some ⟨qx,0,none⟩)] 139) O w->OB b1 (.cells #[.string key] 9) O w->OB b4 (.cells #[.int .i64 i] 3) O w->
 cO prog main J (RX L) (DX L) 44 (cA (cT (cB (cA (cB (cB EK)))))) n (aX (Hu L O1 W pr ba bc wg asked kb N bC i ab key nx tx cs) Q) O a w:=by
 obtain⟨na,han⟩:=vQ (main:=main) (J:=J) (L:=L);co_apply Exists.intro;intro pr ba bc wg asked kb N bC i b1 b4 b0 qx ab lS nx tx key cs O1 W O a w Q hfa hca GQ UY D9 c2 c4 htx hnf Ld uF EL Vo hmn hcs hl oG g8 g9 Lc hF uQ iM rj;dsimp only[EK,BC,yp,mC,cA,cB,cI,cT,cE,Tryz.f44,Option.getD_some];obtain⟨hd,hsz,g0,g4,g5,g6,g7⟩:=hl;obtain⟨Ax,uO,xD⟩:=oG;obtain⟨fv,hT,aj⟩:=s7 hd hsz;subst hT;simp only[aj 0 _ g0,aj 4 _ g4,aj 5 _ g5,aj 6 _ g6,aj 7 _ g7,aj 8 _ g8,aj 9 _ g9,aj 10 _ Lc,aj 22 _ Ax,aj 23 _ uO,aj 24 _ xD];clear hd hsz aj g0 g4 g5 g6 g7 g8 g9 Lc Ax uO xD;have hG:=And.intro hF (And.intro uQ (And.intro iM rj));clear hF uQ iM rj;have lt:∀{r:Nat} {ob:Obj} {x:World},x.heap[r]?=some ob->r<x.heap.size:=fun h=>(zbl.1 h).1;have hSR:∀(O':au) (x y:World),(∀i,O.own i->O'.own i)->Xt L W b0 b1 b4 (.cells #[.pointer (some ⟨qx,0,none⟩)] 139) (.cells #[.string key] 9) (.cells #[.int .i64 (i:Int)] 3) x->RX L O' x y->Xt L W b0 b1 b4 (.cells #[.pointer (some ⟨qx,0,none⟩)] 139) (.cells #[.string key] 9) (.cells #[.int .i64 (i:Int)] 3) y:=
  fun O' x y hO hx hr=>⟨hx.1.rely hr,(hr.blk b0 (lt hx.2.1) (.inl (hO b0 hG.2.1.own))).trans hx.2.1,(hr.blk b1 (lt hx.2.2.1) (.inl (hO b1 hG.2.2.1.own))).trans hx.2.2.1,(hr.blk b4 (lt hx.2.2.2) (.inl (hO b4 hG.2.2.2.own))).trans hx.2.2.2⟩
 have RE:∀{x:World},Xt L W b0 b1 b4 (.cells #[.pointer (some ⟨qx,0,none⟩)] 139) (.cells #[.string key] 9) (.cells #[.int .i64 (i:Int)] 3) x->x.cell? ⟨b0,0,none⟩=some (.pointer (some ⟨qx,0,none⟩)):=fun h=>by simp[World.cell?,h.2.1]
 have NK:∀{x:World},Xt L W b0 b1 b4 (.cells #[.pointer (some ⟨qx,0,none⟩)] 139) (.cells #[.string key] 9) (.cells #[.int .i64 (i:Int)] 3) x->x.cell? ⟨b1,0,none⟩=some (.string key):=fun h=>by simp[World.cell?,h.2.2.1]
 have adt:∀{x:World},Xt L W b0 b1 b4 (.cells #[.pointer (some ⟨qx,0,none⟩)] 139) (.cells #[.string key] 9) (.cells #[.int .i64 (i:Int)] 3) x->x.cell? ⟨b4,0,none⟩=some (.int .i64 (i:Int)):=fun h=>by simp[World.cell?,h.2.2.2]
 have hQR:∀(O:au) (a:Act) (x y:World),aX (Hu L O1 W pr ba bc wg asked kb N bC i ab key nx tx cs) Q O .normal a x->RX L O x y->aX (Hu L O1 W pr ba bc wg asked kb N bC i ab key nx tx cs) Q O .normal a y:=fun O a x y hx hr=>Hu.rely (fun j hj=>(hmn.out j hj).1) hx hr;co_apply gp (ah L) DX.draw (c:=na+Eb) (O0:=O) (S:=Xt L W b0 b1 b4 (.cells #[.pointer (some ⟨qx,0,none⟩)] 139) (.cells #[.string key] 9) (.cells #[.int .i64 (i:Int)] 3)) (by unfold Eb;omega) (by first|kernel_rfl|rfl);intro W1 hR;replace hG:=And.intro ((hG.1.rely hR).rely (RX.draw _ _)) (And.intro ((hG.2.1.rely hR).rely (RX.draw (L:=L) _ _)) (And.intro ((hG.2.2.1.rely hR).rely (RX.draw (L:=L) _ _)) ((hG.2.2.2.rely hR).rely (RX.draw (L:=L) _ _))));clear hR;simp only[List.size_toArray,List.length_cons,List.length_nil,Nat.reduceAdd,Nat.zero_add];co_applyP Q6 hSR hQR (fun _ h=>h) ⟨iY.of hG.1.rel,hG.2.1.heap,hG.2.2.1.heap,hG.2.2.2.heap⟩;intro hb;(co_applyP BB hb (i:=0) rfl (by kernel_rfl) (by rfl) (fun _ _ hO hw=>?b1);(case b1=>((have hc:=iY.aV hw.1 hca hfa);refine⟨fun K hK=>?_,?_⟩;(focus(go_simp;exact hK));(refine DX.still _ _ (cr (a:=⟨ba,0,none⟩) (.inl hfa) fun e he=>?_);have hm:=mem_listed he;simp[go_sem,hc]at hm;exact hm)));try walk_nrm);(co_applyP BB hb (i:=1) rfl (by kernel_rfl) (by rfl) (fun _ _ hO hw=>?b2);(case b2=>((have hc:=adt hw);refine⟨fun K hK=>?_,?_⟩;(focus(go_simp;exact hK));(refine DX.still _ _ (cK (b:=false) (hO _ hG.2.2.2.own) fun e he=>?_);have hm:=mem_listed he;simp[go_sem,hc]at hm;exact⟨_,hm,rfl⟩)));try walk_nrm);(co_applyP BB hb (i:=2) rfl (by kernel_rfl) (by rfl) (fun _ _ hO hw=>?b3);(case b3=>((have hc:=NK hw);refine⟨fun K hK=>?_,?_⟩;(focus(go_simp;exact hK));(refine DX.still _ _ (cK (b:=false) (hO _ hG.2.2.1.own) fun e he=>?_);have hm:=mem_listed he;simp[go_sem,hc]at hm;exact⟨_,hm,rfl⟩)));try walk_nrm);(co_applyP BB hb (i:=3) rfl (by kernel_rfl) (by rfl) (fun _ _ hO hw=>?b4);(case b4=>((have hc:=RE hw);refine⟨fun K hK=>?_,?_⟩;(focus(go_simp;exact hK));(refine DX.still _ _ (cK (b:=false) (hO _ hG.2.1.own) fun e he=>?_);have hm:=mem_listed he;simp[go_sem,hc]at hm;exact⟨_,hm,rfl⟩)));try walk_nrm);(co_applyP qu hb (i:=4) rfl (by kernel_rfl) (by rfl) (fun _ hw=>?b5);(case b5=>(refine⟨by simp[go_sem],fun K hK=>?_⟩;go_simp;exact hK));try walk_nrm);(co_applyP qu hb (i:=5) rfl (by kernel_rfl) (by rfl) (fun _ hw=>?b6);(case b6=>(refine⟨by simp[go_sem],fun K hK=>?_⟩;go_simp;exact hK));try walk_nrm);(co_applyP qu hb (i:=6) rfl (by kernel_rfl) (by rfl) (fun _ hw=>?b7);(case b7=>(refine⟨by simp[go_sem],fun K hK=>?_⟩;go_simp;exact hK));try walk_nrm);(co_applyP BB hb (i:=7) rfl (by kernel_rfl) (by rfl) (fun _ _ hO hw=>?b8);(case b8=>((have hc:=iY.aV hw.1 c2 D9);refine⟨fun K hK=>?_,?_⟩;(focus(go_simp;exact hK));(refine DX.still _ _ (cr (a:=⟨qx,2,none⟩) (.inl D9) fun e he=>?_);have hm:=mem_listed he;simp[go_sem,hc]at hm;exact hm)));try walk_nrm);(co_applyP BB hb (i:=8) rfl (by kernel_rfl) (by rfl) (fun _ _ hO hw=>?b9);(case b9=>((have hc:=RE hw);refine⟨fun K hK=>?_,?_⟩;(focus(go_simp;exact hK));(refine DX.still _ _ (cK (b:=false) (hO _ hG.2.1.own) fun e he=>?_);have hm:=mem_listed he;simp[go_sem,hc]at hm;exact⟨_,hm,rfl⟩)));try walk_nrm);(co_applyP qu hb (i:=9) rfl (by kernel_rfl) (by rfl) (fun _ hw=>?Vf);(case Vf=>(refine⟨by simp[go_sem],fun K hK=>?_⟩;go_simp;exact hK));try walk_nrm);(co_applyP qu hb (i:=10) rfl (by kernel_rfl) (by rfl) (fun _ hw=>?Vg);(case Vg=>(refine⟨by simp[go_sem],fun K hK=>?_⟩;go_simp;exact hK));try walk_nrm);(co_applyP qu hb (i:=11) rfl (by kernel_rfl) (by rfl) (fun _ hw=>?Vh);(case Vh=>(refine⟨by simp[go_sem],fun K hK=>?_⟩;go_simp;exact hK));try walk_nrm);(co_applyP BB hb (i:=12) rfl (by kernel_rfl) (by rfl) (fun _ _ hO hw=>?Vi);(case Vi=>((have hc:=iY.aV hw.1 c4 D9);refine⟨fun K hK=>?_,?_⟩;(focus(go_simp;exact hK));(refine DX.still _ _ (cr (a:=⟨qx,4,none⟩) (.inl D9) fun e he=>?_);have hm:=mem_listed he;simp[go_sem,hc]at hm;exact hm)));try walk_nrm);refine jR (rs:= [13]) (by kernel_rfl) (by simp) fun i' hi'=>?_;obtain rfl:i'=13:=by simpa using hi'
 refine .inr ⟨78,_,_,na,_,Nat.le_refl _,rfl,by walk_nrm;exact han key (nx:Int) tx _ _ htx hG.1.top,?_⟩;rintro O2 y W2 ⟨rfl,hF2⟩;have hH:=And.intro (hG.1.trans hF2) (And.intro (hG.2.1.xC hF2) (And.intro (hG.2.2.1.xC hF2) (hG.2.2.2.xC hF2)));have Vn:=hF2.own;clear hG hF2;refine⟨⟨Vn,iY.of hH.1.rel,hH.2.1.heap,hH.2.2.1.heap,hH.2.2.2.heap⟩,?_⟩;walk_nrm;co_applyP Q6 hSR hQR Vn ⟨iY.of hH.1.rel,hH.2.1.heap,hH.2.2.1.heap,hH.2.2.2.heap⟩;intro hb;(co_applyP qu hb (i:=14) rfl (by kernel_rfl) (by rfl) (fun _ hw=>?Vj);(case Vj=>(refine⟨by simp[*,go_sem],fun K hK=>?_⟩;go_simp;exact hK));try walk_nrm);refine jR (rs:= [15]) (by kernel_rfl) (by simp) fun i' hi'=>?_;obtain rfl:i'=15:=by simpa using hi'
 refine .inl fun W5 h5=>?_;replace hH:=And.intro (hH.1.rely h5) (And.intro (hH.2.1.rely h5) (And.intro (hH.2.2.1.rely h5) (hH.2.2.2.rely h5)));clear h5;obtain⟨m0,⟨v0,q0⟩,z0⟩:=hmn.out 0 (by omega);obtain⟨m1,⟨v1,q1⟩,z1⟩:=hmn.out 1 (by omega);obtain⟨m2,⟨v2,q2⟩,z2⟩:=hmn.out 2 (by omega);simp only[Nat.add_zero]at m0 q0 z0;replace q0:=(hH.1.rel.mn _ m0).1.trans q0;replace z0:=(hH.1.rel.mn _ m0).2.trans z0;replace q1:=(hH.1.rel.mn _ m1).1.trans q1;replace z1:=(hH.1.rel.mn _ m1).2.trans z1;replace q2:=(hH.1.rel.mn _ m2).1.trans q2;replace z2:=(hH.1.rel.mn _ m2).2.trans z2;have adu:Hid (∀o v,cs o=some v->L.Mn ⟨ab,o,none⟩->W5.cell? ⟨ab,o,none⟩=some v):=fun o v ho hm=>(hH.1.rel.mn _ hm).1.trans (hcs.out o v ho hm);clear hcs;go_simp;try(unfold stored;go_simp)
 obtain⟨cs0,t,fr,hbk⟩:=vR q0;have hT:=((dO.cell ab (i*3) W5 (.string key)).trans (dO.cell ab (i*3+1) _ (.int .i64 (nx:Int)))).trans (dO.cell ab (i*3+2) _ (.string tx));have hb0:b0≠ab:=fun e=>(hH.1.nP Vo EL) (e▸hH.2.1.own)
 have iR:b1≠ab:=fun e=>(hH.1.nP Vo EL) (e▸hH.2.2.1.own)
 have YN:b4≠ab:=fun e=>(hH.1.nP Vo EL) (e▸hH.2.2.2.own)
 have hrs:RS L W (((W5.setCell ⟨ab,i*3,none⟩ (.string key)).setCell ⟨ab,i*3+1,none⟩ (.int .i64 (nx:Int))).setCell ⟨ab,i*3+2,none⟩ (.string tx)):=((hH.1.rel.rs.trans (RS.set hnf Ld uF)).trans (RS.set hnf Ld uF)).trans (RS.set hnf Ld uF);refine⟨DX.mine hbk _ _ _ _ _ _ m0 m1 m2 fun e he=>?_,⟨fun j hj=>.inl (Vn j hj),hrs.fxs,(hT.other b0 hb0).trans hH.2.1.heap,(hT.other b1 iR).trans hH.2.2.1.heap,(hT.other b4 YN).trans hH.2.2.2.heap⟩,?_⟩
 ·have hm:=mem_listed he;have E0:=fun es=>lp (P:=prog) (v:=.string key) q0 z0 rfl es;have p2:((W5.setCell ⟨ab,i*3,none⟩ (.string key)).setCell ⟨ab,i*3+1,none⟩ (.int .i64 (nx:Int))).cell? ⟨ab,i*3+2,none⟩=some v2:=by rw[zbm _ _ _ _ (by simp),zbm _ _ _ _ (by simp)];exact q2
  have r2:((W5.setCell ⟨ab,i*3,none⟩ (.string key)).setCell ⟨ab,i*3+1,none⟩ (.int .i64 (nx:Int))).frozen? ⟨ab,i*3+2,none⟩=false:=by rw[World.frozen?_setCell,World.frozen?_setCell];exact z2
  have E2:=fun es=>lp (P:=prog) (v:=.string tx) p2 r2 rfl es;simp[go_sem, *]at hm;rcases hm with rfl|rfl|rfl
  ·exact⟨rfl,.inl ⟨_,rfl,.inr (.inl m0)⟩⟩
  ·exact⟨rfl,.inl ⟨_,rfl,.inr (.inl m1)⟩⟩
  ·exact⟨rfl,.inl ⟨_,rfl,.inr (.inl m2)⟩⟩
 ·refine kR (by kernel_rfl) ?_ _;rw[O2.dh hT.size];have p1:(W5.setCell ⟨ab,i*3,none⟩ (.string key)).cell? ⟨ab,i*3+1,none⟩=some v1:=by rw[zbm _ _ _ _ (by simp)];exact q1
  have p2:((W5.setCell ⟨ab,i*3,none⟩ (.string key)).setCell ⟨ab,i*3+1,none⟩ (.int .i64 (nx:Int))).cell? ⟨ab,i*3+2,none⟩=some v2:=by rw[zbm _ _ _ _ (by simp),zbm _ _ _ _ (by simp)];exact q2
  refine⟨⟨rfl,rfl,rfl,rfl,rfl,rfl,rfl⟩,⟨rfl,rfl,rfl⟩,hH.1.gh,hH.1.new,hrs,⟨?_,?_,?_⟩,fun o v ho hm hlt=>?_⟩
  ·rw[zbm _ _ _ _ (by simp),zbm _ _ _ _ (by simp)];exact zbn _ _ _ q0
  ·rw[zbm _ _ _ _ (by simp)];exact zbn _ _ _ p1
  ·exact zbn _ _ _ p2
  ·have n0:(⟨ab,o,none⟩:Addr)≠⟨ab,i*3,none⟩:=by intro e;injection e;omega
   have n1:(⟨ab,o,none⟩:Addr)≠⟨ab,i*3+1,none⟩:=by intro e;injection e;omega
   have n2:(⟨ab,o,none⟩:Addr)≠⟨ab,i*3+2,none⟩:=by intro e;injection e;omega
   rw[zbm _ _ _ _ (Ne.symm n2),zbm _ _ _ _ (Ne.symm n1),zbm _ _ _ _ (Ne.symm n0)];exact adu.out o v ho hm
end
section
open Go Go.Conc
theorem QM(X:List (Nat×Nat)):w7.ck 44 0 yp 1 X=none:=by kernel_rfl
theorem Sd{d:Nat}{fr:Frame}{c:List Frame}{k:List Item}(h:AG w7 d fr c)(hf:fr.fn=44)(hm:fr.mode=.run)(ht:fr.todo=.code yp :: k):d=0:=by
 obtain⟨out,⟨h1,h2⟩,_⟩:=h;unfold gQ at h2;rw[hm]at h2;obtain⟨s,X,e1,e2,h3⟩:=(show m9 w7 d fr out from h2).ok;have e3:oT w7 fr=0:=by unfold oT;rw[hf];rfl
 have hout:out=0:=by
  obtain⟨a,ha⟩:=h1.j8;rw[hf]at ha;have h4:=CR.two _ _ _ ha;rcases Nat.lt_or_ge a 1 with h5|h5
  ·obtain rfl:a=0:=by omega
   have e:w7.j8 44 0=some 0:=by kernel_rfl
   rw[e]at ha;cases ha;rfl
  ·obtain rfl:a=1:=by omega
   have e:w7.j8 44 1=none:=by kernel_rfl
   rw[e]at ha;cases ha
 subst hout;rw[ht,hf]at h3;obtain⟨r,h6,_⟩:=h3;have:s<2:=by omega
 rcases Nat.lt_or_ge s 1 with h5|h5
 ·omega
 ·obtain rfl:s=1:=by omega
  rw[QM]at h6;cases h6
end
end Go.Proofs.YteoahlieielcdaaGreat
