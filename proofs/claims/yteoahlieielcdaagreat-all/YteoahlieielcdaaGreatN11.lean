import Derived.Test.YteoahlieielcdaaGreatJ36
import Derived.Test.YteoahlieielcdaaGreatV12
set_option linter.all false
open Option renaming some->Y,none->F
open Bool renaming false->E,true->Z6,false_eq_true->aa6
open List renaming getElem?_of_mem->am3,mem_of_getElem?->am4,take_length->an6,find?_cons_of_pos->be6,find?_cons_of_neg->be7
open BitVec renaming ofInt->ad0
open Array renaming ext_getElem?->an1,getElem?_eq_none->an2,getElem?_mapIdx->aw8
open Go.Frame renaming enter->af0
open Nat renaming le_refl->aj1
namespace Go.Proofs.YteoahlieielcdaaGreat
open Go.Proofs.Tryz
open Go Go.RowKit Go.MuLone Go.Conc
abbrev zc0:=@List.getElem?_eq_getElem
abbrev zc1:=@List.mem_cons_of_mem
abbrev zc2:=@List.mem_cons
variable{q:Nat->Nat}{w3 W w:af}{d ab ba bc wg j k aJ b i:Nat}{fr cl:ak}{c c0 cs:List ak}{ms:List Int}{cv v:aj}{gs:Array au}{t:Trace}{s:MS}{r:MR}{x y:ah}{l:List KV}{τ:Nat->Tag}{A:SA}{P:aB}
section
open Go.Maps (Keyed)
section
variable {w W W':af}{τ:Nat->Tag}{aJ b:Nat}{s:MS}{A:SA}{i:Nat}{r:MR}{ab ba bc wg:Nat}{ms:List Int}{cv:aj}{Sb:Nat->Prop}
structure yB(H:bu w W τ aJ b s A i r ab ba bc wg ms cv Sb)(w2:af):Prop where
 rs:RS H.L W w2
 WS:∀(j:Nat) (x:ah),r.keys[j]?=Y x->(jk s A i r ab ba bc).En x->N7 ab j x ((jk s A i r ab ba bc).wn x) ((jk s A i r ab ba bc).tv x) w2
 aad:∀(j:Nat) (x:ah),r.keys[j]?=Y x->¬(jk s A i r ab ba bc).En x->N7 ab j x (fI (jN s (partOf s.parts x).toNat) x ms) (valueOf (jN s (partOf s.parts x).toNat (fI (jN s (partOf s.parts x).toNat) x ms)) x) w2
 mu:∀q,q<s.parts->eE (A.pb q) ⟨E,E,E,0⟩ 0 w2
 G9:bZ 155 wg ⟨0,E,0⟩ w2
 kp:Fy W w2
 rep:bB w2 (fresh τ ab) aJ b (iO s i r) A
 old:pF Sb W->pF (λk=>Sb k\/k=wg) w2
def bu.mu(h:bu w W τ aJ b s A i r ab ba bc wg ms cv Sb){q:Nat}(hq:q<s.parts):eE (A.pb q) ⟨E,E,E,0⟩ 0 W:=by have hb:=h.blk (h.rep.part q hq) (h.rep.dA q hq) I;have jd:W.heap[A.pb q]?=Y (.cells #[fH,gy,.map (Y (A.kb q)),.map (Y (A.vb q))] 202):=hb;exact⟨hb.cell (o:=0) rfl,hb.cell (o:=1) rfl,λo=>by simp[World.frozen?,jd]⟩
def bu.after(h:bu w W τ aJ b s A i r ab ba bc wg ms cv Sb){w2:af}(h3:bB w3 τ aJ b (iO s i r) A)(h4:w3.heap.size<=ab)(h5:∀k,k<w3.heap.size->W.heap[k]?=w3.heap[k]?)(hr:RS h.L W w2)(hm:∀q,q<s.parts->eE (A.pb q) ⟨E,E,E,0⟩ 0 w2):bB w2 (fresh τ ab) aJ b (iO s i r) A:=by
 refine h3.frame λk hk ht=>⟨?_,by unfold fresh;rw[if_neg I]⟩
 have h1:=h.ord;have h2:=h.G9.lt;by_cases hp:∃q,q<s.parts/\k=A.pb q
 ·obtain⟨q,hq,rfl⟩:=hp;have hb:w3.heap[A.pb q]?=Y (.cells #[fH,gy,.map (Y (A.kb q)),.map (Y (A.vb q))] 202 (0,0)):=h3.part q hq;obtain⟨c,e1,e2⟩:=hr.sh (A.pb q) _ _ _ (.inr (.inr (.inl ⟨q,hq,rfl⟩))) ((h5 _ hk).trans hb);have hW:aT W (A.pb q) #[fH,gy,.map (Y (A.kb q)),.map (Y (A.vb q))] 202:=(h5 _ hk).trans hb;have g0:=(hm q hq).word;have g1:=(hm q hq).sema;have g2:=(hr.Hw ⟨A.pb q,2,F⟩ ⟨rfl,XI,q,hq,rfl⟩).trans (hW.cell (o:=2) rfl);have g3:=(hr.Hw ⟨A.pb q,3,F⟩ ⟨rfl,XI,q,hq,rfl⟩).trans (hW.cell (o:=3) rfl);have e3:c.size=4:=e2;rw[e1,hb];congr 2;have hc:∀o:Nat,w2.cell? ⟨A.pb q,o,F⟩=c[o]? :=λo=>by simp[World.cell?,e1]
  rw[hc]at g0 g1 g2 g3;apply an1;intro o;match o with
  | 0=>exact g0
  | 1=>exact g1
  | 2=>exact g2
  | 3=>exact g3
  |o+4=>rw[an2 I,an2 XI]
 ·rw[hr.blk k I ⟨I,λe=>?_,λe=>?_,λq hq e=>hp ⟨q,hq,e⟩,λe=>(h.old k e).2 ht⟩,h5 k hk]
  ·have e':k=ab:=e;omega
  ·have e':k=wg:=e;omega
def bu.gw(h:bu w W τ aJ b s A i r ab ba bc wg ms cv Sb):bZ 155 wg ⟨0,E,0⟩ W:=h.G9
end
def Um{fr':ak}(h:AP vi d fr c)(hf:fr.fn=44)(e1:fr'.fn=fr.fn)(e2:fr'.kind=fr.kind)(e3:fr'.roundOf=fr.roundOf)(e4:fr'.defers= [])(e5:fr'.mode=.returning):AP vi 0 fr' c:=by
 obtain⟨out,⟨h1,h2⟩,h3⟩:=h;have hout:out=0:=by
  obtain⟨a,ha⟩:=h1.kC;rw[hf]at ha;have h4:=Da.two _ _ _ ha;rcases Nat.lt_or_ge a 1 with h5|h5
  ·obtain rfl:a=0:=I
   have e:vi.kC 44 0=Y 0:=Yl
   rw[e]at ha;cases ha;rfl
  ·obtain rfl:a=1:=I
   have e:vi.kC 44 1=F:=Yl
   rw[e]at ha;cases ha
 subst hout;refine⟨0,⟨⟨by rw[e3];exact h1.round,(λx hx=>by rw[e4]at hx;simp at hx),by rw[e2];exact h1.kind,by rw[e1];exact h1.kC,.inr (.inl e4)⟩,?_⟩,by rw[e2];exact h3⟩;unfold iC;rw[e5];show 0=0+py vi fr';unfold py;rw[e1,hf];rfl
section
variable {w v:af}{τ:Nat->Tag}{aJ b:Nat}{s:MS}{A:SA}{i:Nat}{r:MR}{Sb:Nat->Prop}
def Ly{bf fF:ak}{a:Act}(H:bu w W τ aJ b s A i r ab ba bc wg ms cv Sb)(hb:bf.fn=44)(hk:bf.kind=.normal)(hl:yT a (A.R.pr i) ba bc wg 0)
 (Z8:bB w3 τ aJ b (iO s i r) A) (Z9:w3.heap.size<=ab) (hR5:∀k,k<w3.heap.size->W.heap[k]?=w3.heap[k]?) (hC:Crowd prog vi Sb d (bf.at a [.code yh]) (fF :: c0) cs gs t q) (sl:Option (Nat×Nat)):
 ∃(N:Nat) (gs':Array au) (w2:af) (sl':Option (Nat×Nat)) (t':Trace) (q':Nat->Nat) (Eo:ak),
  runNT prog N (crowd gs W sl) t=(.next (crowd gs' w2 sl'),t')/\Crowd prog vi (λk=>Sb k\/k=wg) 0 Eo (fF :: c0) cs gs' t' q'/\
  (∀w',Eo.leaving prog w' (.returned (.tuple #[.slice (Y ⟨ab,0,F⟩) r.keys.length r.keys.length,.int .i64 ((jk s A i r ab ba bc).oY (jk s A i r ab ba bc).N:Nat)])))/\yB H w2:=by
 have hd:d=0:=Uo hC.stk hb rfl rfl
 subst hd
 have hP:uu (KR Sb) t:=hC.past.ab9 hC.deaf
 have h1:=H.size
 have h2:=H.ord
 obtain⟨N,gs',w2,sl',t',a',todo,q',O,r1,r2,r3,r4,r5,r6,r7,r8,r9,r10,r11⟩:=Db (sl:=sl) H.acd H.agz (λk hk=>by have:=(H.old k hk).1;omega) (λk hk=>by
  refine⟨?_,λhx=>?_⟩
  ·rcases hk with hk|hk|⟨q,hq,hk⟩|hk
   ·rw[hk];exact H.hab
   ·rw[hk];exact h1.2
   ·rw[hk];exact H.Oh q hq
   ·have:=(H.old k hk).1;omega
  ·rcases hk with hk|hk|⟨q,hq,hk⟩|hk
   ·exact hx.2.1 hk
   ·exact hx.2.2.1 hk
   ·exact hx.2.2.2.1 q hq hk
   ·exact hx.2.2.2.2 hk) hb (by rw[hk];decide) hl H.gw (λp hp=>H.mu hp) hC.at0 hC.lv hP hC.bd
 refine⟨N,gs',w2,sl',t',q',{bf.at a' todo with mode:=.returning},r1,⟨r3,Um hC.stk hb rfl rfl rfl r4.d0 rfl,r6.hears,r5,r6.ace,r7⟩,λw'=>⟨rfl,r4.d0,hk,f44,by show prog.funcs[bf.fn]?=_;rw[hb];exact func44,?_⟩,⟨r4.rs,λj x hx he=>r4.Ks j x hx he,λj x hx he=>r10 j x hx he,r8,r9,r11,H.after Z8 Z9 hR5 r4.rs r8,λho k hk=>?_⟩⟩
 ·have q2:=r4.r2
  have q3:=r4.r3
  simp[results,Frame.at,Array.getD_eq_getD_getElem?,q2,q3]
  exact⟨rfl,rfl,rfl⟩
 ·rcases hk with hk|rfl
  ·obtain⟨C,T,g1,g2⟩:=ho k hk
   obtain⟨C',g3,g4⟩:=r4.rs.sh k C T _ (.inr (.inr (.inr hk))) g2
   exact⟨C',T,by rw[g4];exact g1,g3⟩
  ·exact⟨_,_,XI,r9⟩
end
end
section
def CF(s:MS)(n:Nat)(x:ah):Prop:=n≠0/\∃m,s.ws[n-1]?=Y m/\aN m.items x=Z6
structure xB(s:MS)(r:MR)(x:ah)(n:Nat):Prop where
 one:n=0\/CF s n x/\∃(j:Nat) (y:ah),r.keys[j]?=Y y/\r.found j=n
 top:∀(j:Nat) (y:ah),r.keys[j]?=Y y->CF s (r.found j) x->r.found j<=n
def xB.eq{n m:Nat}(h:xB s r x n)(k:xB s r x m):n=m:=by
 have key:∀{n m:Nat},xB s r x n->xB s r x m->n<=m:=fun{n m} h k=>by
  rcases h.one with e|⟨h1,j,y,h2,h3⟩
  ·omega
  ·rw[<-h3]at h1⊢;exact k.top j y h2 h1
 exact Nat.le_antisymm (key h k) (key k h)
def Hg(b:BitVec 64):ad0 IntKind.u64.bits (IntKind.u64.wrap (b.toNat:Int))=b:=by
 have h1:IntKind.u64.wrap (b.toNat:Int)=(b.toNat:Int):=by have:=b.isLt;simp[IntKind.wrap,IntKind.signed,IntKind.bits];omega
 rw[h1];show ad0 64 (b.toNat:Int)=b;simp
def EC(m n:Int):ad0 IntKind.u64.bits (VO m n)=ad0 IntKind.u64.bits m |||ad0 IntKind.u64.bits n:=Hg _
def BC:∀(K:List ah) (m:Int) (b:BitVec 64),ad0 64 m &&& b=b->ad0 64 (K.foldl (λm x=>VO m (jH x)) m)&&& b=b
 | [],_,_,h=>h
 |x :: K,m,b,h=>BC K _ b (by have e:ad0 64 (VO m (jH x))=ad0 64 m |||ad0 64 (jH x):=EC m (jH x);rw[e];ext i hi;have:=congrArg (λz=>z.getLsbD i) h;simp only[BitVec.getLsbD_and]at this;simp only[BitVec.getElem_and,BitVec.getElem_or,BitVec.getLsbD_eq_getElem hi]at this⊢;revert this;cases b[i]<;>cases (ad0 64 m)[i]<;>simp)
def ED:∀(K:List ah) (m:Int) (x:ah),x∈K->ad0 64 (K.foldl (λm x=>VO m (jH x)) m)&&& ad0 64 (jH x)=ad0 64 (jH x)
 |y :: K,m,x,h=>by
  rcases zc2.1 h with rfl|h
  ·refine BC K _ _ ?_;have e:ad0 64 (VO m (jH x))=ad0 64 m |||ad0 64 (jH x):=EC m (jH x);rw[e];ext i hi;simp only[BitVec.getElem_and,BitVec.getElem_or];cases (ad0 64 (jH x))[i]<;>simp
  ·exact ED K _ x h
def Tg(x:ah):(ad0 64 (jH x)).toNat≠0:=by
 have h0:(j7 x.data.toList % 64).toNat<64:=I
 unfold jH;generalize (j7 x.data.toList % 64).toNat=k at h0;have:∀k,k<64->(ad0 64 (IntKind.u64.wrap (2 ^ k))).toNat≠0:=by decide+kernel
 exact this k h0
def EE{K:List ah}(h:x∈K):wE (mV K) x=Z6:=by
 have h1:=ED K 0 x h;unfold wE mV;rw[show (ad0 IntKind.u64.bits (K.foldl (λm x=>VO m (jH x)) 0)&&& ad0 IntKind.u64.bits (jH x))=ad0 IntKind.u64.bits (jH x)from h1];have h2:=Tg x;have h3:∀b:BitVec 64,b.toNat≠0->(!(IntKind.u64.wrap (b.toNat:Int)== 0))=Z6:=λb hb=>by
  have:=b.isLt;have h4:IntKind.u64.wrap (b.toNat:Int)=(b.toNat:Int):=by simp[IntKind.wrap,IntKind.signed,IntKind.bits];omega
  rw[h4];simp only[Bool.not_eq_true',beq_eq_false_iff_ne];omega
 exact h3 _ h2
def EF:aN l x=fN (l.map Prod.fst) x:=by unfold aN fN;rw[List.any_map];rfl
def Ku{vl:Int->List KV}{x:ah}:∀(ms:List Int) (g:Int),let z:=ms.foldl (λg m=>if aN (vl m) x then(if m > g then m else g)else g) g;g<=z/\(z=g\/(z∈ms/\aN (vl z) x=Z6))/\∀m∈ms,aN (vl m) x=Z6->m<=z
 | [],g=>⟨Int.le_refl _,.inl rfl,λm hm=>by cases hm⟩
 |m :: ms,g=>by
  have ih:=Ku (vl:=vl) (x:=x) ms (if aN (vl m) x then(if m > g then m else g)else g);simp only[List.foldl_cons]at ih⊢;obtain⟨h1,h2,h3⟩:=ih;generalize ms.foldl _ _=z at h1 h2 h3⊢;cases hk:aN (vl m) x with
  |false=>
   simp only[hk,aa6,if_false]at h1 h2;refine⟨h1,h2.imp id λh=>⟨zc1 _ h.1,h.2⟩,λm' hm' hk'=>?_⟩;rcases zc2.1 hm' with rfl|hm'
   ·rw[hk]at hk';cases hk'
   ·exact h3 m' hm' hk'
  |true=>
   simp only[hk,if_true]at h1 h2;refine⟨by split at h1<;>omega,?_,λm' hm' hk'=>?_⟩
   ·rcases h2 with h2|h2
    ·split at h2
     ·subst h2;exact .inr ⟨List.mem_cons_self ..,hk⟩
     ·exact .inl h2
    ·exact .inr ⟨zc1 _ h2.1,h2.2⟩
   ·rcases zc2.1 hm' with rfl|hm'
    ·split at h1<;>omega
    ·exact h3 m' hm' hk'
def CG{n q:Int}{x:ah}(hx:partOf n x=q):∀(l:List KV),(bp n l q).find? (λy=>decide (y.1=x))=l.find? (λy=>decide (y.1=x))
 | []=>rfl
 |y :: l=>by
  have ih:=CG hx l;unfold bp at ih⊢;by_cases e:y.1=x
  ·rw[List.filter_cons_of_pos (by rw[e];simpa using hx),be6 (by simpa using e),be6 (by simpa using e)]
  ·rw[be7 (l:=l) (by simpa using e),List.filter_cons];split
   ·rw[be7 (by simpa using e),ih]
   ·exact ih
section
variable {w W w2:af}{τ:Nat->Tag}{aJ b:Nat}{s:MS}{A:SA}{i:Nat}{r:MR}{ab ba bc wg:Nat}{ms:List Int}{cv:aj}{Sb:Nat->Prop}
def bu.Hh(H:bu w W τ aJ b s A i r ab ba bc wg ms cv Sb)(hca:jX s)(hy:r.keys[j]?=Y y)(h0:r.found j≠0):∃m,s.ws[r.found j-1]?=Y m/\bL s (r.found j:Int)=Y m/\aN m.items y=Z6/\cH s.parts m=Z6:=by
 obtain⟨m,h1,h2,h3⟩:=H.rep.told.fm i r j y H.hr H.fin hy h0;refine⟨m,h1,?_,h2,hca _ m _ h1 h3⟩;have hl:=aH h1;unfold bL;rw[if_neg I,show ((r.found j:Int)-1).toNat=r.found j-1 by omega,h1];have hc:m.dF=E:=by
  cases hc:m.dF with
  |false=>rfl
  |true=>have:=H.rep.inv.cc _ m (partOf s.parts y).toNat h1 hc;rw[this]at h3;cases h3
 simp[hc]
def Kv{m:MW}{n:Int}(hP:1<=s.parts)(hf:bL s n=Y m)(ha:cH s.parts m=Z6):(jN s (partOf s.parts x).toNat n).find? (λy=>decide (y.1=x))=m.items.find? (λy=>decide (y.1=x)):=by
 have hb:=iK (s.parts:Int) x I;unfold jN;rw[hf];simp only;cases hk:m.items.find? (λy=>decide (y.1=x))with
 |none=>
  split
  ·rw[CG I,hk]
  ·rfl
 |some y=>
  have hy:=List.find?_some hk;have hm:=List.mem_of_find?_eq_some hk;have lU:aK s.parts m.items ((partOf s.parts x).toNat:Int)=Z6:=by unfold aK;rw[List.any_eq_true];refine⟨y,hm,?_⟩;simp only[decide_eq_true_eq]at hy⊢;rw[hy];omega
  have hp:m.cC (partOf s.parts x).toNat=Z6:=by unfold cH at ha;rw[List.all_eq_true]at ha;have:=ha (partOf s.parts x).toNat (List.mem_range.2 I);rw[lU]at this;simpa using this
  rw[if_pos hp,CG I,hk]
def yB.answers{H:bu w W τ aJ b s A i r ab ba bc wg ms cv Sb}(h:yB H w2)(hca:jX s)(hx:r.keys[j]?=Y x):
 ∃(n:Nat) (val:ah),xB s r x n/\N7 ab j x (n:Int) val w2/\(n=0->val=⟨#[]⟩)/\∀m,n≠0->s.ws[n-1]?=Y m->gT m.items x=Y val:=by
 have hi:=(H.yA (j:=j) (x:=x) hx).1;have hP:=H.rep.ok.p1;by_cases hE:(jk s A i r ab ba bc).En x
 ·have ha:=h.WS j x hx hE;have e1:(jk s A i r ab ba bc).wn x=r.found j:=by show r.found (bC _ x)=_;rw[hi]
  rw[e1]at ha;have htv:(jk s A i r ab ba bc).tv x=A.R.tv i j:=by show A.R.tv i (bC _ x)=_;rw[hi]
  have hhv:(jk s A i r ab ba bc).hv x=A.R.hv i j:=by show A.R.hv i (bC _ x)=_;rw[hi]
  have hH:=H.rep.told.hv i r j x H.hr H.fin hx;refine⟨r.found j,_,⟨?_,λj' y hy hw=>?_⟩,ha,λh0=>?_,λm h0 hm=>?_⟩
  ·by_cases h0:r.found j=0
   ·exact .inl h0
   ·obtain⟨m,h1,_,h2,_⟩:=H.Hh hca hx h0;exact .inr ⟨⟨h0,m,h1,h2⟩,j,x,hx,rfl⟩
  ·refine Nat.le_of_not_lt λhlt=>?_;have hp:=H.yA hy;refine hE.2 y hp.2 ⟨by rw[e1];show _<r.found (bC _ y);rw[hp.1];exact hlt,?_⟩;show G8 s A i r y x=Z6;unfold G8;obtain⟨_,m,hm,hk⟩:=hw;rw[hp.1,hm];split
   ·simp only;rw[EF]at hk;split
    ·exact hk
    ·split
     ·exact EE (mX.1 hk)
     ·rfl
   ·rfl
  ·have:A.R.hv i j=E:=by rw[hH,h0];simp
   rw[htv];exact(H.rep.told.t0 i r j x H.hr H.fin hx this).1
  ·have:A.R.hv i j=Z6:=by
    cases hv:A.R.hv i j with
    |true=>rfl
    |false=>exact absurd ⟨by rw[e1];exact h0,by rw[hhv];exact hv⟩ hE.1
   obtain⟨m',t1,t2,_⟩:=H.rep.told.tv i r j x H.hr H.fin hx this;rw[hm]at t1;cases t1;rw[htv];exact t2
 ·have ha:=h.aad j x hx hE;obtain⟨g1,g2,g3⟩:=Ku (vl:=jN s (partOf s.parts x).toNat) (x:=x) ms 0;have eg:fI (jN s (partOf s.parts x).toNat) x ms=ms.foldl (λg m=>if aN (jN s (partOf s.parts x).toNat m) x then(if m > g then m else g)else g) 0:=rfl;rw[<-eg]at g1 g2 g3;generalize fI (jN s (partOf s.parts x).toNat) x ms=z at ha g1 g2 g3;obtain⟨n,rfl⟩:∃n:Nat,z=n:=⟨z.toNat,I⟩
  have hn:n=0\/∃j' y m,r.keys[j']?=Y y/\r.found j'=n/\n≠0/\s.ws[n-1]?=Y m/\bL s (n:Int)=Y m/\cH s.parts m=Z6:=by
   by_cases h0:n=0
   ·exact .inl h0
   ·rcases g2 with g2|⟨g2,_⟩
    ·omega
    ·obtain⟨j',y,hy,e⟩:=H.cand.of _ g2;have e':r.found j'=n:=I
     obtain⟨m,q1,q2,_,q4⟩:=H.Hh hca hy I;rw[e']at q1 q2;exact .inr ⟨j',y,m,hy,e',h0,q1,q2,q4⟩
  refine⟨n,_,⟨?_,λj' y hy hw=>?_⟩,ha,λh0=>?_,λm h0 hm=>?_⟩
  ·rcases hn with h0|⟨j',y,m,hy,e,h0,q1,q2,q4⟩
   ·exact .inl h0
   ·rcases g2 with g2|⟨_,g2⟩
    ·omega
    ·refine .inr ⟨⟨h0,m,q1,?_⟩,j',y,hy,e⟩;rw[hU,Kv hP q2 q4,<-hU]at g2;exact g2
  ·obtain⟨m,q1,q2,_,q4⟩:=H.Hh hca hy hw.1;obtain⟨_,m',hm',hk⟩:=hw;rw[q1]at hm';cases hm';have:=g3 _ (H.cand.all j' y hy) (by rw[hU,Kv hP q2 q4,<-hU];exact hk);omega
  ·subst h0;show valueOf (jN s _ 0) x=_;unfold jN bL;rw[if_pos I];rfl
  ·rcases hn with h0'|⟨j',y,m',hy,e,_,q1,q2,q4⟩
   ·exact absurd h0' h0
   ·rw[hm]at q1;cases q1;rcases g2 with g2|⟨_,g2⟩
    ·omega
    ·unfold gT valueOf;rw[hU,Kv hP q2 q4]at g2;rw[Kv hP q2 q4];cases hk:m.items.find? (λy=>decide (y.1=x))with
     |none=>rw[hk]at g2;cases g2
     |some y=>rfl
end
end
section
def kI(r:MR)(x:ah):Nat:=r.found (bC r.keys x)
def vh(s:MS)(r:MR):Prop:=s.mode=2/\1<r.keys.length
def WN(s:MS)(r:MR)(y x:ah):Prop:=vh s r\/kI r y=0\/∀m,s.ws[kI r y-1]?=Y m->(s.mode=1->fN (m.items.map Prod.fst) x=Z6)/\(s.mode=3->wE (mV (m.items.map Prod.fst)) x=Z6)
def WO(s:MS)(r:MR)(x:ah):Prop:=¬(kI r x≠0/\vh s r)/\∀y∈r.keys,¬(kI r x<kI r y/\WN s r y x)
section
variable {w W w2:af}{τ:Nat->Tag}{aJ b:Nat}{s:MS}{A:SA}{i:Nat}{r:MR}{ab ba bc wg:Nat}{ms:List Int}{cv:aj}{Sb:Nat->Prop}
def bu.hvM(H:bu w W τ aJ b s A i r ab ba bc wg ms cv Sb)(hy:y∈r.keys):A.R.hv i (bC r.keys y)=E↔vh s r\/kI r y=0:=by obtain⟨j,hj⟩:=am3 hy;have e:=(H.yA hj).1;rw[e,H.rep.told.hv i r j y H.hr H.fin hj,H.rep.told.no i r H.hr H.fin];unfold vh kI;rw[e];by_cases h1:s.mode=2<;>by_cases h2:1<r.keys.length<;>by_cases h3:r.found j=0<;>simp[h1,h2,h3]
def bu.fmM(H:bu w W τ aJ b s A i r ab ba bc wg ms cv Sb)(hy:y∈r.keys):G8 s A i r y x=Z6↔WN s r y x:=by
 unfold G8 WN;cases hv:A.R.hv i (bC r.keys y)with
 |false=>
  simp only[aa6,if_false,true_iff];rcases(H.hvM hy).1 hv with h|h
  ·exact .inl h
  ·exact .inr (.inl h)
 |true=>
  have hn:¬(vh s r\/kI r y=0):=λh=>by rw[(H.hvM hy).2 h]at hv;cases hv
  simp only[if_true];rw[show r.found (bC r.keys y)=kI r y from rfl];constructor
  ·intro h;refine .inr (.inr λm hm=>?_);rw[hm]at h;simp only at h;refine⟨λe=>?_,λe=>?_⟩
   ·rw[if_pos e]at h;exact h
   ·rw[if_neg I,if_pos e]at h;exact h
  ·rintro(h|h|h)
   ·exact absurd (.inl h) hn
   ·exact absurd (.inr h) hn
   ·cases hm:s.ws[kI r y-1]? with
    |none=>rfl
    |some m=>
     simp only;by_cases e:s.mode=1
     ·rw[if_pos e];exact(h m hm).1 e
     ·rw[if_neg e];by_cases e3:s.mode=3
      ·rw[if_pos e3];exact(h m hm).2 e3
      ·rw[if_neg e3]
def bu.WQ(H:bu w W τ aJ b s A i r ab ba bc wg ms cv Sb)(hx:x∈r.keys):(jk s A i r ab ba bc).En x↔WO s r x:=by
 have hp:∀{y:ah},(jk s A i r ab ba bc).p y↔y∈r.keys:=fun{y}=>⟨λh=>am4 h.2,λh=>by obtain⟨j,hj⟩:=am3 h;exact(H.yA hj).2⟩
 constructor
 ·rintro⟨h1,h2⟩;refine⟨λ⟨h3,h4⟩=>h1 ⟨h3,(H.hvM hx).2 (.inl h4)⟩,λy hy ⟨h3,h4⟩=>h2 y (hp.2 hy) ⟨h3,(H.fmM hy).2 h4⟩⟩
 ·rintro⟨h1,h2⟩;refine⟨λ⟨h3,h4⟩=>?_,λy hy ⟨h3,h4⟩=>h2 y (hp.1 hy) ⟨h3,(H.fmM (hp.1 hy)).1 h4⟩⟩;rcases(H.hvM hx).1 h4 with h|h
  ·exact h1 ⟨h3,h⟩
  ·exact h3 h
open Classical in
noncomputable def pE(s:MS)(r:MR):Nat:=r.keys.countP λx=>decide (¬WO s r x)
open Classical in
def bu.oY(H:bu w W τ aJ b s A i r ab ba bc wg ms cv Sb):(jk s A i r ab ba bc).oY (jk s A i r ab ba bc).N=pE s r:=by show ((r.keys.take r.keys.length).filter λx=>decide (¬(jk s A i r ab ba bc).En x)).length=_;rw[an6,<-List.countP_eq_length_filter];refine List.countP_congr λx hx=>?_;simp only[decide_eq_true_eq];exact not_congr (H.WQ hx)
open Classical in
def Ov(h:∀x∈r.keys,¬WO s r x):pE s r=r.keys.length:=by unfold pE;rw[List.countP_eq_length];intro x hx;simpa using h x hx
open Classical in
def Lu(h:∀x∈r.keys,WO s r x):pE s r=0:=by unfold pE;rw[List.countP_eq_zero];intro x hx;simpa using h x hx
end
section
variable {P:Nat}{ws:List MW}{rs:List MR}{r:MR}{x:ah}
def Ow(hl:1<r.keys.length)(hy:y∈r.keys)(h0:kI r y≠0):pE ⟨P,2,ws,rs⟩ r=r.keys.length:=
 Ov λx _ h=>by
  have hb:vh ⟨P,2,ws,rs⟩ r:=⟨rfl,hl⟩
  by_cases hx:kI r x=0
  ·exact h.2 y hy ⟨I,.inl hb⟩
  ·exact h.1 ⟨hx,hb⟩
def Lv(h:r.keys.length<=1\/∀y∈r.keys,kI r y=0):pE s r=0:=
 Lu λx hx=>by
  rcases h with h|h
  ·refine⟨λh1=>by have:=h1.2.2;omega,λy hy h1=>?_⟩;have:x=y:=by
    match hk:r.keys,hx,hy,h with
    | [z],hx,hy,_=>simp at hx hy;rw[hx,hy]
   subst this;omega
  ·exact⟨λh1=>h1.1 (h x hx),λy hy h1=>by have:=h y hy;omega⟩
end
end
section
noncomputable def Ox(Sb:Nat->Prop)(W w:af):af:={w with heap:=w.heap.mapIdx λi o=>open Classical in if Sb i then(W.heap[i]?).getD o else o}
section
variable {w v W:af}{τ:Nat->Tag}{aJ b:Nat}{s:MS}{A:SA}{i:Nat}{r:MR}{ab ba bc wg:Nat}{ms:List Int}{cv:aj}{Sb:Nat->Prop}
def lp:(Ox Sb W w).heap.size=w.heap.size:=by simp[Ox]
def CC(h:¬Sb k):(Ox Sb W w).heap[k]?=w.heap[k]? :=by simp only[Ox,aw8,if_neg h];cases w.heap[k]? <;>rfl
def Oy(h:Sb k)(hk:k<w.heap.size)(hW:k<W.heap.size):(Ox Sb W w).heap[k]?=W.heap[k]? :=by simp only[Ox,aw8,if_pos h];rw[Array.getElem?_eq_getElem hk,Array.getElem?_eq_getElem hW];rfl
def bu.WR(h:bu w v τ aJ b s A i r ab ba bc wg ms cv Sb)(hs:cK Sb v W):bu (Ox Sb W w) W τ aJ b s A i r ab ba bc wg ms cv Sb:=by
 have ho:=h.ord;have hn:∀{k:Nat},w.heap.size<=k->W.heap[k]?=v.heap[k]? :=fun{k} hk=>(hs.same k λe=>by have:=(h.old k e).1;omega).symm;obtain⟨C,hC,hz⟩:=h.Ks;refine⟨h.rep.frame λk _ ht=>⟨CC λe=>(h.old k e).2 ht,rfl⟩,h.hr,h.fin,λk hk hne=>?_,⟨C,hC.of_eq (hn ho.1),hz⟩,h.Tc.of_eq (hn I),h.Td.of_eq (hn I),h.cand,?_,h.G9.of_eq (hn I),by rw[lp];exact ho,h.Oz,λk hk=>by rw[lp];exact h.old k hk⟩
 ·rw[lp]at hk;by_cases e:Sb k
  ·rw[Oy e hk (hs.lt e)]
  ·rw[CC e,<-hs.same k e,h.same k hk hne]
 ·rw[lp];exact aI h.row λk hk=>hn (by have:=(h.Oz k hk).1;omega)
def He(hA:CE w τ aJ b s A i r Sb c0 fr c v)(hC:Crowd prog vi Sb d fr c cs gs t q)(hv:cK Sb v W)(sl:Option (Nat×Nat)):
 ∃(ab ba bc wg:Nat) (ms:List Int) (cv:aj) (fF:ak) (H:bu (Ox Sb W w) W τ aJ b s A i r ab ba bc wg ms cv Sb) (N:Nat) (gs':Array au) (w2:af) (sl':Option (Nat×Nat)) (t':Trace) (q':Nat->Nat) (Eo:ak),
  c=fF :: c0/\Te fF/\runNT prog N (crowd gs W sl) t=(.next (crowd gs' w2 sl'),t')/\Crowd prog vi (λk=>Sb k\/k=wg) 0 Eo (fF :: c0) cs gs' t' q'/\
  (∀w',Eo.leaving prog w' (.returned (.tuple #[.slice (Y ⟨ab,0,F⟩) r.keys.length r.keys.length,.int .i64 ((jk s A i r ab ba bc).oY (jk s A i r ab ba bc).N:Nat)])))/\yB H w2/\Stp aJ τ w τ v:=by
 obtain⟨bf,a,ab,ba,bc,wg,ms,cv,fF,rfl,hb,hk,rfl,hF,hl,hI,⟨w3,Z8,Z9,hR5⟩,hS⟩:=hA.ex
 have H:=hI.WR hv
 obtain⟨N,gs',w2,sl',t',q',Eo,r1,r2,r3,r4⟩:=Ly (w3:=Ox Sb W w3) H hb hk hl (Z8.frame λk _ ht=>⟨CC λe=>(hI.old k e).2 ht,rfl⟩) (by rw[lp];exact Z9) (λk hk=>by
  rw[lp]at hk;by_cases e:Sb k
  ·rw[Oy e hk (hv.lt e)]
  ·rw[CC e,<-hv.same k e,hR5 k hk]) hC sl
 exact⟨ab,ba,bc,wg,ms,cv,fF,H,N,gs',w2,sl',t',q',Eo,rfl,hF,r1,r2,r3,r4,hS⟩
end
def ku(Q:(Nat->Prop)->ak->List ak->af->Prop)(Sb:Nat->Prop)(fr:ak)(c:List ak)(W:af):Prop:=
 ∀(cs:List ak) (gs:Array au) (t:Trace) (q:Nat->Nat) (d:Nat) (sl:Option (Nat×Nat)),pF Sb W->Crowd prog vi Sb d fr c cs gs t q->
  ∃N Kt gs' fr' c' W' sl' t' q' d',runNT prog N (crowd gs W sl) t=(.next (crowd gs' W' sl'),t')/\Q Kt fr' c' W'/\pF Kt W'/\Crowd prog vi Kt d' fr' c' cs gs' t' q'
section
variable {Q Q':(Nat->Prop)->ak->List ak->af->Prop}{Sb:Nat->Prop}{fr:ak}{c:List ak}{W:af}
def ku.done(h:Q Sb fr c W):ku Q Sb fr c W:=λ_ gs t q d sl hp hC=>⟨0,Sb,gs,fr,c,W,sl,t,q,d,rfl,h,hp,hC⟩
def ku.lone{R:ak->List ak->af->Prop}(hR:∀fr c v tp n,R fr c v->R fr c (wt v tp n))(h:∀tp n,Reach prog R fr c (wt (gZ Sb W) tp n))(hq:∀fr c v W,R fr c v->cK Sb v W->ku Q Sb fr c W):ku Q Sb fr c W:=λcs gs t q d sl hp hC=>by
 obtain⟨N,gs1,gC,c1,v1,W1,sl1,t1,q1,d1,r1,_,r3,r4,r5⟩:=beside hR hC hp h sl;have hp1:pF Sb W1:=λk hk=>by obtain⟨C,T,h0,_,h2⟩:=r4.gZ k hk;exact⟨C,T,h0,h2⟩
 obtain⟨N2,Sb2,gs2,Eo,c2,W2,Tf,t2,q2,d2,s1,s2,s3,s4⟩:=hq gC c1 v1 W1 r3 r4 cs gs1 t1 q1 d1 sl1 hp1 r5;exact⟨N+N2,Sb2,gs2,Eo,c2,W2,Tf,t2,q2,d2,(mW N N2 r1).trans s1,s2,s3,s4⟩
def ku.finish{v:af}(hA:CE w τ aJ b s A i r Sb c0 fr c v)(hv:cK Sb v W)
 (hq:∀(ab ba bc wg:Nat) (ms:List Int) (cv:aj) (fF:ak) (H:bu (Ox Sb W w) W τ aJ b s A i r ab ba bc wg ms cv Sb) (w2:af) (Eo:ak),Te fF->(∀w',Eo.leaving prog w' (.returned (.tuple #[.slice (Y ⟨ab,0,F⟩) r.keys.length r.keys.length,.int .i64 ((jk s A i r ab ba bc).oY (jk s A i r ab ba bc).N:Nat)])))->yB H w2->Stp aJ τ w τ v->ku Q (λk=>Sb k\/k=wg) Eo (fF :: c0) w2):ku Q Sb fr c W:=λcs gs t q d sl hp hC=>by obtain⟨ab,ba,bc,wg,ms,cv,fF,H,N,gs1,w2,sl1,t1,q1,Eo,rfl,hF,r1,r2,r3,r4,r5⟩:=He hA hC hv sl;obtain⟨N2,Sb2,gs2,fr3,c2,W2,Tf,t2,q2,d2,s1,s2,s3,s4⟩:=hq ab ba bc wg ms cv fF H w2 Eo hF r3 r4 r5 cs gs1 t1 q1 0 sl1 (r4.old hp) r2;exact⟨N+N2,Sb2,gs2,fr3,c2,W2,Tf,t2,q2,d2,(mW N N2 r1).trans s1,s2,s3,s4⟩
end
end
def bu.fxo{Sb:Nat->Prop}(h:bu w W τ aJ b s A i r ab ba bc wg ms cv Sb)(hk:k<w.heap.size)(ht:(τ k).1≠aJ)(hs:¬Sb k):h.L.Fx k:=by
 have h1:=h.ord;have h2:=h.G9.lt;refine⟨I,λe=>?_,λe=>?_,λq hq e=>?_,hs⟩
 ·have e':k=ab:=e;omega
 ·have e':k=wg:=e;omega
 ·have:=h.rep.dA q hq;have e':k=A.pb q:=e;rw[<-e']at this;rw[this]at ht;exact ht rfl
def OE{m m1:Machine}{t1:Trace}{a:Nat}(b:Nat)(h:runNT P a m t=(.next m1,t1)):runN P (a+b) m=runN P b m1:=by rw[<-runNT_fst P _ _ t,<-runNT_fst P _ _ t1,mW a b h]
def Hl{f:Func}{t:Tmp}(h:fr.leaving P w (.returned v))(hi:P.inits.idxOf? fr.fn=F)(hf:P.funcs[fr.fn]?=Y f)(ht:f.results=#[.tmp t]):stepG P Z6 (G fr []) w=.ended (.done v) w #[]:=by
 obtain⟨hm,hd,hk,fn,hf',hr⟩:=h;rw[hf]at hf';cases hf';have e:Sem.events P (results f fr.tmps) w #[]=#[]:=by simp[results,ht]
 simp[G,stepG,unwind,doReturn,hm,hd,hk,hf,hr,hi,e,seen,GStep.after]
section
section
variable {s:MS}{r:MR}{x:ah}{b k j:Nat}
def WU(h:j<k)(hw:CF s (r.found j) x):r.found j<=wF s.ws r.found x b k:=by
 induction k with
 |zero=>omega
 |succ k ih=>
  unfold wF;by_cases e:j=k
  ·subst e;split
   ·exact aj1 _
   ·rename_i h1;exact Nat.le_of_not_lt λh2=>h1 ⟨h2,hw.2⟩
  ·have:=ih I;split<;>omega
def Tl(k:Nat):wF s.ws r.found x b k=b\/∃j,j<k/\wF s.ws r.found x b k=r.found j/\CF s (r.found j) x:=by
 induction k with
 |zero=>exact .inl rfl
 |succ k ih=>
  unfold wF;split
  ·rename_i h;exact .inr ⟨k,I,rfl,I,h.2⟩
  ·rcases ih with e|⟨j,h1,h2,h3⟩
   ·exact .inl e
   ·exact .inr ⟨j,I,h2,h3⟩
def OH(hx:r.keys[i]?=Y x)(hf:l7 s r):xB s r x (BF s r i):=by
 have hi:=(List.getElem?_eq_some_iff.1 hx).1;have hk:jK r i=x:=by unfold jK;rw[List.getD_eq_getElem?_getD,hx];rfl
 unfold BF;rw[hk];refine⟨?_,λj y hy hw=>WU (List.getElem?_eq_some_iff.1 hy).1 hw⟩;rcases Tl (s:=s) (r:=r) (x:=x) (b:=r.found i) r.keys.length with e|⟨j,h1,h2,h3⟩
 ·rw[e];by_cases h0:r.found i=0
  ·exact .inl h0
  ·exact .inr ⟨⟨h0,hf i x hx h0⟩,i,x,hx,rfl⟩
 ·rw[h2];exact .inr ⟨h3,j,r.keys[j],zc0 h1,rfl⟩
end
section
variable {s:MS}{r:MR}{x:ah}{n:Nat}
def tO:aN l x=fN (l.map Prod.fst) x:=by
 unfold aN;induction l with
 |nil=>rfl
 |cons y l ih=>simp_all [fN]
def Tm(hC:xB s r x n)(hx:x∈r.keys)(hk:r.keys.Nodup)(h:WO s r x)(hf:kI r x≠0->CF s (kI r x) x):n=kI r x:=by
 rcases hC.one with e|⟨hw,j,y,hy,e⟩
 ·subst e;by_cases h0:kI r x=0
  ·exact h0.symm
  ·obtain⟨j,hj⟩:=am3 hx;have:=hC.top j x hj (by rw[show r.found j=kI r x from by unfold kI;rw[gD hk hj]];exact hf h0);unfold kI at h0⊢;rw[gD hk hj]at h0⊢;omega
 ·have ey:kI r y=n:=by unfold kI;rw[gD hk hy];exact e
  obtain⟨j',hj'⟩:=am3 hx;have ex:kI r x=r.found j':=by unfold kI;rw[gD hk hj']
  have hle:kI r x<=n:=by
   by_cases h0:kI r x=0
   ·omega
   ·have:=hC.top j' x hj' (by rw[<-ex];exact hf h0);omega
  rcases Nat.lt_or_eq_of_le hle with hlt|e'
  ·exfalso;refine h.2 y (am4 hy) ⟨I,.inr (.inr λm hm=>?_)⟩;obtain⟨_,m',hm',hk'⟩:=hw;rw[ey,hm']at hm;cases hm;rw[tO]at hk';exact⟨λ_=>hk',λ_=>EE (mX.1 hk')⟩
  ·exact e'.symm
def Tn(hm:s.mode=1)(hC:xB s r x n)(hk:r.keys.Nodup)(e:n=kI r x)(hf:∀y∈r.keys,kI r y≠0->CF s (kI r y) y):WO s r x:=by
 refine⟨λ⟨_,h2⟩=>by have:=h2.1;omega,λy hy ⟨h1,h2⟩=>?_⟩;rcases h2 with h2|h2|h2
 ·have:=h2.1;omega
 ·omega
 ·obtain⟨h0,m,hm1,hm2⟩:=hf y hy I;have hw:CF s (kI r y) x:=⟨h0,m,hm1,by rw[tO];exact(h2 m hm1).1 hm⟩
  obtain⟨j,hj⟩:=am3 hy;have ey:kI r y=r.found j:=by unfold kI;rw[gD hk hj]
  have:=hC.top j y hj (by rw[<-ey];exact hw);omega
open Classical in
def Tq{ch:ah->Nat}(hC:∀x∈r.keys,xB s r x (ch x))(hk:r.keys.Nodup)(hf:∀y∈r.keys,kI r y≠0->CF s (kI r y) y):r.keys.countP (λx=>decide (ch x≠kI r x))<=pE s r/\(s.mode=1->r.keys.countP (λx=>decide (ch x≠kI r x))=pE s r):=by
 have h1:∀x∈r.keys,ch x≠kI r x->¬WO s r x:=λx hx h e=>h (Tm (hC x hx) hx hk e (hf x hx));refine⟨List.countP_mono_left λx hx h=>?_,λhm=>List.countP_congr λx hx=>?_⟩
 ·simp only[decide_eq_true_eq]at h⊢;exact h1 x hx h
 ·simp only[decide_eq_true_eq];exact⟨h1 x hx,λh e=>h (Tn hm (hC x hx) hk e hf)⟩
def EI:pE s r<=(if (∃y∈r.keys,kI r y≠0)/\1<r.keys.length then r.keys.length else 0):=by
 split
 ·exact List.countP_le_length
 ·rename_i h;rw[Lv]
  ·exact aj1 _
  ·by_cases h1:1<r.keys.length
   ·exact .inr λy hy=>Classical.byContradiction λh0=>h ⟨⟨y,hy,h0⟩,h1⟩
   ·exact .inl I
def LB(hm:s.mode=2):pE s r=(if (∃y∈r.keys,kI r y≠0)/\1<r.keys.length then r.keys.length else 0):=by
 obtain⟨P,m,ws,rs⟩:=s;simp only at hm;subst hm;split
 ·rename_i h;obtain⟨⟨y,hy,h0⟩,hl⟩:=h;exact Ow hl hy h0
 ·rename_i h;exact Nat.le_zero.1 (by have:=EI (s:=⟨P,2,ws,rs⟩) (r:=r);rwa [if_neg h]at this)
end
section
variable {s:MS}{r:MR}
def OI(hk:r.keys.Nodup)(hx:r.keys[k]?=Y x):kI r x=r.found k:=by unfold kI;rw[gD hk hx]
def EJ(hk:r.keys.Nodup):ij r r.keys.length=if (∃y∈r.keys,kI r y≠0)/\1<r.keys.length then r.keys.length else 0:=by
 have key:∀k,k<=r.keys.length->ij r k=if (∃y∈r.keys.take k,kI r y≠0)/\1<r.keys.length then r.keys.length else 0:=λk=>by
  induction k with
  |zero=>intro _;simp[ij]
  |succ k ih=>
   intro hl;have hx:r.keys[k]?=Y r.keys[k]:=zc0 I;have ew:=OI hk hx;have et:(∃y∈r.keys.take (k+1),kI r y≠0)↔(∃y∈r.keys.take k,kI r y≠0)\/0<r.found k:=by
    rw[pI hx];constructor
    ·rintro⟨y,hy,h⟩;rcases List.mem_append.1 hy with hy|hy
     ·exact .inl ⟨y,hy,h⟩
     ·rw[List.mem_singleton.1 hy,ew]at h;exact .inr I
    ·rintro(⟨y,hy,h⟩|h)
     ·exact⟨y,List.mem_append_left _ hy,h⟩
     ·exact⟨_,List.mem_append_right _ (List.mem_singleton.2 rfl),by rw[ew];omega⟩
   have e:ij r (k+1)=if 0<r.found k/\1<r.keys.length then r.keys.length else ij r k:=rfl
   rw[e,ih I];by_cases h1:1<r.keys.length
   ·by_cases h0:0<r.found k
    ·rw[if_pos ⟨h0,h1⟩,if_pos ⟨et.2 (.inr h0),h1⟩]
    ·rw[if_neg (λe=>h0 e.1)];by_cases h2:∃y∈r.keys.take k,kI r y≠0
     ·rw[if_pos ⟨h2,h1⟩,if_pos ⟨et.2 (.inl h2),h1⟩]
     ·rw[if_neg (λe=>h2 e.1),if_neg (λe=>(et.1 e.1).elim h2 h0)]
   ·rw[if_neg (λe=>h1 e.2),if_neg (λe=>h1 e.2),if_neg (λe=>h1 e.2)]
 have:=key _ (aj1 _);rwa [an6]at this
open Classical in
def Tr(hk:r.keys.Nodup):iZ s r r.keys.length=r.keys.countP λx=>decide (BF s r (bC r.keys x)≠kI r x):=by
 have key:∀k,k<=r.keys.length->iZ s r k=(r.keys.take k).countP λx=>decide (BF s r (bC r.keys x)≠kI r x):=λk=>by
  induction k with
  |zero=>intro _;simp[iZ]
  |succ k ih=>
   intro hl;have hx:r.keys[k]?=Y r.keys[k]:=zc0 I;rw[pI hx,List.countP_append,<-ih I];simp only[iZ,List.countP_singleton,OI hk hx,gD hk hx,decide_eq_true_eq];split<;>rename_i e<;>simp[e]
 have:=key _ (aj1 _);rwa [an6]at this
def WV(hk:r.keys.Nodup)(hf:l7 s r):(if s.mode=2 then ij r r.keys.length else iZ s r r.keys.length)<=pE s r/\pE s r<=(if s.mode=1 then iZ s r r.keys.length else ij r r.keys.length):=by
 have hF:∀y∈r.keys,kI r y≠0->CF s (kI r y) y:=λy hy h0=>by obtain⟨j,hj⟩:=am3 hy;rw[OI hk hj]at h0⊢;exact⟨h0,hf j y hj h0⟩
 have hC:∀x∈r.keys,xB s r x (BF s r (bC r.keys x)):=λx hx=>by obtain⟨j,hj⟩:=am3 hx;rw[gD hk hj];exact OH hj hf
 have h1:=Tq hC hk hF;have h2:=EI (s:=s) (r:=r);rw[<-Tr hk]at h1;rw[<-EJ hk]at h2;by_cases m2:s.mode=2
 ·have h3:=LB (r:=r) m2;rw[<-EJ hk]at h3;rw[if_pos m2,if_neg I];omega
 ·rw[if_neg m2];by_cases m1:s.mode=1
  ·rw[if_pos m1];have:=h1.2 m1;omega
  ·rw[if_neg m1];exact⟨h1.1,h2⟩
end
end
section
structure Kp(W w:af):Prop where
 blk:∀k,k<W.heap.size->w.heap[k]?=W.heap[k]?
 size:W.heap.size<=w.heap.size
 out:w.output=W.output
 os:Go.ConcM.OsLater W.os w.os
section
variable {Sb:Nat->Prop}{v v' W W':af}
def j8(h:cK Sb v W)(k:cK Sb v' W):v'.heap=v.heap:=by
 apply an1;intro i;by_cases e:Sb i
 ·obtain⟨c,t,_,h1,h2⟩:=h.gZ i e;obtain⟨c',t',_,k1,k2⟩:=k.gZ i e;rw[h2]at k2;cases k2;rw[h1,k1]
 ·rw[h.same i e,k.same i e]
def OA(h:cK Sb v W)(k:cK Sb v W'):W'.heap=W.heap:=by
 apply an1;intro i;by_cases e:Sb i
 ·obtain⟨c,t,_,h1,h2⟩:=h.gZ i e;obtain⟨c',t',_,k1,k2⟩:=k.gZ i e;rw[h1]at k1;cases k1;rw[h2,k2]
 ·rw[<-h.same i e,k.same i e]
end
section
variable {Q:(Nat->Prop)->ak->List ak->af->Prop}{Sb:Nat->Prop}{fr:ak}{c:List ak}{W:af}
def ku.walk{R:af->ak->List ak->af->Prop}(hn:∀v fr c w,R v fr c w->iY fr c)(h:∀v,cK Sb v W->To prog (R v) fr c v)(hq:∀v fr c w W',cK Sb v W->R v fr c w->cK Sb w W'->ku Q Sb fr c W'):ku Q Sb fr c W:=λcs gs t q d sl hp hC=>by
 refine ku.lone (R:=λfr c u=>∃v w,cK Sb v W/\R v fr c w/\u.heap=w.heap/\u.os=w.os/\u.output=w.output) (λfr c v tp n h=>h) (λtp n=>?_) (λfr c u W' h hs=>?_) cs gs t q d sl hp hC
 ·have h0:=EG hp;have hv:cK Sb (wt (gZ Sb W) tp n) W:=⟨h0.size,h0.same,h0.gZ,h0.os,h0.out⟩
  refine((h _ hv).then λfr c w hr=>To.done ?_).reach λfr c w hr=>?_
  ·exact⟨_,w,hv,hr,rfl,rfl,rfl⟩
  ·obtain⟨_,_,_,hr,_⟩:=hr;exact hn _ _ _ _ hr
 ·obtain⟨v,w,hv,hr,e1,e2,e3⟩:=h;exact hq v fr c w W' hv hr ⟨by rw[<-e1];exact hs.size,λk hk=>by rw[<-e1];exact hs.same k hk,λk hk=>by rw[<-e1];exact hs.gZ k hk,by rw[<-e2];exact hs.os,by rw[<-e3];exact hs.out⟩
end
structure OC(v:af)(τ:Nat->Tag)(aJ b:Nat)(s:MS)(A:SA)(i:Nat)(r:MR)(Sb:Nat->Prop)(ab wg:Nat)(w:af):Prop where
 rep:bB w (fresh τ ab) aJ b (iO s i r) A
 keep:∀k,k<v.heap.size->(τ k).1≠aJ->¬Sb k->w.heap[k]?=v.heap[k]?
 abo:v.heap.size<=ab/\ab<wg/\wg<w.heap.size
 Ks:jX s->∀(j:Nat) (x:ah),r.keys[j]?=Y x->∃(n:Nat) (val:ah),xB s r x n/\N7 ab j x (n:Int) val w/\(n=0->val=⟨#[]⟩)/\∀m,n≠0->s.ws[n-1]?=Y m->gT m.items x=Y val
 blk:∃C,aT w ab C 62/\C.size=r.keys.length*3
 out:w.output=v.output
 os:Go.ConcM.OsLater v.os w.os
section
variable {Q:(Nat->Prop)->ak->List ak->af->Prop}{Sb:Nat->Prop}{W v:af}{τ:Nat->Tag}{aJ b:Nat}{s:MS}{A:SA}
def ku.finishing(hv:cK Sb v W)(h:bB v τ aJ b s A)(n:Int)(hn: -9223372036854775808<=n)(hn':n<=9223372036854775807)(r:MR)(hf:dQ s n=Y r)(ha:ez r=Z6)(hSb:∀k,Sb k->(τ k).1≠aJ)(hnp:∀x∈cl :: c,∀ch,x.mode≠.panicking ch)(hnf:∀u ch,(cl.finish u).mode≠.panicking ch)
 (hq:∀(ab wg:Nat) (W':af),OC v τ aJ b s A (n-1).toNat r Sb ab wg W'->ku Q (λk=>Sb k\/k=wg) (cl.finish (.tuple #[.slice (Y ⟨ab,0,F⟩) r.keys.length r.keys.length,.int .i64 (pE s r:Nat),.int .i64 0])) c W'):
 ku Q Sb (af0 prog 23 #[ptr b,.int .i64 n] .normal) (cl :: c) W:=by
 refine ku.walk (R:=λv'=>CE v' τ aJ b s A (n-1).toNat r Sb (cl :: c)) (λv' fr c' w hA=>?_) (λv' hv'=>?_) (λv' fr c' w W1 hv' hA hw=>?_)
 ·obtain⟨b1,a,ab,ba,bc,wg,ms,cv,fF,rfl,_,_,rfl,⟨b2,a2,rfl,_⟩,_⟩:=hA.ex;intro x hx ch;rcases zc2.1 hx with rfl|hx
  ·simp[Frame.at]
  ·rcases zc2.1 hx with rfl|hx
   ·simp[Frame.at]
   ·exact hnp x hx ch
 ·have e:=j8 hv hv';exact Lz (h.frame λk _ _=>⟨by rw[e],rfl⟩) n hn hn' r hf ha Sb (λk hk=>⟨by rw[hv'.size];exact hv'.lt hk,hSb k hk⟩) _
 ·have e:=j8 hv hv';refine ku.finish hA hw λab ba bc wg ms cv fF H w2 Eo hF hlv hR hS=>?_;rw[H.oY]at hlv;refine ku.walk (R:=λu fr c' w=>fr=cl.finish (.tuple #[.slice (Y ⟨ab,0,F⟩) r.keys.length r.keys.length,.int .i64 (pE s r:Nat),.int .i64 0])/\c'=c/\w=u) (λu fr c' w hr=>?_) (λu hu=>To.leave (hlv _) (Ti hF λfr _ hl=>To.leave hl (To.done ⟨rfl,rfl,rfl⟩))) (λu fr c' w3 W2 hu hr Tj=>?_)
  ·obtain⟨rfl,rfl,rfl⟩:=hr;intro x hx ch;rcases zc2.1 hx with rfl|hx
   ·exact hnf _ ch
   ·exact hnp x (zc1 _ hx) ch
  ·obtain⟨rfl,rfl,rfl⟩:=hr;have e2:=OA hu Tj;have ho:=H.ord;have hg:=H.G9.lt;have hl:=hR.rs.le;have hz:(Ox Sb W1 v').heap.size=v.heap.size:=by rw[lp,e]
   rw[hz]at ho;obtain⟨C,hC,hCz⟩:=H.Ks;obtain⟨C',q1,q2⟩:=hR.rs.sh ab C _ _ (.inl rfl) hC;refine hq ab wg W2 ⟨hR.rep.frame λk _ _=>⟨by rw[e2],rfl⟩,λk hk ht hs=>?_,⟨ho.1,I,by rw[e2];omega⟩,λhca j x hx=>?_,⟨C',by show W2.heap[ab]?=_;rw[e2];exact q1,q2.trans hCz⟩,?_,?_⟩
   ·rw[e2,hR.rs.blk k I (H.fxo I ht hs),<-hw.same k hs,hS.block k (by rw[e];exact hk) ht,e]
   ·obtain⟨m,val,g1,⟨g2,g3,g4⟩,g5⟩:=hR.answers hca hx;have hc:∀p:aA,W2.cell? p=w2.cell? p:=λp=>World.cell?_of_block (by rw[e2]);exact⟨m,val,g1,⟨(hc _).trans g2,(hc _).trans g3,(hc _).trans g4⟩,g5⟩
   ·rw[<-Tj.out,hu.out,hR.kp.2.1,<-hw.out,hS.output,hv'.out,<-hv.out]
   ·have:=hR.kp.2.2;rw[<-hw.os,hS.os,hv'.os,<-hv.os]at this;rw[<-Tj.os,hu.os];exact this
end
structure aaf(f:ay)(W:af)(Sb:Nat->Prop)(fr:ak)(c:List ak)(v:af):Prop where
 nil:c= []
 fn:fr.fn=f
 lv:∀u,fr.leaving prog u (.returned (.bool Z6))
 kp:Kp W v
def OD{f:ay}{fn:Func}{tt:Tmp}{args:Array aj}(hf:prog.funcs[f]?=Y fn)(hr:fn.results=#[.tmp tt])(hi:prog.inits.idxOf? f=F)(hS:AP vi 0 (af0 prog f args .normal) [])(h:ku (aaf f W) (λ_=>False) (af0 prog f args .normal) [] W){Post:aj->af->Prop}(aag:∀w',Kp W w'->Post (.bool Z6) w'):
 ∃N last o w' t',runNT prog (N+1) (solo (G (af0 prog f args .normal) []) W) #[]=(.ended o w',t')/\runN prog N (solo (G (af0 prog f args .normal) []) W)=.next last/\step prog last=.ended o w'/\Conc.Good prog Post last o w' t':=by
 obtain⟨N,Kt,gs',fr',c',W',sl',t',q',d',r1,hE,hp,hC⟩:=h [] _ _ _ 0 F (λb hb=>hb.elim) (EH hS);obtain rfl:=hE.nil;obtain⟨N4,last,o,w4,t4,f1,f2,f3,f4⟩:=Hj (Post:=Post) (x:=.bool Z6) _ d' gs' W' sl' t' q' rfl hC (λm=>⟨Hl (hE.lv _) (by rw[hE.fn];exact hi) (by rw[hE.fn];exact hf) hr,aag _ ⟨hE.kp.blk,hE.kp.size,hE.kp.out,hE.kp.os⟩⟩);refine⟨N+N4,last,o,w4,t4,?_,?_,f3,f4⟩
 ·rw[Nat.add_assoc];exact(mW N _ r1).trans f1
 ·exact(OE _ r1).trans f2
end
end Go.Proofs.YteoahlieielcdaaGreat
