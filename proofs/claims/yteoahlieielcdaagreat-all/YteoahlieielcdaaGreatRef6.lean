import Derived.Test.YteoahlieielcdaaGreatBase
import Derived.Deep.RegionHeld3
set_option linter.all false
set_option maxHeartbeats 1000000
set_option maxRecDepth 100000
open Option renaming some->Y,none->F
open Bool renaming false->E,true->Z6
open List renaming range->ab8,getElem?_append_left->ag1,any_eq_true->ai3,getElem?_map->ai8,getElem?_append_right->am2,mem_of_getElem?->am4,length_append->ao4,range_succ->ao8,getElem_mem->ap0,getElem?_range->ar0,length_singleton->ar2
open Go renaming maxLen->ae0
open Go.Value renaming slice->ar1
open ByteArray renaming empty->aj5
namespace Go.Proofs.YteoahlieielcdaaGreat
open Go.Proofs.Tryz
open Go Go.RowKit
abbrev zat:=@RowKit.Below.heap_setCell
abbrev zau:=@RowKit.Below.heap_alloc
abbrev zav:=@Nat.le_refl
abbrev zaw:=@List.getElem?_eq_getElem
abbrev zax:=@World.cell?_of_block
abbrev zay:=@Nat.zero_le
abbrev zaz:=@List.map_congr_left
abbrev za0:=@List.mem_iff_getElem
variable{w wr w2 w' w1:af}{k nq wb ca i j ga gf cf rb:Nat}{L l a:List ah}{av aa:Option aA}{o:Obj}{iv arr v2:aj}{s:MS}{n:Int}{r r':MR}{key x:ah}{m:MW}{ws:List MW}{f v:Nat->aj}{xs:Nat->List aj}
section
def Rl:(prog.info? 70).map (λi=>(i.zero,i.size,i.bytes))=Y (Y (.agg #[.string aj5,.string aj5]),2,32):=Yl
def Rm:(prog.info? 180).map (λi=>(i.zero,i.size,i.bytes))=Y (Y (.pointer F),1,8):=Yl
section
variable {w:af}{τ:Nat->Tag}{aJ b:Nat}{s:MS}{A:RA}
def Rn{L:List KV}{jU:Nat}{c:Array aj}(hB:Below w.heap.size w wr)(hW:aT wr w.heap.size c 184)
 (hO:wr.ownsRow (w.heap.size+1) 70 2 (.slice av k jU) k (bl (L.take k))) (hG:((wr.drewN nq).alloc o).grownBy w2 (ar1 av k jU).ownBlock):
 aT w2 w.heap.size c 184/\Below w.heap.size w w2:=by
 have hlt:=hW.lt;have hne:∀i,i<=w.heap.size->Y i≠(ar1 av k jU).ownBlock:=λi hi e=>by have:=(aQ hO i e.symm).1;omega
 have kR:∀i,i<=w.heap.size->w2.heap[i]?=wr.heap[i]? :=λi hi=>
  (hG.block i Yn (hne i hi)).trans (zau (wr.drewN nq) o i Yn)
 exact⟨hW.of_eq (kR _ (zav _)),⟨hG.os.trans hB.os,hG.tape.trans hB.tape,hG.output.trans hB.output,Nat.le_trans hB.size (by have:=hG.size;simp at this;omega),λi hi=>(kR i I).trans (hB.block i hi)⟩⟩
def Stp.dg{s:Nat}{τ:Nat->Tag}(h:Below w.heap.size w w'):Stp s τ w τ w':=⟨h.os,h.tape,h.output,h.size,λ_ _=>rfl,λk hk _=>h.block k hk⟩
def bh.frame(h:bh w τ aJ b s A){w':af}{τ':Nat->Tag}(hf:∀k,k<w.heap.size->(τ k).1=aJ->w'.heap[k]?=w.heap[k]? /\τ' k=τ k):bh w' τ' aJ b s A:=by
 have fV:∀{k:Nat} {c:Array aj} {t:az} {g:Nat×Nat},aT w k c t->τ k=(aJ,g)->aT w' k c t/\τ' k=(aJ,g):=by intro k c t g hb ht;obtain⟨e1,e2⟩:=hf k hb.lt (by rw[ht]);exact⟨hb.of_eq e1,e2.trans ht⟩
 have hrow:∀{e:az} {sz:Nat} {v:aj} {n:Nat} {xs:List aj} {g:Nat×Nat},w.ownsRow 0 e sz v n xs->(∀k,v.ownBlock=Y k->τ k=(aJ,g))->w'.ownsRow 0 e sz v n xs/\∀k,v.ownBlock=Y k->τ' k=(aJ,g):=by intro e sz v n xs g ho hv;refine⟨aI ho (λk hk=>(hf k (aQ ho k hk).2 (by rw[hv k hk])).1),λk hk=>?_⟩;rw[(hf k (aQ ho k hk).2 (by rw[hv k hk])).2,hv k hk]
 refine⟨h.ok,(fV h.blk h.tag).1,(fV h.blk h.tag).2,(hrow h.arr h.dc).1,(hrow h.arr h.dc).2,λi m hm=>(fV (h.wr i m hm) (h.cM i (aH hm))).1,λi hi=>?_,λi m hm=>(hrow (h.it i m hm) (λk=>h.cY i k (aH hm))).1,λi k hi hk=>?_,?_⟩
 ·obtain⟨m,hm⟩:∃m,s.ws[i]?=Y m:=⟨_,zaw hi⟩
  exact(fV (h.wr i m hm) (h.cM i hi)).2
 ·obtain⟨m,hm⟩:∃m,s.ws[i]?=Y m:=⟨_,zaw hi⟩
  exact(hrow (h.it i m hm) (λk=>h.cY i k hi)).2 k hk
 ·exact h.reads.frame (λk hk h1 _=>hf k hk h1)
def bh.below(h:bh w τ aJ b s A)(hb:Below w.heap.size w w'):bh w' τ aJ b s A:=h.frame (λk hk _=>⟨hb.block k hk,rfl⟩)
def oD(τ:Nat->Tag)(aJ n wb:Nat)(iv arr:aj):Nat->Tag:=λk=>
 if k=wb then(aJ,2,n)else if iv.ownBlock=Y k then(aJ,3,n)else if arr.ownBlock=Y k then(aJ,1,0)else τ k
def jV(A:RA)(n wb:Nat)(iv arr:aj):RA:=
 {arr:=arr,rv:=A.rv,wb:=λj=>if j=n then wb else A.wb j,iv:=λj=>if j=n then iv else A.iv j,B:=A.B}
def bh.push(h:bh w τ aJ b s A){L:List KV}(Fw:L.length<=8)(I3:∀x∈L,eD x=Z6)(hlen:s.ws.length<200)
 (Oj:w.heap.size<=wb) (hiv:∀k,iv.ownBlock=Y k->w.heap.size<=k/\k≠wb) (xH:∀k,arr.ownBlock=Y k->A.arr.ownBlock=Y k\/(w.heap.size<=k/\k≠wb/\iv.ownBlock≠Y k))
 (hold:∀k,k<w.heap.size->k≠b->A.arr.ownBlock≠Y k->w'.heap[k]?=w.heap[k]?)
 (hb:aT w' b #[.int .i64 s.parts,.int .i64 s.mode,arr,A.rv] 188)
 (ha:w'.ownsRow 0 180 1 arr (s.ws.length+1) ((ab8 s.ws.length).map (λi=>ptr (A.wb i))++ [ptr wb]))
 (hw:aT w' wb (ed iv (jg L)) 184) (hi:w'.ownsRow 0 70 2 iv L.length (bl L)):
 bh w' (oD τ aJ s.ws.length wb iv arr) aJ b {s with ws:=s.ws++ [jg L]} (jV A s.ws.length wb iv arr)/\
  (∀k,k<w.heap.size->oD τ aJ s.ws.length wb iv arr k=τ k):=by
 have gQ:∀k,k<w.heap.size->oD τ aJ s.ws.length wb iv arr k=τ k:=by
  intro k hk;unfold oD;rw[if_neg I,if_neg (λe=>by have:=(hiv k e).1;omega)];split
  ·rename_i e;rcases xH k e with e1|e1
   ·rw[h.dc k e1]
   ·omega
  ·rfl
 have UT:b<w.heap.size:=h.blk.lt
 have hin:∀{i:Nat} {m:MW},(s.ws++ [jg L])[i]?=Y m->(i<s.ws.length/\s.ws[i]?=Y m)\/(i=s.ws.length/\m=jg L):=by
  intro i m hm;by_cases e:i<s.ws.length
  ·rw[ag1 e]at hm;exact Or.inl ⟨e,hm⟩
  ·rw[am2 I]at hm;have hi':=aH hm;simp at hi';have:i=s.ws.length:=I
   subst this;simp at hm;exact Or.inr ⟨rfl,hm.symm⟩
 have hne:∀{k:Nat} {a c:Nat},τ k=(aJ,a,c)->(a≠0)->(a≠1)->k<w.heap.size->w'.heap[k]?=w.heap[k]? :=by
  intro k a c ht h0 h1 hk;refine hold k hk (λe=>?_) (λe=>?_)
  ·rw[e,h.tag]at ht;simp at ht;omega
  ·rw[h.dc k e]at ht;simp at ht;omega
 refine⟨⟨⟨h.ok.p1,h.ok.p4,by simp;omega,λi m hm=>?_,h.ok.keys,h.ok.opn⟩,hb,?_,?_,λk hk=>?_,λi m hm=>?_,λi hi'=>?_,λi m hm=>?_,λi k hi' hk=>?_,h.reads.frame (λk hk h1 h4=>⟨hne (a:=(τ k).2.1) (c:=(τ k).2.2) (by rw[<-h1]) I I hk,gQ k hk⟩)⟩,gQ⟩
 ·rcases hin hm with⟨_,e⟩|⟨_,rfl⟩
  ·exact h.ok.items i m e
  ·exact⟨Fw,I3⟩
 ·rw[gQ b UT,h.tag]
 ·have e:(ab8 (s.ws++ [jg L]).length).map (λi=>ptr ((jV A s.ws.length wb iv arr).wb i))=(ab8 s.ws.length).map (λi=>ptr (A.wb i))++ [ptr wb]:=by
   rw[ao4,ar2,ao8,List.map_append];congr 1
   ·refine zaz (λi hi'=>?_);have:i≠s.ws.length:=by have:=List.mem_range.1 hi';omega
    simp[jV,this]
   ·simp[jV]
  rw[e]
  simpa[jV]using ha
 ·have hk':arr.ownBlock=Y k:=hk
  rcases xH k hk' with e|⟨e1,e2,e3⟩
  ·rw[gQ k (aQ h.arr k e).2,h.dc k e]
  ·unfold oD
   rw[if_neg e2,if_neg e3,if_pos hk']
 ·rcases hin hm with⟨hi',e⟩|⟨rfl,rfl⟩
  ·have hb0:=h.wr i m e
   have:i≠s.ws.length:=I
   simp only[jV,this,if_false]
   exact hb0.of_eq (hne (h.cM i hi') I I hb0.lt)
  ·simpa[jV]using hw
 ·by_cases e:i=s.ws.length
  ·subst e;simp[jV,oD]
  ·have hi2:i<s.ws.length:=by simp at hi';omega
   simp only[jV,e,if_false]
   obtain⟨m,hm⟩:∃m,s.ws[i]?=Y m:=⟨_,zaw hi2⟩
   rw[gQ _ (h.wr i m hm).lt,h.cM i hi2]
 ·rcases hin hm with⟨hi',e⟩|⟨rfl,rfl⟩
  ·have:i≠s.ws.length:=I
   simp only[jV,this,if_false]
   exact aI (h.it i m e) (λk hk=>hne (h.cY i k hi' hk) I I (aQ (h.it i m e) k hk).2)
  ·simpa[jV,jg]using hi
 ·by_cases e:i=s.ws.length
  ·subst e
   simp only[jV,if_true]at hk
   unfold oD
   rw[if_neg (hiv k hk).2,if_pos hk]
  ·have hi2:i<s.ws.length:=by simp at hi';omega
   simp only[jV,e,if_false]at hk
   obtain⟨m,hm⟩:∃m,s.ws[i]?=Y m:=⟨_,zaw hi2⟩
   rw[gQ _ (aQ (h.it i m hm) k hk).2,h.cY i k hi2 hk]
def Ju(h:bh w τ aJ b s A)(xN:A.arr=.slice aa s.ws.length ca)(hG:(w.alloc o).grownBy w2 (ar1 aa s.ws.length ca).ownBlock):
 aT w2 b #[.int .i64 s.parts,.int .i64 s.mode,A.arr,A.rv] 188/\∀k,k<w.heap.size->A.arr.ownBlock≠Y k->w2.heap[k]?=w.heap[k]? :=by
 have kR:∀k,k<w.heap.size->A.arr.ownBlock≠Y k->w2.heap[k]?=w.heap[k]? :=λk hk hne=>
  (hG.block k Yn (λe=>hne (by rw[xN,e]))).trans (zau w o k hk)
 exact⟨h.blk.of_eq (kR b h.blk.lt (λe=>by have:=h.dc b e;rw[h.tag]at this;simp at this)),kR⟩
def M4(h:bh w τ aJ b s A){L:List KV}(hB:Below w.heap.size w wr)(hW:aT wr w.heap.size (ed iv (jg [])) 184)
 (hO:wr.ownsRow (w.heap.size+1) 70 2 iv L.length (bl L)) (Fw:L.length<=8) (I3:∀x∈L,eD x=Z6) (hlen:s.ws.length<200) (xN:A.arr=.slice aa s.ws.length ca) (hG:(wr.alloc o).grownBy w2 (ar1 aa s.ws.length ca).ownBlock)
 (kA:w2.ownsRow 0 180 1 v2 (s.ws.length+1) ((ab8 s.ws.length).map (λi=>ptr (A.wb i))++ [.pointer (Y ⟨w.heap.size,0,F⟩)]))
 (hA:v2.ownBlock=(ar1 aa s.ws.length ca).ownBlock\/v2.ownBlock=Y (wr.alloc o).heap.size):
 ∃τ' A',bh (w2.setCell ⟨b,2,F⟩ v2) τ' aJ b {s with ws:=s.ws++ [jg L]} A'/\Stp aJ τ w τ' (w2.setCell ⟨b,2,F⟩ v2):=by
 have hlt:=hW.lt;have UT:=h.blk.lt;rw[<-xN]at hG hA;have zL:∀k,A.arr.ownBlock=Y k->k<w.heap.size/\τ k=(aJ,1,0):=λk hk=>⟨(aQ h.arr k hk).2,h.dc k hk⟩
 have kR:∀k,k<wr.heap.size->A.arr.ownBlock≠Y k->w2.heap[k]?=wr.heap[k]? :=λk hk hne=>
  (hG.block k Yn (λe=>hne e.symm)).trans (zau wr o k hk)
 have uG:∀k,k≠b->(w2.setCell ⟨b,2,F⟩ v2).heap[k]?=w2.heap[k]? :=λk hk=>zat _ _ _ _ hk;have Ro:∀k,iv.ownBlock=Y k->w.heap.size+1<=k/\k<wr.heap.size:=λk hk=>aQ hO k hk;have FW:A.arr.ownBlock≠Y b:=λe=>by have:=h.dc b e;rw[h.tag]at this;simp at this
 have YQ:aT w2 b #[.int .i64 s.parts,.int .i64 s.mode,A.arr,A.rv] 188:=h.blk.of_eq ((kR b I FW).trans (hB.block b UT));have Q9:∀k,v2.ownBlock=Y k->A.arr.ownBlock=Y k\/(wr.heap.size<k):=λk hk=>by
  rcases hA with e|e
  ·exact Or.inl (by rw[<-e];exact hk)
  ·rw[hk]at e;have:=Option.some.inj e;simp at this;exact Or.inr I
 obtain⟨r1,r2⟩:=h.push (L:=L) (w':=w2.setCell ⟨b,2,F⟩ v2) (wb:=w.heap.size) (iv:=iv) (arr:=v2) Fw I3 hlen (zav _)
  (λk hk=>by have:=Ro k hk;omega)
  (λk hk=>by
    rcases Q9 k hk with e|e
    ·exact Or.inl e
    ·exact Or.inr ⟨I,I,λe'=>by have:=Ro k e';omega⟩)
  (λk hk hkb hka=>(uG k hkb).trans ((kR k I hka).trans (hB.block k hk)))
  (by simpa using YQ.set 2 v2)
  (aI kA (λk hk=>uG k (λe=>by
    subst e;rcases Q9 k hk with e|e
    ·exact FW e
    ·omega)))
  (hW.of_eq ((uG _ I).trans (kR _ hlt (λe=>by have:=(zL _ e).1;omega))))
  (za (aI hO (λk hk=>by have:=Ro k hk;exact(uG k I).trans (kR k I (λe=>by have:=(zL _ e).1;omega)))) (λ_ _=>zay _))
 refine⟨_,_,r1,⟨hG.os.trans hB.os,hG.tape.trans hB.tape,hG.output.trans hB.output,?_,r2,λk hk hs=>?_⟩⟩
 ·have h1:=hG.size;have h2:=hB.size;simp at h1;simp[World.setCell];omega
 ·rw[uG k (λe=>hs (by rw[e,h.tag]))];exact(kR k I (λe=>hs (by rw[h.dc k e]))).trans (hB.block k hk)
def pY(w:af)(τ:Nat->Tag)(aJ b:Nat)(r:Int×Int×MS)(e:Ending)(w':af):Prop:=
 ∃τ' A',e=.returned (.tuple #[.int .i64 r.1,.int .i64 r.2.1])/\bh w' τ' aJ b r.2.2 A'/\Stp aJ τ w τ' w'
def FZ(h:bh w τ aJ b s A)(a:Option aA)(L:List KV)(cap:Nat)(hL:L.length<=ae0)(hs:L.length<1\/8<L.length):
 Calls prog 96 #[ptr b,.slice a L.length cap] w (pY w τ aJ b (dR s L)):=by
 have Hr:Hid (dR s L=(0,3,s)):=by unfold Hid dR;have:eu L=3:=by unfold eu;rw[if_pos hs]
                                  rw[this];simp
 unfold ae0 at hL;unfold ptr;by_cases h1:L.length<1
 ·clear hs;go_enter func96,ntmps96;go_wp2;go_ret2
  rw[Hr.out];exact⟨τ,A,rfl,h,Stp.refl _ _ _⟩
 ·have h2:8<L.length:=I
  clear hs;go_enter func96,ntmps96;go_wp2;go_ret2
  rw[Hr.out];exact⟨τ,A,rfl,h,Stp.refl _ _ _⟩
def F0(h:bh w τ aJ b s A)(ib io:Nat)(L:List KV)(cap:Nat)(h1:1<=L.length)(h8:L.length<=8)(hz:kS L)
 (hcell:∀(k:Nat) (x:KV),L[k]?=Y x->w.cell? ⟨ib,io+k*2,F⟩=Y (.string x.1)/\w.cell? ⟨ib,io+k*2+1,F⟩=Y (.string x.2)) (Xj:ib<w.heap.size):
 Calls prog 96 #[ptr b,.slice (Y ⟨ib,io,F⟩) L.length cap] w (pY w τ aJ b (dR s L)):=by
 have g1:¬L.length<1:=I
 have g2:¬8<L.length:=I
 obtain⟨ii,hi,hz0,Ff,Iq⟩:=info_parts Rl;have HC:Hid (eu L=bK [] L):=by unfold Hid eu;rw[if_neg I]
 unfold ptr;go_enter func96,ntmps96;go_wp2;go_loopw [7] (λu wr=>∃(k:Nat) (iv:aj),k<=L.length/\u=.int .i64 k/\Hid (bK [] L=bK (L.take k) (L.drop k))/\Below w.heap.size w wr/\
  aT wr w.heap.size (ed iv (jg [])) 184/\wr.ownsRow (w.heap.size+1) 70 2 iv k (bl (L.take k))) (λu _=>L.length-(intOf u).toNat)
 case atStart=>
  exact⟨0,.slice F 0 0,zay _,rfl,by simp[Hid],(Below.refl _ _).alloc (zav _) _,aT.new _ _ _,World.ownsRow_nil _ _ _ _⟩
 case round=>
  obtain⟨k,iv,hk,rfl,HK,hB,hW,hO⟩:=hrel;have hsz:w.heap.size<wr.heap.size:=hW.lt;by_cases hlt:k<L.length
  ·have hx:L[k]?=Y L[k]:=zaw hlt;obtain⟨ck,cv⟩:=hcell k _ hx;have S4:=hB.cell (p:=⟨ib,io+k*2,F⟩) Xj;have ZR:=hB.cell (p:=⟨ib,io+k*2+1,F⟩) Xj;rw[ck]at S4;rw[cv]at ZR;clear ck cv;obtain⟨hs1,E4⟩:=hz _ (ap0 hlt);generalize L[k]=x at *;obtain⟨kk,vv⟩:=x;simp only at S4 ZR hs1 E4;have cg:=zJ kk wr hs1;unfold ae0 at hs1 E4;by_cases vH:eD (kk,vv)=E
   ·have Hr:Hid (dR s L=(0,4,s)):=by unfold Hid dR;rw[HC.out,HK.out,qR hx,BW vH];simp
    cases qj:bz kk with
    |false=>
     rw[qj]at cg;clear vH qj hx hcell;go_wp2_with (go_at_call 94;refine cg.mono ?_;rintro e w' ⟨rfl,rfl⟩)
     go_ret2
     rw[Hr.out];exact⟨τ,A,rfl,h.below hB,Stp.dg hB⟩
    |true=>
     have Yq:¬vv.size<=64:=λe=>by simp[eD,qj,e]at vH
     rw[qj]at cg;clear vH qj hx hcell;go_wp2_with (go_at_call 94;refine cg.mono ?_;rintro e w' ⟨rfl,rfl⟩)
     go_ret2
     rw[Hr.out];exact⟨τ,A,rfl,h.below hB,Stp.dg hB⟩
   ·have hg:eD (kk,vv)=Z6:=by simpa using vH
    have hg2:=gl hg;have qj:bz kk=Z6:=by simp[eD]at hg;exact hg.1
    rw[qj]at cg;have Yq:vv.size<=64:=hg2.2.2;go_wp2_with (go_at_call 94;refine cg.mono ?_;rintro e w' ⟨rfl,rfl⟩)
    go_loopw [9] (λu w2=>∃(j nq:Nat),j<=k/\u=.int .i64 j/\w2=w'.drewN nq/\Hid (∀j' x,j'<j->L[j']?=Y x->x.1≠kk)) (λu _=>k-(intOf u).toNat)
    case atStart=>exact⟨0,0,zay _,rfl,rfl,λj' x hj=>I⟩
    case round=>
     obtain⟨j,nq,hj,rfl,rfl,HN⟩:=hrel;by_cases hjk:j<k
     ·have hy:L[j]?=Y L[j]:=zaw I;have cj:=(hB.cell (p:=⟨ib,io+j*2,F⟩) Xj).trans (hcell j _ hy).1;have hyy:L[j]?=Y L[j]:=hy;generalize L[j]=y at *;obtain⟨kj,vj⟩:=y;simp only at cj;have hjL:j<L.length:=I
      by_cases heq:kj=kk
      ·have Hr:Hid (dR s L=(0,5,s)):=by unfold Hid dR;rw[HC.out,HK.out,qR hx,wR hg (wS hjk hy heq)];simp
       have hb:=fj heq;clear heq hy hyy hx hcell;go_wp2_with fail
       go_quiet (fail)
       go_wp2_with fail
       go_ret2
       rw[Hr.out];exact⟨τ,A,rfl,(h.below hB).frame (λ_ _ _=>⟨rfl,rfl⟩),Stp.dg (Below.pV (Below.pV hB _) _)⟩
      ·have HN':Hid (∀j' x,j'<j+1->L[j']?=Y x->x.1≠kk):=by
        intro j' x' hj' hx';by_cases e:j'=j
        ·subst e;rw[hy]at hx';cases hx';exact heq
        ·exact HN.out j' x' I hx'
       have hb:=kQ heq;clear heq hy hyy hx hcell;go_wp2_with fail
       go_quiet (fail)
       go_wp2_with fail
       go_roundw
       case rel=>exact⟨j+1,_,I,by go_num,rfl,HN'⟩
       case measure=>simp[intOf];omega
     ·have hnk:aN (L.take k) kk=E:=Fu (λj' x' hj' hx'=>HN.out j' x' I hx');have Yr:Hid (bK [] L=bK (L.take (k+1)) (L.drop (k+1))):=by unfold Hid;rw[HK.out,qR hx,Ft hg hnk,yt hx]
      have HT:Hid (bl (L.take (k+1))=bl (L.take k)++ [.string kk,.string vv]):=by unfold Hid;rw[yt hx,um]
      clear hcell hx hnk;obtain⟨av,jU,hiv⟩:=bI hO;have c0:w'.cell? ⟨w.heap.size,0,F⟩=Y iv:=hW.cell (o:=0) rfl;have f0:=hW.frozen 0;rw[hiv]at c0 hO;have c0a:∀(o:Obj) (nq:Nat),((w'.drewN nq).alloc o).cell? ⟨w.heap.size,0,F⟩=Y (.slice av k jU):=λo nq=>by rw[zax (w:=w'.drewN nq) (zau (w'.drewN nq) o w.heap.size hsz)];exact c0
      go_wp2_with fail
      go_region_law (refine eN rfl (.tmp 63) (.tmp 68) 68 rfl (w.heap.size+1) 70 ii _ 2 32 underlying68 hi hz0 Ff Iq rfl Yo (.slice av k jU) k (bl (L.take k)) rfl (hO.alloc _) ⟨_,0,F⟩ 1 1 [.string kk,.string vv] rfl rfl (cell_two_new _ _ _ _) (by simp[Value.oneCell']) (by unfold ae0;omega) I Yn ?_;intro v2 w2 kA jm Ie hA2;obtain⟨fG,eH⟩:=Rn hB hW hO jm;have c2:=fG.cell (o:=0) (v:=iv) rfl;rw[hiv]at c2;have f2:=fG.frozen 0;obtain⟨g2,cap2,nW,-⟩:=aZ kA I;rw[nW])
      all_goals
       go_wp2_with fail
       go_roundw
       case rel=>
        refine⟨k+1,_,I,by go_num,Yr,eH.setCell (p:=⟨w.heap.size,0,F⟩) (zav _) _,fG.set 0 _,?_⟩
        rw[HT.out,<-nW]
        exact aI kA (λk' hk'=>zat _ _ _ _ (by have:=(aQ kA k' hk').1;simp only;omega))
       case measure=>simp[intOf];omega
  ·have AO:k=L.length:=I
   have H0:Hid (eu L=0):=by unfold Hid;rw[HC.out,HK.out,AO,List.drop_length];rfl
   have I3:=MD HK.out AO H0.out HC.out;rw[AO,List.take_length]at hO;clear hcell HK HC AO;have hlen:=h.ok.len;have hR:=h.below hB;by_cases hfull:200<=s.ws.length
   ·have Hr:Hid (dR s L=(0,6,s)):=by unfold Hid dR;rw[H0.out];simp[hfull]
    obtain⟨aa,ca,_,cA⟩:=hR.Rp;go_wp2_with fail
    go_ret2
    rw[Hr.out];exact⟨τ,A,rfl,hR,Stp.dg hB⟩
   ·obtain⟨aa,ca,xN,cA⟩:=hR.Rp;have fA:=hR.blk.frozen 2;have UT:b<w.heap.size:=h.blk.lt;obtain⟨pi,hpi,YB,hp1,LD⟩:=info_parts Rm;have Rh:=hR.arr;rw[xN]at Rh;go_wp2_with (at_builtin;refine wpList_append_own_at _ rfl (.tmp 82) (.tmp 84) 185 rfl 0 180 pi _ 1 8 underlying185 hpi YB hp1 LD rfl Yo (.slice aa s.ws.length ca) s.ws.length _ rfl (Rh.alloc _) ⟨_,0,F⟩ 1 1 [.pointer (Y ⟨w.heap.size,0,F⟩)] rfl rfl (cell_one_new _ _ _) (by simp[Value.oneCell']) (by unfold ae0;omega) I (zay _) ?_;intro v2 w2 kA jm Ie hA2;obtain⟨fG,ajh⟩:=Ju hR xN jm;have c2:=fG.cell (o:=2) (v:=A.arr) rfl;rw[xN]at c2;have f2:=fG.frozen 2;obtain⟨g2,cap2,nW,-⟩:=aZ kA I;rw[nW])
    go_ret2
    have Hr:dR s L=((s.ws.length:Int)+1,0,{s with ws:=s.ws++ [jg L]}):=by unfold dR;rw[H0.out];simp only[ne_eq,not_true,if_false,if_neg hfull]
    rw[Hr,<-nW];obtain⟨τ',A',r1,r2⟩:=M4 h hB hW hO h8 I3 I xN jm kA hA2;exact⟨τ',A',rfl,r1,r2⟩
def XV(h:bh w τ aJ b s A)(a:Option aA)(L:List KV)(cap:Nat)(hL:L.length<=ae0)(hz:kS L)(hI:fO w a L):
 Calls prog 96 #[ptr b,.slice a L.length cap] w (pY w τ aJ b (dR s L)):=by
 by_cases hs:L.length<1\/8<L.length
 ·exact FZ h a L cap hL hs
 ·obtain⟨ib,io,rfl,c0,_⟩:=hI 0 L[0] (zaw I);refine F0 h ib io L cap I I hz (λk x hx=>?_) (World.block_lt_of_cell? w _ c0);obtain⟨TS,TT,e,r⟩:=hI k x hx;cases e;exact r
end
end
section
def F1(h:dQ s n=F):n<1\/(s.rs.length:Int)<n\/(1<=n/\n<=s.rs.length/\∃r,s.rs[(n-1).toNat]?=Y r/\r.fin=Z6):=by
 unfold dQ gj at h;split at h
 ·omega
 ·rename_i hb;have hlt:(n-1).toNat<s.rs.length:=I
  rw[zaw hlt]at h;simp only at h;refine Or.inr (Or.inr ⟨I,I,_,zaw hlt,?_⟩);cases hc:s.rs[(n-1).toNat].fin
  ·rw[hc]at h;simp at h
  ·rfl
def gi(h:dQ s n=Y r):1<=n/\n<=s.rs.length/\s.rs[(n-1).toNat]?=Y r/\r.fin=E:=by
 unfold dQ gj at h;split at h
 ·cases h
 ·rename_i hb;have hlt:(n-1).toNat<s.rs.length:=I
  rw[zaw hlt]at h;simp only at h;split at h
  ·cases h
  ·rename_i hc;cases h;exact⟨I,I,zaw hlt,by simpa using hc⟩
def Rq{k:ah}(hi:l[i]?=Y k)(hn:∀j x,j<i->l[j]?=Y x->x≠k):bC l k=i:=by obtain⟨hlt,he⟩:=List.getElem?_eq_some_iff.1 hi;unfold bC;rw[List.findIdx_eq hlt];refine⟨by simpa using he,λj hj=>?_⟩;have:=hn j l[j] hj (zaw I);simpa using this
def Jv{k:ah}(hn:∀j x,j<l.length->l[j]?=Y x->x≠k):¬bC l k<l.length:=by intro h;unfold bC at h;rw[List.findIdx_lt_length]at h;obtain⟨x,hx,he⟩:=h;obtain⟨j,hj,rfl⟩:=za0.1 hx;exact hn j _ hj (zaw hj) (by simpa using he)
section
variable {w:af}{τ:Nat->Tag}{aJ b:Nat}{s:MS}{A:RA}
def bh.Rf(h:bh w τ aJ b s A):∃a cap,A.rv=.slice a s.rs.length cap/\w.cell? ⟨b,3,F⟩=Y (.slice a s.rs.length cap):=by obtain⟨a,cap,hv⟩:=bI h.reads.arr;exact⟨a,cap,hv,by rw[<-hv];exact h.blk.cell (o:=3) rfl⟩
def bh.cRd(h:bh w τ aJ b s A)(hr:s.rs[i]?=Y r):
 ∃g cap,w.cell? ⟨b,3,F⟩=Y (.slice (Y ⟨g,0,F⟩) s.rs.length cap)/\w.cell? ⟨g,i,F⟩=Y (.pointer (Y ⟨A.B.rb i,0,F⟩))/\s.rs.length<=ae0:=by have hi:i<s.rs.length:=aH hr;obtain⟨g,cap,hv,h1,h2,hcell,_⟩:=aZ h.reads.arr I;refine⟨g,cap,by rw[<-hv];exact h.blk.cell (o:=3) rfl,?_,I⟩;rw[hcell i I,ai8,ar0 hi];rfl
def bh.UU(h:bh w τ aJ b s A)(hr:s.rs[i]?=Y r):w.cell? ⟨A.B.rb i,3,F⟩=Y (.bool r.fin):=(h.reads.rd i r hr).cell (o:=3) rfl
def bh.YT(h:bh w τ aJ b s A):s.rs.length<=ae0:=by
 by_cases e:s.rs.length=0
 ·rw[e];exact zay _
 ·obtain⟨r,hr⟩:∃r,s.rs[0]?=Y r:=⟨_,zaw I⟩
  obtain⟨_,_,_,_,hl⟩:=h.cRd hr;exact hl
def zM(h:bh w τ aJ b s A)(n:Int)(hn: -9223372036854775808<=n)(hn':n<=9223372036854775807)(hf:dQ s n=F):
 Calls prog 102 #[ptr b,.int .i64 n] w λe w'=>e=.returned (.pointer F)/\w'=w:=by
 have hlen:=h.YT;unfold ae0 at hlen;unfold ptr;rcases F1 hf with h1|h1|⟨h1,h2,m,hm,hc⟩
 ·go_enter func102,ntmps102;go_wp2;go_ret;exact⟨rfl,rfl⟩
 ·have h3:¬n<1:=I
  obtain⟨a,cap,hv,c2⟩:=h.Rf;clear hv;go_enter func102,ntmps102;go_wp2;go_ret;exact⟨rfl,rfl⟩
 ·have h3:¬n<1:=I
  have h4:¬(s.rs.length:Int)<n:=I
  obtain⟨i,hi⟩:∃i:Nat,n=(i:Int)+1:=⟨(n-1).toNat,I⟩
  subst hi;have hx:((i:Int)+1-1).toNat=i:=I
  rw[hx]at hm;obtain⟨g,cap,c2,ci,_⟩:=h.cRd hm;have c9:=h.UU hm;rw[hc]at c9;clear hf hm hc hx;go_enter func102,ntmps102;go_wp2;go_ret;exact⟨rfl,rfl⟩
def sQ(h:bh w τ aJ b s A)(n:Int)(r:MR)(hf:dQ s n=Y r):
 Calls prog 102 #[ptr b,.int .i64 n] w λe w'=>e=.returned (ptr (A.B.rb (n-1).toNat))/\w'=w:=by
 have hlen:=h.YT;unfold ae0 at hlen;unfold ptr;obtain⟨h1,h2,hm,hc⟩:=gi hf;have h3:¬n<1:=I
 have h4:¬(s.rs.length:Int)<n:=I
 obtain⟨i,hi⟩:∃i:Nat,n=(i:Int)+1:=⟨(n-1).toNat,I⟩
 subst hi;have hx:((i:Int)+1-1).toNat=i:=I
 rw[hx]at hm⊢;obtain⟨g,cap,c2,ci,_⟩:=h.cRd hm;have c9:=h.UU hm;rw[hc]at c9;clear hf hm hc hx;go_enter func102,ntmps102;go_wp2;go_ret;exact⟨rfl,rfl⟩
def valueOf(l:List KV)(key:ah):ah:=match l.find? (λx=>decide (x.1=key))with
 |some x=>x.2
 |none=>aj5
def qT{l:List KV}(h:∀j x,j<l.length->l[j]?=Y x->x.1≠key):valueOf l key=aj5/\aN l key=E:=by
 have h1:l.find? (λx=>decide (x.1=key))=F:=by rw[List.find?_eq_none];intro x hx;obtain⟨j,hj,rfl⟩:=za0.1 hx;simpa using h j _ hj (zaw hj)
 refine⟨by unfold valueOf;rw[h1],?_⟩;simp only[aN,List.any_eq_false,decide_eq_true_eq];rw[List.find?_eq_none]at h1;intro x hx;simpa using h1 x hx
def vL{l:List KV}{x:KV}(hx:l[k]?=Y x)(he:x.1=key)(h:∀j y,j<k->l[j]?=Y y->y.1≠key):valueOf l key=x.2/\aN l key=Z6:=by
 have h1:l.find? (λx=>decide (x.1=key))=Y x:=by obtain⟨hk,rfl⟩:=List.getElem?_eq_some_iff.1 hx;rw[List.find?_eq_some_iff_getElem];refine⟨by simpa using he,k,hk,rfl,λj hj=>?_⟩;simpa using h j _ hj (zaw I)
 refine⟨by unfold valueOf;rw[h1],?_⟩;simp only[aN,ai3,decide_eq_true_eq];exact⟨x,am4 hx,he⟩
def vM(h:bh w τ aJ b s A)(hm:s.ws[i]?=Y m)(key:ah):
 Calls prog 132 #[ptr (A.wb i),.string key] w λe w'=>e=.returned (.tuple #[.string (valueOf m.items key),.bool (aN m.items key)])/\w'=w:=by
 obtain⟨hil,ZW⟩:=h.ok.items i m hm;unfold ptr;by_cases hl:m.items.length=0
 ·obtain⟨a,cap,hv⟩:=bI (h.it i m hm);have c0:w.cell? ⟨A.wb i,0,F⟩=Y (.slice a 0 cap):=by have:=(h.wr i m hm).cell (o:=0) (v:=A.iv i) rfl;rw[hv,hl]at this;exact this
  have Hr:Hid (valueOf m.items key=aj5/\aN m.items key=E):=qT (λj x hj _=>I);clear hv hl hm hil;go_enter func132,ntmps132;go_wp2;refine wp_loop_rounds 1 ?_;rw[rounds_succ];go_wp2;go_ret2
  rw[Hr.out.1,Hr.out.2];exact⟨rfl,rfl⟩
 ·obtain⟨g,cap,c0,hcell⟩:=h.Ri hm I;go_enter func132,ntmps132;go_wp2;go_loop [6] (λu=>∃k:Nat,k<=m.items.length/\u=.int .i64 k/\Hid (∀j y,j<k->m.items[j]?=Y y->y.1≠key)) (λu=>m.items.length-(intOf u).toNat)
  case atStart=>exact⟨0,zay _,rfl,λj y hj=>I⟩
  case round=>
   obtain⟨k,hk,rfl,HO⟩:=hrel;by_cases hlt:k<m.items.length
   ·have hx:m.items[k]?=Y m.items[k]:=zaw hlt;obtain⟨ck,cv⟩:=hcell k _ hx;clear hcell;generalize m.items[k]=x at *;obtain⟨kk,vv⟩:=x;simp only at ck cv;by_cases he:kk=key
    ·have Hr:Hid (valueOf m.items key=vv/\aN m.items key=Z6):=vL hx he HO.out;have hb:=fj he;clear he hx ZW;go_wp2;go_ret2
     rw[Hr.out.1,Hr.out.2];exact⟨rfl,rfl⟩
    ·have yO:Hid (∀j y,j<k+1->m.items[j]?=Y y->y.1≠key):=by
      intro j y hj hy;by_cases e:j=k
      ·subst e;rw[hx]at hy;cases hy;exact he
      ·exact HO.out j y I hy
     have hb:=kQ he;clear he hx ZW;go_wp2;go_round
     case rel=>exact⟨k+1,I,by go_num,yO⟩
     case measure=>simp[intOf];omega
   ·have Hr:Hid (valueOf m.items key=aj5/\aN m.items key=E):=qT (λj x hj=>HO.out j x I);clear hcell;go_wp2;go_ret2
    rw[Hr.out.1,Hr.out.2];exact⟨rfl,rfl⟩
end
end
section
def B7(hm:ws[k]?=Y m)(h1:aN m.items key=Z6)(h2:m.comm (partOf n key).toNat=Z6):jy n ws key (k+1)=k+1:=by simp only[jy,hm];rw[if_pos (by rw[h1,h2];rfl)]
def M5(hm:ws[k]?=Y m)(h1:aN m.items key=E):jy n ws key (k+1)=jy n ws key k:=by simp only[jy,hm];rw[if_neg (by rw[h1];simp)]
def Jw(hm:ws[k]?=Y m)(h2:m.comm (partOf n key).toNat=E):jy n ws key (k+1)=jy n ws key k:=by simp only[jy,hm];rw[if_neg (by rw[h2];simp)]
structure Cd(w w':af):Prop where
 heap:w'.heap=w.heap
 os:w'.os=w.os
 tape:w'.tape=w.tape
 output:w'.output=w.output
def Cd.pS(h:Cd w w')(s:Nat)(τ:Nat->Tag):Stp s τ w τ w':=⟨h.os,h.tape,h.output,by rw[h.heap];exact zav _,λ_ _=>rfl,λk _ _=>by rw[h.heap]⟩
def rP{l:List MR}(hr:l[i]?=Y r)(hf:r'.fin=r.fin):aX (l.set i r')=aX l:=by
 unfold aX;induction l generalizing i with
 |nil=>simp at hr
 |cons x l ih=>
  cases i with
  |zero=>simp at hr;subst hr;simp[List.countP_cons,hf]
  |succ i=>simp at hr;simp[List.countP_cons,ih hr]
section
variable {w:af}{τ:Nat->Tag}{aJ b:Nat}{s:MS}{A:RA}
def F2(h:bh w τ aJ b s A)(key:ah)(hk8:key.size<=8):
 Calls prog 103 #[ptr b,.string key] w λe w'=>e=.returned (.int .i64 (aU s key))/\w'=w:=by
 have hp1:=h.ok.p1;have IV:=h.ok.p4;have hlen:=h.ok.len;have cp:=uF b s.parts key w I I I h.Du;obtain⟨hq0,V5⟩:=iK s.parts key I;obtain⟨q,hq⟩:=Int.eq_ofNat_of_zero_le hq0;obtain⟨a,cap,xN,cA⟩:=h.Rp;have HV:Hid (aU s key=jy s.parts s.ws key s.ws.length):=rfl;have HQ:Hid ((partOf s.parts key).toNat=q):=by unfold Hid;omega
 rw[hq]at cp V5;have hq4:q<4:=I
 clear hq hq0 xN;unfold ptr;go_enter func103,ntmps103;go_wp2_with fail
 refine cp.mono ?_;rintro e w' ⟨rfl,rfl⟩;clear cp;go_wp2_with fail
 go_loop [6] (λu=>∃k:Nat,k<=s.ws.length/\u=.int .i64 k/\Hid (aU s key=jy s.parts s.ws key k)) (λu=>(intOf u).toNat)
 case atStart=>exact⟨s.ws.length,zav _,rfl,HV⟩
 case round=>
  obtain⟨k,hk,rfl,HO⟩:=hrel;cases k with
  |zero=>
   have Hr:Hid (aU s key=0):=HO;go_wp2_with fail
   go_ret;exact⟨gn (by rw[Hr.out];rfl),rfl⟩
  |succ k=>
   have hm:s.ws[k]?=Y s.ws[k]:=zaw hk;generalize s.ws[k]=m at *;obtain⟨g,cap',c2,ci⟩:=h.cAt hm;obtain⟨rfl,rfl⟩:a=Y ⟨g,0,F⟩/\cap=cap':=by have:=cA.symm.trans c2;simpa using this
   clear c2;have cv:=vM h hm key;have cq:=h.Rj hm (q:=q) hq4;unfold ptr at cv;generalize valueOf m.items key=vv at *;cases hh:aN m.items key with
   |false=>
    have yO:Hid (aU s key=jy s.parts s.ws key k):=by unfold Hid;rw[HO.out,M5 hm hh]
    rw[hh]at cv;clear hh hm HO;go_wp2_with fail
    refine cv.mono ?_;rintro e w' ⟨rfl,rfl⟩;clear cv;go_wp2_with fail
    go_round
    case rel=>exact⟨k,I,by go_num,yO⟩
    case measure=>simp[intOf]
   |true=>
    cases hc:m.comm q with
    |false=>
     have yO:Hid (aU s key=jy s.parts s.ws key k):=by unfold Hid;rw[HO.out,Jw hm (by rw[HQ.out];exact hc)]
     rw[hh]at cv;rw[hc]at cq;clear hh hm HO hc;go_wp2_with fail
     refine cv.mono ?_;rintro e w' ⟨rfl,rfl⟩;clear cv;go_wp2_with fail
     go_round
     case rel=>exact⟨k,I,by go_num,yO⟩
     case measure=>simp[intOf]
    |true=>
     have Hr:Hid (aU s key=k+1):=by unfold Hid;rw[HO.out,B7 hm hh (by rw[HQ.out];exact hc)]
     rw[hh]at cv;rw[hc]at cq;clear hh hm HO hc;go_wp2_with fail
     refine cv.mono ?_;rintro e w' ⟨rfl,rfl⟩;clear cv;go_wp2_with fail
     go_ret;exact⟨gn (by rw[Hr.out];omega),rfl⟩
def bh.Rs(h:bh w τ aJ b s A)(hr:s.rs[i]?=Y r):
 ∃gk ck ga ca gf cf,w.cell? ⟨A.B.rb i,0,F⟩=Y (.slice (Y ⟨gk,0,F⟩) r.keys.length ck)/\w.cell? ⟨A.B.rb i,1,F⟩=Y (.slice (Y ⟨ga,0,F⟩) r.keys.length ca)/\w.cell? ⟨A.B.rb i,2,F⟩=Y (.slice (Y ⟨gf,0,F⟩) r.keys.length cf)/\
  A.B.av i=.slice (Y ⟨ga,0,F⟩) r.keys.length ca/\A.B.fv i=.slice (Y ⟨gf,0,F⟩) r.keys.length cf/\
  (∀j x,r.keys[j]?=Y x->w.cell? ⟨gk,j,F⟩=Y (.string x)/\w.cell? ⟨ga,j,F⟩=Y (.bool (r.asked j))/\w.cell? ⟨gf,j,F⟩=Y (.int .i64 (r.found j)))/\
  (∀j,w.frozen? ⟨ga,j,F⟩=E)/\(∀j,w.frozen? ⟨gf,j,F⟩=E):=by
 obtain⟨k1,k2,_⟩:=h.ok.keys i r hr
 obtain⟨gk,ck,YL,_,_,Wq,_⟩:=aZ (h.reads.ks i r hr) I
 obtain⟨ga,ca,M6,_,_,hca,fa⟩:=aZ (h.reads.aq i r hr) I
 obtain⟨gf,cf,Om,_,_,hcf,ff⟩:=aZ (h.reads.fs i r hr) I
 have hb:=h.reads.rd i r hr
 refine⟨gk,ck,ga,ca,gf,cf,by rw[<-YL];exact hb.cell (o:=0) rfl,by rw[<-M6];exact hb.cell (o:=1) rfl,by rw[<-Om];exact hb.cell (o:=2) rfl,M6,Om,λj x hx=>?_,fa,ff⟩
 have hj:=aH hx
 refine⟨?_,?_,?_⟩
 ·rw[Wq j I,ai8,hx];rfl
 ·rw[hca j I,ai8,ar0 hj];rfl
 ·rw[hcf j I,ai8,ar0 hj];rfl
def Ce{n:Nat}{v:aj}:((ab8 n).map f).set j v=(ab8 n).map (λq=>if q=j then v else f q):=by
 apply List.ext_getElem?;intro q;rw[List.getElem?_set,ai8,ai8];by_cases e:j=q
 ·subst e;by_cases h:j<n
  ·simp[h]
  ·simp[h]
 ·by_cases h:q<n
  ·simp[e,h,Ne.symm e]
  ·simp[e,h]
def bh.Wr(h:bh w τ aJ b s A)(hr:s.rs[i]?=Y r)(hk:r'.keys=r.keys)(hf:r'.fin=r.fin)
 (hne:∀k,τ k≠(aJ,7,i)->τ k≠(aJ,8,i)->w'.heap[k]?=w.heap[k]?)
 (ha:w'.ownsRow 0 4 1 (A.B.av i) r.keys.length ((ab8 r.keys.length).map (λj=>.bool (r'.asked j))))
 (hfo:w'.ownsRow 0 3 1 (A.B.fv i) r.keys.length ((ab8 r.keys.length).map (λj=>.int .i64 (r'.found j)))):
 bh w' τ aJ b {s with rs:=s.rs.set i r'} A:=by
 have hi:=aH hr;have hrow:∀{e:az} {sz:Nat} {x:aj} {n:Nat} {xs:List aj} {g:Nat×Nat},w.ownsRow 0 e sz x n xs->(∀k,x.ownBlock=Y k->τ k=(aJ,g))->g≠(7,i)->g≠(8,i)->w'.ownsRow 0 e sz x n xs:=by
  intro e sz x n xs g ho hv g7 g8;refine aI ho (λk hk=>hne k ?_ ?_)
  ·rw[hv k hk];intro e;exact g7 (by injection e)
  ·rw[hv k hk];intro e;exact g8 (by injection e)
 have fV:∀{k:Nat} {c:Array aj} {t:az} {g:Nat×Nat},aT w k c t->τ k=(aJ,g)->g≠(7,i)->g≠(8,i)->aT w' k c t:=by
  intro k c t g hb ht g7 g8;refine hb.of_eq (hne k ?_ ?_)
  ·rw[ht];intro e;exact g7 (by injection e)
  ·rw[ht];intro e;exact g8 (by injection e)
 have hkeys:∀{q:Nat} {rq:MR},(s.rs.set i r')[q]?=Y rq->∃ro,s.rs[q]?=Y ro/\rq.keys=ro.keys/\rq.fin=ro.fin:=by
  intro q rq hq;rcases cS hq with⟨rfl,rfl⟩|⟨_,hq⟩
  ·exact⟨r,hr,hk,hf⟩
  ·exact⟨rq,hq,rfl,rfl⟩
 refine⟨⟨h.ok.p1,h.ok.p4,h.ok.len,h.ok.items,λq rq hq=>?_,?_⟩,fV h.blk h.tag XI XI,h.tag,hrow h.arr h.dc XI XI,h.dc,λq m hm=>fV (h.wr q m hm) (h.cM q (aH hm)) XI XI,h.cM,λq m hm=>hrow (h.it q m hm) (λk=>h.cY q k (aH hm)) XI XI,h.cY,
  ⟨?_,h.reads.dc,λq rq hq=>?_,by simpa using h.reads.eP,λq rq hq=>?_,by simpa using h.reads.w9,λq rq hq=>?_,by simpa using h.reads.oU,λq rq hq=>?_,by simpa using h.reads.oV⟩⟩
 ·obtain⟨ro,ho,e,_⟩:=hkeys hq;rw[e];exact h.ok.keys q ro ho
 ·show aX (s.rs.set i r')<=50;rw[rP hr hf];exact h.ok.opn
 ·simp only[List.length_set];exact hrow h.reads.arr h.reads.dc XI XI
 ·obtain⟨ro,ho,_,e⟩:=hkeys hq;have hb:=fV (h.reads.rd q ro ho) (h.reads.eP q (aH ho)) XI XI;unfold yx at hb⊢;rw[e];exact hb
 ·obtain⟨ro,ho,e,_⟩:=hkeys hq;rw[e];exact hrow (h.reads.ks q ro ho) (λk=>h.reads.w9 q k (aH ho)) XI XI
 ·rcases cS hq with⟨rfl,rfl⟩|⟨ne,hq⟩
  ·rw[hk];exact ha
  ·exact hrow (h.reads.aq q rq hq) (λk=>h.reads.oU q k (aH hq)) Yn XI
 ·rcases cS hq with⟨rfl,rfl⟩|⟨ne,hq⟩
  ·rw[hk];exact hfo
  ·exact hrow (h.reads.fs q rq hq) (λk=>h.reads.oV q k (aH hq)) XI Yn
def bh.acY(h:bh w τ aJ b s A)(hr:s.rs[i]?=Y r)(M6:A.B.av i=.slice (Y ⟨ga,0,F⟩) r.keys.length ca):
 bh (w.setCell ⟨ga,j,F⟩ (.bool Z6)) τ aJ b {s with rs:=s.rs.set i {r with asked:=put r.asked j}} A/\Stp aJ τ w τ (w.setCell ⟨ga,j,F⟩ (.bool Z6)):=by
 have hi:=aH hr;have ta:τ ga=(aJ,7,i):=h.reads.oU i ga hi (by rw[M6];rfl);refine⟨h.Wr (r':={r with asked:=put r.asked j}) hr rfl rfl (λk h7 _=>zat _ _ _ _ (λe=>h7 (by rw[show k=ga from e];exact ta))) ?_ ?_,(Stp.refl aJ τ w).setCell (a:=⟨ga,j,F⟩) (by rw[ta]) _⟩
 ·have h0:=h.reads.aq i r hr;rw[M6]at h0⊢;have h1:=(h0.stored j (.bool Z6)).1;rw[Ce]at h1;refine Eq.mp (congrArg (World.ownsRow _ _ _ _ _ _) ?_) h1;refine zaz (λq _=>?_);simp only[put];split<;>rfl
 ·refine aI (h.reads.fs i r hr) (λk hk=>zat _ _ _ _ (λe=>?_));have tf:=h.reads.oV i k hi hk;rw[show k=ga from e,ta]at tf;simp at tf
def bh.ahx(h:bh w τ aJ b s A)(hr:s.rs[i]?=Y r)(Om:A.B.fv i=.slice (Y ⟨gf,0,F⟩) r.keys.length cf)(v:Nat):
 bh (w.setCell ⟨gf,j,F⟩ (.int .i64 v)) τ aJ b {s with rs:=s.rs.set i {r with found:=λq=>if q=j then v else r.found q}} A/\Stp aJ τ w τ (w.setCell ⟨gf,j,F⟩ (.int .i64 v)):=by
 have hi:=aH hr;have tf:τ gf=(aJ,8,i):=h.reads.oV i gf hi (by rw[Om];rfl);refine⟨h.Wr (r':={r with found:=λq=>if q=j then v else r.found q}) hr rfl rfl (λk _ h8=>zat _ _ _ _ (λe=>h8 (by rw[show k=gf from e];exact tf))) ?_ ?_,(Stp.refl aJ τ w).setCell (a:=⟨gf,j,F⟩) (by rw[tf]) _⟩
 ·refine aI (h.reads.aq i r hr) (λk hk=>zat _ _ _ _ (λe=>?_));have ta:=h.reads.oU i k hi hk;rw[show k=gf from e,tf]at ta;simp at ta
 ·have h0:=h.reads.fs i r hr;rw[Om]at h0⊢;have h1:=(h0.stored j (.int .i64 v)).1;rw[Ce]at h1;refine Eq.mp (congrArg (World.ownsRow _ _ _ _ _ _) ?_) h1;refine zaz (λq _=>?_);simp only;split<;>rfl
def bh.ask(h:bh w τ aJ b s A)(hr:s.rs[i]?=Y r)(M6:A.B.av i=.slice (Y ⟨ga,0,F⟩) r.keys.length ca)(Om:A.B.fv i=.slice (Y ⟨gf,0,F⟩) r.keys.length cf)(v:Nat)(hw1:Cd (w.setCell ⟨ga,j,F⟩ (.bool Z6)) w1):
 bh (w1.setCell ⟨gf,j,F⟩ (.int .i64 v)) τ aJ b {s with rs:=s.rs.set i {r with asked:=put r.asked j,found:=λq=>if q=j then v else r.found q}} A/\
  Stp aJ τ w τ (w1.setCell ⟨gf,j,F⟩ (.int .i64 v)):=by
 obtain⟨h1,s1⟩:=h.acY (j:=j) hr M6
 have h1':bh w1 τ aJ b {s with rs:=s.rs.set i {r with asked:=put r.asked j}} A:=h1.frame (λk _ _=>⟨by rw[hw1.heap],rfl⟩)
 have s1':Stp aJ τ w τ w1:=s1.trans (hw1.pS aJ τ)
 obtain⟨h2,s2⟩:=h1'.ahx (i:=i) (r:={r with asked:=put r.asked j}) (j:=j) (gf:=gf) (cf:=cf) (by simp[aH hr]) Om v
 refine⟨?_,s1'.trans s2⟩
 simpa[List.set_set]using h2
def Ca(hf:dQ s n=F):iP s n key=(7,s):=by unfold iP;rw[hf]
def FK(hf:dQ s n=Y r)(hk:¬bC r.keys key<r.keys.length):iP s n key=(4,s):=by unfold iP;rw[hf];simp only[if_neg hk]
def B9(hf:dQ s n=Y r)(hj:bC r.keys key=j)(hl:j<r.keys.length)(ha:r.asked j=Z6):iP s n key=(10,s):=by unfold iP;rw[hf];simp only[hj,if_pos hl,ha,if_true]
def KY(hf:dQ s n=Y r)(hi:(n-1).toNat=i)(hj:bC r.keys key=j)(hl:j<r.keys.length)(ha:r.asked j=E):
 iP s n key=(0,{s with rs:=s.rs.set i {r with asked:=put r.asked j,found:=λq=>if q=j then aU s key else r.found q}}):=by unfold iP;rw[hf];simp only[hj,if_pos hl,ha,XQ,V6,hi];rfl
def af9(h:bh w τ aJ b s A)(n:Int)(key:ah)(hn: -9223372036854775808<=n)(hn':n<=9223372036854775807):
 Calls prog 64 #[ptr b,.int .i64 n,.string key] w (Fl w τ aJ b A (iP s n key)):=by
 cases hf:dQ s n with
 |none=>
  have Hr:Hid (iP s n key=(7,s)):=Ca hf;have c:=zM h n hn hn' hf;unfold ptr at c⊢;clear hf;go_enter func64,ntmps64;go_wp2_with fail
  refine c.mono ?_;rintro e w' ⟨rfl,rfl⟩;go_wp2_with fail
  go_ret;rw[Hr.out];exact⟨rfl,h,Stp.refl _ _ _⟩
 |some r=>
  obtain⟨h1,h2,hr,hc⟩:=gi hf;have c:=sQ h n r hf;obtain⟨i,hi⟩:∃i,(n-1).toNat=i:=⟨_,rfl⟩
  rw[hi]at c hr;obtain⟨k1,k8,kg,-⟩:=h.ok.keys i r hr;obtain⟨gk,ck,ga,ca,gf,cf,c0,c1,c2,M6,Om,hcell,fa,ff⟩:=h.Rs hr;have H4:Hid (¬bC r.keys key<r.keys.length->iP s n key=(4,s)):=FK hf;have H10:Hid (∀j,bC r.keys key=j->j<r.keys.length->r.asked j=Z6->iP s n key=(10,s)):=λj=>B9 hf;have H0:Hid (∀j,bC r.keys key=j->j<r.keys.length->r.asked j=E->iP s n key=_):=λj=>KY hf hi;have HA:Hid (∀(j v:Nat) (w1:af),Cd (w.setCell ⟨ga,j,F⟩ (.bool Z6)) w1->bh (w1.setCell ⟨gf,j,F⟩ (.int .i64 v)) τ aJ b {s with rs:=s.rs.set i {r with asked:=put r.asked j,found:=λq=>if q=j then v else r.found q}} A/\
   Stp aJ τ w τ (w1.setCell ⟨gf,j,F⟩ (.int .i64 v))):=λj v w1 hw1=>h.ask hr M6 Om v hw1
  have acZ:ga≠gf:=λe=>by have ta:=h.reads.oU i ga (aH hr) (by rw[M6];rfl);have tf:=h.reads.oV i gf (aH hr) (by rw[Om];rfl);rw[e,tf]at ta;simp at ta
  have hrb:A.B.rb i≠ga/\A.B.rb i≠gf/\b≠ga:=by
   have ta:=h.reads.oU i ga (aH hr) (by rw[M6];rfl);have tf:=h.reads.oV i gf (aH hr) (by rw[Om];rfl);have tr:=h.reads.eP i (aH hr);have tb:=h.tag;refine⟨λe=>?_,λe=>?_,λe=>?_⟩
   ·rw[e,ta]at tr;simp at tr
   ·rw[e,tf]at tr;simp at tr
   ·rw[e,ta]at tb;simp at tb
  have HV:Hid (∀(j:Nat) (w1:af),key.size<=8->Cd (w.setCell ⟨ga,j,F⟩ (.bool Z6)) w1->Calls prog 103 #[ptr b,.string key] w1 λe w'=>e=.returned (.int .i64 (aU s key))/\w'=w1):=λj w1 h8 hw1=>
   F2 ((h.acY (j:=j) hr M6).1.frame (w':=w1) (τ':=τ) (λk _ _=>⟨by rw[hw1.heap],rfl⟩)) key h8
  unfold ptr at c⊢;clear hf M6 Om hc;go_enter func64,ntmps64;go_wp2_with fail
  refine c.mono ?_;rintro e w' ⟨rfl,rfl⟩;clear c;go_wp2_with fail
  go_loop [8] (λu=>∃k:Nat,k<=r.keys.length/\u=.int .i64 k/\Hid (∀j x,j<k->r.keys[j]?=Y x->x≠key)) (λu=>r.keys.length-(intOf u).toNat)
  case atStart=>exact⟨0,zay _,rfl,λj x hj=>I⟩
  case round=>
   obtain⟨k,hk,rfl,HO⟩:=hrel;by_cases hlt:k<r.keys.length
   ·have hx:r.keys[k]?=Y r.keys[k]:=zaw hlt;have hg:=jz (kg _ (ap0 hlt));obtain⟨d0,d1,d2⟩:=hcell k _ hx;have fa':=fa k;have ff':=ff k;generalize r.keys[k]=x at *;by_cases he:x=key
    ·have hb:=fj he;have UM:bC r.keys key=k:=Rq (he▸hx) HO.out;cases ha:r.asked k with
     |true=>
      have Hr:Hid (iP s n key=(10,s)):=H10.out k UM hlt ha;rw[ha]at d1;clear he hx hcell fa ff UM ha;go_wp2_with fail
      go_ret;rw[Hr.out];exact⟨rfl,h,Stp.refl _ _ _⟩
     |false=>
      have Hr:=H0.out k UM hlt ha;have Wl:Hid (iP s n key=_):=Hr;rw[ha]at d1;have hs8:key.size<=8:=by rw[<-he];exact hg.2
      have cv:=HV.out k;have hR:=HA.out k;clear he hx hcell fa ff UM ha Hr HA HV H0 H4 H10;go_wp2_with fail
      have hXs:∀X:af,X=w'.setCell ⟨ga,k,F⟩ (.bool Z6)->Cd X X.drew:=λX _=>⟨rfl,rfl,rfl,rfl⟩
      have c2X:(w'.setCell ⟨ga,k,F⟩ (.bool Z6)).cell? ⟨A.B.rb i,2,F⟩=Y (.slice (Y ⟨gf,0,F⟩) r.keys.length cf):=
       (zax (w:=w') (zat _ _ _ _ hrb.1)).trans c2
      have d2X:(w'.setCell ⟨ga,k,F⟩ (.bool Z6)).cell? ⟨gf,k,F⟩=Y (.int .i64 (r.found k)):=
       (zax (w:=w') (zat _ _ _ _ acZ.symm)).trans d2
      have ffX:(w'.setCell ⟨ga,k,F⟩ (.bool Z6)).frozen? ⟨gf,k,F⟩=E:=
       (World.frozen?_of_block (w:=w') (zat _ _ _ _ acZ.symm)).trans ff'
      have cvX:=cv _ hs8 (hXs _ rfl);have hRX:=hR (aU s key) _ (hXs _ rfl);have hs1:(w'.setCell ⟨ga,k,F⟩ (.bool Z6)).heap.size=w'.heap.size:=by simp[World.setCell]
      clear cv hR c2 d2 ff' hXs;generalize w'.setCell ⟨ga,k,F⟩ (.bool Z6)=X at *;unfold ptr at cvX;obtain⟨hn1,hn2,hn3⟩:=hrb;have amm:=hn2.symm;go_region_held3 (λW=>W.cell? ⟨A.B.rb i,2,F⟩=Y (.slice (Y ⟨gf,0,F⟩) r.keys.length cf)) (first|(simp[*];done)|(refine(zax (w:=X) (zat _ _ _ _ hn2)).trans ?_;assumption)) ((go_at_call 103;refine cvX.mono ?_;rintro e w2 ⟨rfl,rfl⟩))
      go_wp2_with fail
      go_ret;rw[Wl.out];exact⟨rfl,hRX.1,hRX.2⟩
    ·have yO:Hid (∀j y,j<k+1->r.keys[j]?=Y y->y≠key):=by
      intro j y hj hy;by_cases e:j=k
      ·subst e;rw[hx]at hy;cases hy;exact he
      ·exact HO.out j y I hy
     have hb:=kQ he;clear he hx hcell fa ff;go_wp2_with fail
     go_round
     case rel=>exact⟨k+1,I,by go_num,yO⟩
     case measure=>simp[intOf];omega
   ·have Hr:Hid (iP s n key=(4,s)):=H4.out (Jv (λj x hj=>HO.out j x I));clear hcell fa ff;go_wp2_with fail
    go_ret;rw[Hr.out];exact⟨rfl,h,Stp.refl _ _ _⟩
end
end
section
def uf:(prog.info? 9).map (λi=>(i.zero,i.size,i.bytes))=Y (Y (.string aj5),1,16):=Yl
def Re:(prog.info? 4).map (λi=>(i.zero,i.size,i.bytes))=Y (Y (.bool E),1,1):=Yl
def C4:(prog.info? 3).map (λi=>(i.zero,i.size,i.bytes))=Y (Y (.int .i64 0),1,8):=Yl
def Rg:(prog.info? 191).map (λi=>(i.zero,i.size,i.bytes))=Y (Y (.pointer F),1,8):=Yl
def KX{r:List ah}(h:bz x=E):dO a (x :: r)=4:=by simp[dO,h]
def B5{r:List ah}(h:bz x=Z6)(h2:fN a x=Z6):dO a (x :: r)=5:=by simp[dO,h,h2]
def QN{r:List ah}(h:bz x=Z6)(h2:fN a x=E):dO a (x :: r)=dO (a++ [x]) r:=by simp[dO,h,h2]
def mX:fN l x=Z6↔x∈l:=by simp only[fN,ai3,decide_eq_true_eq];exact⟨λ⟨y,hy,e⟩=>e▸hy,λh=>⟨x,h,rfl⟩⟩
def FP{r:List ah}:∀{a:List ah},dO a r=0->(∀x∈r,bz x=Z6/\x ∉ a)/\r.Nodup:=by
 induction r with
 |nil=>intro a _;exact⟨λx hx=>by simp at hx,List.nodup_nil⟩
 |cons y r ih=>
  intro a h;simp only[dO]at h;split at h
  ·cases h
  ·rename_i hg;split at h
   ·cases h
   ·rename_i hn;obtain⟨h1,h2⟩:=ih h;have hya:y ∉ a:=λe=>hn (mX.2 e);refine⟨λx hx=>?_,List.nodup_cons.2 ⟨λe=>(h1 y e).2 XI,h2⟩⟩;rcases List.mem_cons.1 hx with rfl|hx
    ·exact⟨by simpa using hg,hya⟩
    ·exact⟨(h1 x hx).1,λe=>(h1 x hx).2 (List.mem_append_left _ e)⟩
def nC(h:L[k]?=Y x):L.drop k=x :: L.drop (k+1):=by obtain⟨hk,rfl⟩:=List.getElem?_eq_some_iff.1 h;exact List.drop_eq_getElem_cons hk
def pI(h:L[k]?=Y x):L.take (k+1)=L.take k++ [x]:=by obtain⟨hk,rfl⟩:=List.getElem?_eq_some_iff.1 h;exact List.take_succ_eq_append_getElem hk
def sE(h:∀j x,j<k->L[j]?=Y x->x≠key):fN (L.take k) key=E:=by
 cases hh:fN (L.take k) key
 ·rfl
 ·have hx:=mX.1 hh;obtain⟨j,hj,he⟩:=za0.1 hx;simp only[List.length_take]at hj;refine absurd ?_ (h j key I ?_)
  ·rfl
  ·rw[List.getElem_take]at he;rw[<-he];exact zaw I
def sD(hj:j<k)(hx:L[j]?=Y x)(h:x=key):fN (L.take k) key=Z6:=by
 refine mX.2 ?_;have:(L.take k)[j]?=Y x:=by rw[List.getElem?_take_of_lt hj];exact hx
 rw[<-h];exact am4 this
section
variable {w:af}{τ:Nat->Tag}{aJ b:Nat}{s:MS}{A:RA}
def iF(τ:Nat->Tag)(aJ n rb:Nat)(kv av fv arr:aj):Nat->Tag:=λk=>
 if k=rb then(aJ,5,n)else if kv.ownBlock=Y k then(aJ,6,n)else if av.ownBlock=Y k then(aJ,7,n)else if fv.ownBlock=Y k then(aJ,8,n)else if arr.ownBlock=Y k then(aJ,4,0)else τ k
def dP(A:RA)(n rb:Nat)(kv av fv arr:aj):RA:=
 {A with rv:=arr,B:={rb:=λj=>if j=n then rb else A.B.rb j,kv:=λj=>if j=n then kv else A.B.kv j,av:=λj=>if j=n then av else A.B.av j,fv:=λj=>if j=n then fv else A.B.fv j}}
def bh.Q3(h:bh w τ aJ b s A)(Ht:1<=L.length)(Fw:L.length<=8)(I3:∀x∈L,bz x=Z6)(hnd:L.Nodup)(hop:aX s.rs<50){kv av fv:aj}
 (hrb:w.heap.size<=rb) (hkv:∀k,kv.ownBlock=Y k->w.heap.size<=k/\k≠rb) (xN:∀k,av.ownBlock=Y k->w.heap.size<=k/\k≠rb/\kv.ownBlock≠Y k) (aP:∀k,fv.ownBlock=Y k->w.heap.size<=k/\k≠rb/\kv.ownBlock≠Y k/\av.ownBlock≠Y k)
 (xH:∀k,arr.ownBlock=Y k->A.rv.ownBlock=Y k\/(w.heap.size<=k/\k≠rb/\kv.ownBlock≠Y k/\av.ownBlock≠Y k/\fv.ownBlock≠Y k))
 (hold:∀k,k<w.heap.size->k≠b->A.rv.ownBlock≠Y k->w'.heap[k]?=w.heap[k]?)
 (hb:aT w' b #[.int .i64 s.parts,.int .i64 s.mode,A.arr,arr] 188)
 (ha:w'.ownsRow 0 191 1 arr (s.rs.length+1) ((ab8 s.rs.length).map (λi=>ptr (A.B.rb i))++ [ptr rb]))
 (hr:aT w' rb #[kv,av,fv,.bool E] 195) (hk:w'.ownsRow 0 9 1 kv L.length (L.map .string))
 (hq:w'.ownsRow 0 4 1 av L.length ((ab8 L.length).map (λ_=>.bool E))) (hf:w'.ownsRow 0 3 1 fv L.length ((ab8 L.length).map (λ_=>.int .i64 0))):
 bh w' (iF τ aJ s.rs.length rb kv av fv arr) aJ b {s with rs:=s.rs++ [dJ L]} (dP A s.rs.length rb kv av fv arr)/\
  (∀k,k<w.heap.size->iF τ aJ s.rs.length rb kv av fv arr k=τ k):=by
 have gQ:∀k,k<w.heap.size->iF τ aJ s.rs.length rb kv av fv arr k=τ k:=by
  intro k hk;unfold iF;rw[if_neg I,if_neg (λe=>by have:=(hkv k e).1;omega),if_neg (λe=>by have:=(xN k e).1;omega),if_neg (λe=>by have:=(aP k e).1;omega)];split
  ·rename_i e;rcases xH k e with e1|e1
   ·rw[h.reads.dc k e1]
   ·omega
  ·rfl
 have UT:b<w.heap.size:=h.blk.lt
 have hin:∀{i:Nat} {r:MR},(s.rs++ [dJ L])[i]?=Y r->(i<s.rs.length/\s.rs[i]?=Y r)\/(i=s.rs.length/\r=dJ L):=by
  intro i r hm;by_cases e:i<s.rs.length
  ·rw[ag1 e]at hm;exact Or.inl ⟨e,hm⟩
  ·rw[am2 I]at hm;have hi':=aH hm;simp at hi';have:i=s.rs.length:=I
   subst this;simp at hm;exact Or.inr ⟨rfl,hm.symm⟩
 have hne:∀{k:Nat} {a c:Nat},τ k=(aJ,a,c)->(a≠0)->(a≠4)->k<w.heap.size->w'.heap[k]?=w.heap[k]? :=by
  intro k a c ht h0 h1 hk;refine hold k hk (λe=>?_) (λe=>?_)
  ·rw[e,h.tag]at ht;simp at ht;omega
  ·rw[h.reads.dc k e]at ht;simp at ht;omega
 have fV:∀{k:Nat} {c:Array aj} {t:az} {a g:Nat},a≠0->a≠4->aT w k c t->τ k=(aJ,a,g)->aT w' k c t/\iF τ aJ s.rs.length rb kv av fv arr k=(aJ,a,g):=by intro k c t a g h0 h4 hb ht;exact⟨hb.of_eq (hne ht h0 h4 hb.lt),(gQ k hb.lt).trans ht⟩
 have hrow:∀{e:az} {sz:Nat} {v:aj} {n:Nat} {xs:List aj} {a g:Nat},a≠0->a≠4->w.ownsRow 0 e sz v n xs->(∀k,v.ownBlock=Y k->τ k=(aJ,a,g))->w'.ownsRow 0 e sz v n xs/\∀k,v.ownBlock=Y k->iF τ aJ s.rs.length rb kv av fv arr k=(aJ,a,g):=by intro e sz v n xs a g h0 h4 ho hv;exact⟨aI ho (λk hk=>hne (hv k hk) h0 h4 (aQ ho k hk).2),λk hk=>(gQ k (aQ ho k hk).2).trans (hv k hk)⟩
 have hat:∀{i:Nat},i<s.rs.length->∃r,s.rs[i]?=Y r:=λhi=>⟨_,zaw hi⟩
 have uH:∀{i:Nat},i< (s.rs++ [dJ L]).length->i≠s.rs.length->i<s.rs.length:=by intro i h1 h2;simp at h1;omega
 refine⟨⟨⟨h.ok.p1,h.ok.p4,h.ok.len,h.ok.items,λi r hm=>?_,?_⟩,hb,?_,(hrow I I h.arr h.dc).1,(hrow I I h.arr h.dc).2,λi m hm=>(fV I I (h.wr i m hm) (h.cM i (aH hm))).1,λi hi=>?_,λi m hm=>(hrow I I (h.it i m hm) (λk=>h.cY i k (aH hm))).1,λi k hi=>?_,
  ⟨?_,λk hk'=>?_,λi r hm=>?_,λi hi=>?_,λi r hm=>?_,λi k hi hk'=>?_,λi r hm=>?_,λi k hi hk'=>?_,λi r hm=>?_,λi k hi hk'=>?_⟩⟩,gQ⟩
 ·rcases hin hm with⟨_,e⟩|⟨_,rfl⟩
  ·exact h.ok.keys i r e
  ·exact⟨Ht,Fw,I3,hnd⟩
 ·have:aX (s.rs++ [dJ L])=aX s.rs+1:=by simp[aX,dJ]
  show aX (s.rs++ [dJ L])<=50
  omega
 ·rw[gQ b UT,h.tag]
 ·obtain⟨m,hm⟩:∃m,s.ws[i]?=Y m:=⟨_,zaw hi⟩
  exact(fV I I (h.wr i m hm) (h.cM i hi)).2
 ·obtain⟨m,hm⟩:∃m,s.ws[i]?=Y m:=⟨_,zaw hi⟩
  exact(hrow I I (h.it i m hm) (λk=>h.cY i k hi)).2 k
 ·have e:(ab8 (s.rs++ [dJ L]).length).map (λi=>ptr ((dP A s.rs.length rb kv av fv arr).B.rb i))=(ab8 s.rs.length).map (λi=>ptr (A.B.rb i))++ [ptr rb]:=by
   rw[ao4,ar2,ao8,List.map_append];congr 1
   ·refine zaz (λi hi'=>?_);have:i≠s.rs.length:=by have:=List.mem_range.1 hi';omega
    simp[dP,this]
   ·simp[dP]
  show w'.ownsRow 0 _ 1 _ (s.rs++ [dJ L]).length _
  rw[e]
  simpa[dP]using ha
 ·have hk2:arr.ownBlock=Y k:=hk'
  rcases xH k hk2 with e|⟨e1,e2,e3,e4,e5⟩
  ·rw[gQ k (aQ h.reads.arr k e).2,h.reads.dc k e]
  ·unfold iF
   rw[if_neg e2,if_neg e3,if_neg e4,if_neg e5,if_pos hk2]
 ·rcases hin hm with⟨hi',e⟩|⟨rfl,rfl⟩
  ·have:i≠s.rs.length:=I
   have hb0:=(fV I I (h.reads.rd i r e) (h.reads.eP i hi')).1
   simpa[dP,yx,this]using hb0
  ·simpa[dP,yx,dJ]using hr
 ·by_cases e:i=s.rs.length
  ·subst e;simp[dP,iF]
  ·have hi2:=uH hi e
   obtain⟨r,hr'⟩:=hat hi2
   have:=(fV I I (h.reads.rd i r hr') (h.reads.eP i hi2)).2
   simpa[dP,e]using this
 ·rcases hin hm with⟨hi',e⟩|⟨rfl,rfl⟩
  ·have:i≠s.rs.length:=I
   simp only[dP,this,if_false]
   exact(hrow I I (h.reads.ks i r e) (λk=>h.reads.w9 i k hi')).1
  ·simpa[dP,dJ]using hk
 ·by_cases e:i=s.rs.length
  ·subst e
   simp only[dP,if_true]at hk'
   unfold iF
   rw[if_neg (hkv k hk').2,if_pos hk']
  ·have hi2:=uH hi e
   simp only[dP,e,if_false]at hk'
   obtain⟨r,hr'⟩:=hat hi2
   exact(hrow I I (h.reads.ks i r hr') (λk=>h.reads.w9 i k hi2)).2 k hk'
 ·rcases hin hm with⟨hi',e⟩|⟨rfl,rfl⟩
  ·have:i≠s.rs.length:=I
   simp only[dP,this,if_false]
   exact(hrow I I (h.reads.aq i r e) (λk=>h.reads.oU i k hi')).1
  ·simpa[dP,dJ]using hq
 ·by_cases e:i=s.rs.length
  ·subst e
   simp only[dP,if_true]at hk'
   unfold iF
   rw[if_neg (xN k hk').2.1,if_neg (xN k hk').2.2,if_pos hk']
  ·have hi2:=uH hi e
   simp only[dP,e,if_false]at hk'
   obtain⟨r,hr'⟩:=hat hi2
   exact(hrow I I (h.reads.aq i r hr') (λk=>h.reads.oU i k hi2)).2 k hk'
 ·rcases hin hm with⟨hi',e⟩|⟨rfl,rfl⟩
  ·have:i≠s.rs.length:=I
   simp only[dP,this,if_false]
   exact(hrow I I (h.reads.fs i r e) (λk=>h.reads.oV i k hi')).1
  ·simpa[dP,dJ]using hf
 ·by_cases e:i=s.rs.length
  ·subst e
   simp only[dP,if_true]at hk'
   unfold iF
   rw[if_neg (aP k hk').2.1,if_neg (aP k hk').2.2.1,if_neg (aP k hk').2.2.2,if_pos hk']
  ·have hi2:=uH hi e
   simp only[dP,e,if_false]at hk'
   obtain⟨r,hr'⟩:=hat hi2
   exact(hrow I I (h.reads.fs i r hr') (λk=>h.reads.oV i k hi2)).2 k hk'
def YR(j:Nat):az:=if j=0 then 9 else if j=1 then 4 else 3
structure RD(w wr:af)(v:Nat->aj)(xs:Nat->List aj):Prop where
 below:Below w.heap.size w wr
 blk:aT wr w.heap.size #[v 0,v 1,v 2,.bool E] 195
 row:∀j,j<3->wr.ownsRow (w.heap.size+1) (YR j) 1 (v j) (xs j).length (xs j)
 Dt:∀i j g,i<3->j<3->i≠j->(v i).ownBlock=Y g->(v j).ownBlock≠Y g
def RD.after(h:RD w wr v xs)(hj:j<3)(hG:((wr.drewN nq).alloc o).grownBy w2 (v j).ownBlock):
 aT w2 w.heap.size #[v 0,v 1,v 2,.bool E] 195/\Below w.heap.size w w2:=by
 have hlt:=h.blk.lt;have hne:∀i,i<=w.heap.size->Y i≠(v j).ownBlock:=λi hi e=>by have:=(aQ (h.row j hj) i e.symm).1;omega
 have kR:∀i,i<=w.heap.size->w2.heap[i]?=wr.heap[i]? :=λi hi=>
  (hG.block i Yn (hne i hi)).trans (zau (wr.drewN nq) o i Yn)
 exact⟨h.blk.of_eq (kR _ (zav _)),⟨hG.os.trans h.below.os,hG.tape.trans h.below.tape,hG.output.trans h.below.output,Nat.le_trans h.below.size (by have:=hG.size;simp at this;omega),λi hi=>(kR i I).trans (h.below.block i hi)⟩⟩
def RD.push(h:RD w wr v xs)(hj:j<3){x:aj}(hG:((wr.drewN nq).alloc o).grownBy w2 (v j).ownBlock)
 (hO:w2.ownsRow (w.heap.size+1) (YR j) 1 v2 ((xs j).length+1) (xs j++ [x])) (hA:v2.ownBlock=(v j).ownBlock\/v2.ownBlock=Y ((wr.drewN nq).alloc o).heap.size):
 RD w (w2.setCell ⟨w.heap.size,j,F⟩ v2) (λi=>if i=j then v2 else v i) (λi=>if i=j then xs j++ [x]else xs i):=by
 obtain⟨hb,hB⟩:=h.after hj hG;have uG:∀k,k≠w.heap.size->(w2.setCell ⟨w.heap.size,j,F⟩ v2).heap[k]?=w2.heap[k]? :=λk hk=>zat _ _ _ _ hk;have hold:∀i,i<3->i≠j->∀k,(v i).ownBlock=Y k->w2.heap[k]?=wr.heap[k]? :=λi hi hij k hk=>by have h1:=(aQ (h.row i hi) k hk).2;refine(hG.block k Yn (λe=>?_)).trans (zau (wr.drewN nq) o k Yn);exact h.Dt i j k hi hj hij hk e.symm
 have nW:∀i g,i<3->i≠j->(v i).ownBlock=Y g->v2.ownBlock≠Y g:=λi g hi hij hg e=>by
  rcases hA with e1|e1
  ·exact h.Dt i j g hi hj hij hg (by rw[<-e1];exact e)
  ·rw[e]at e1;have h1:=(aQ (h.row i hi) g hg).2;have:=Option.some.inj e1;simp at this;omega
 refine⟨hB.setCell (p:=⟨w.heap.size,j,F⟩) (zav _) _,?_,λi hi=>?_,λi i' g hi hi' hne hg=>?_⟩
 ·have hs:=hb.set j v2;match j,hj with
  | 0,_=>simpa using hs
  | 1,_=>simpa using hs
  | 2,_=>simpa using hs
 ·by_cases e:i=j
  ·subst e;simp only[if_true,ao4,ar2];exact aI hO (λk hk=>uG k (λe=>by have:=(aQ hO k hk).1;omega))
  ·simp only[e,if_false];exact aI (h.row i hi) (λk hk=>(uG k (λe=>by have:=(aQ (h.row i hi) k hk).1;omega)).trans (hold i hi e k hk))
 ·by_cases e:i=j
  ·subst e;simp only[if_true]at hg;simp only[Ne.symm hne,if_false];exact λe2=>nW i' g hi' (Ne.symm hne) e2 hg
  ·simp only[e,if_false]at hg;by_cases e':i'=j
   ·subst e';simp only[if_true];exact nW i g hi e hg
   ·simp only[e',if_false];exact h.Dt i i' g hi hi' hne hg
end
end
end Go.Proofs.YteoahlieielcdaaGreat
