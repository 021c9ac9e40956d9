import Derived.Test.YteoahlieielcdaaGreatRef6
import Derived.Deep.Cut
set_option linter.all false
set_option maxHeartbeats 2000000
set_option maxRecDepth 100000
open Option renaming some->Y,none->F
open Bool renaming false->E,true->Z6
open List renaming range->ab8,range_succ->ao8
open Go renaming maxLen->ae0,wpList_append_own_at->ai4,info_parts->aj4,cell_one_new->ao9
open Go.Value renaming oneCell'->ai9,slice->ar1
namespace Go.Proofs.YteoahlieielcdaaGreat
open Go.Proofs.Tryz
open Go Go.RowKit
abbrev za1:=@List.getElem?_eq_getElem
abbrev za2:=@Nat.zero_le
variable{k ca k0 k1 k2 j nq:Nat}{wr w2:af}{v:Nat->aj}{v2:aj}{L:List ah}{aa:Option aA}{o:Obj}{x y:ah}
section
def fo(w:af)(a:Option aA)(L:List ah):Prop:=
 ∀(k:Nat) (x:ah),L[k]?=Y x->∃ib io,a=Y ⟨ib,io,F⟩/\w.cell? ⟨ib,io+k,F⟩=Y (.string x)
def pZ(L:List ah):Prop:=∀x∈L,x.size<=ae0
section
variable {w:af}{τ:Nat->Tag}{aJ b:Nat}{s:MS}{A:RA}
def zK{l:List MR}{r:MR}(h:l[k]?=Y r):aX (l.take (k+1))=aX (l.take k)+(if r.fin then 0 else 1):=by obtain⟨hk,rfl⟩:=List.getElem?_eq_some_iff.1 h;rw[List.take_succ_eq_append_getElem hk];unfold aX;rw[List.countP_append,List.countP_singleton];cases l[k].fin<;>simp
def Ds(l:List MR):aX l<=l.length:=List.countP_le_length
def Jl(h:bh w τ aJ b s A){xs:Nat->List aj}(hD:RD w wr v xs)(hx0:xs 0=L.map .string)(hx1:xs 1=(ab8 L.length).map (λ_=>.bool E))(Pv:xs 2=(ab8 L.length).map (λ_=>.int .i64 0))
 (Ht:1<=L.length) (Fw:L.length<=8) (I3:∀x∈L,bz x=Z6) (hnd:L.Nodup) (hop:aX s.rs<50) (xN:A.rv=.slice aa s.rs.length ca) (hG:(wr.alloc o).grownBy w2 (ar1 aa s.rs.length ca).ownBlock)
 (kA:w2.ownsRow 0 191 1 v2 (s.rs.length+1) ((ab8 s.rs.length).map (λi=>ptr (A.B.rb i))++ [.pointer (Y ⟨w.heap.size,0,F⟩)]))
 (hA:v2.ownBlock=(ar1 aa s.rs.length ca).ownBlock\/v2.ownBlock=Y (wr.alloc o).heap.size):
 ∃τ' A',bh (w2.setCell ⟨b,3,F⟩ v2) τ' aJ b {s with rs:=s.rs++ [dJ L]} A'/\Stp aJ τ w τ' (w2.setCell ⟨b,3,F⟩ v2):=by
 have hB:=hD.below;have hW:=hD.blk;have hlt:=hW.lt;have UT:=h.blk.lt;rw[<-xN]at hG hA;have zL:∀k,A.rv.ownBlock=Y k->k<w.heap.size/\τ k=(aJ,4,0):=λk hk=>⟨(aQ h.reads.arr k hk).2,h.reads.dc k hk⟩
 have kR:∀k,k<wr.heap.size->A.rv.ownBlock≠Y k->w2.heap[k]?=wr.heap[k]? :=λk hk hne=>
  (hG.block k Yn (λe=>hne e.symm)).trans (Below.heap_alloc wr o k hk)
 have uG:∀k,k≠b->(w2.setCell ⟨b,3,F⟩ v2).heap[k]?=w2.heap[k]? :=λk hk=>Below.heap_setCell _ _ _ _ hk;have Jn:∀j k,j<3->(v j).ownBlock=Y k->w.heap.size+1<=k/\k<wr.heap.size:=λj k hj hk=>aQ (hD.row j hj) k hk;have FW:A.rv.ownBlock≠Y b:=λe=>by have:=h.reads.dc b e;rw[h.tag]at this;simp at this
 have YQ:aT w2 b #[.int .i64 s.parts,.int .i64 s.mode,A.arr,A.rv] 188:=h.blk.of_eq ((kR b I FW).trans (hB.block b UT));have Q9:∀k,v2.ownBlock=Y k->A.rv.ownBlock=Y k\/(wr.heap.size<k\/wr.heap.size<=k):=λk hk=>by
  rcases hA with e|e
  ·exact Or.inl (by rw[<-e];exact hk)
  ·rw[hk]at e;have:=Option.some.inj e;simp at this;exact Or.inr (Or.inr I)
 have hrow:∀{j:Nat} {n:Nat} {ys:List aj} {t:az},j<3->YR j=t->xs j=ys->ys.length=n->(w2.setCell ⟨b,3,F⟩ v2).ownsRow 0 t 1 (v j) n ys:=by
  intro j n ys t hj ht hx hn;have hO:=hD.row j hj;rw[ht,hx,hn]at hO;exact za (aI hO (λk hk=>by have:=Jn j k hj hk;exact(uG k I).trans (kR k I (λe=>by have:=(zL _ e).1;omega)))) (λ_ _=>za2 _)
 obtain⟨r1,r2⟩:=h.Q3 (L:=L) (w':=w2.setCell ⟨b,3,F⟩ v2) (rb:=w.heap.size) (kv:=v 0) (av:=v 1) (fv:=v 2) (arr:=v2) Ht Fw I3 hnd hop (Nat.le_refl _)
  (λk hk=>by have:=Jn 0 k I hk;omega)
  (λk hk=>by have:=Jn 1 k I hk;exact⟨I,I,hD.Dt 1 0 k I I I hk⟩)
  (λk hk=>by have:=Jn 2 k I hk;exact⟨I,I,hD.Dt 2 0 k I I I hk,hD.Dt 2 1 k I I I hk⟩)
  (λk hk=>by
    rcases Q9 k hk with e|e
    ·exact Or.inl e
    ·exact Or.inr ⟨I,I,λe'=>by have:=Jn 0 k I e';omega,λe'=>by have:=Jn 1 k I e';omega,λe'=>by have:=Jn 2 k I e';omega⟩)
  (λk hk hkb hka=>(uG k hkb).trans ((kR k I hka).trans (hB.block k hk)))
  (by simpa using YQ.set 3 v2)
  (aI kA (λk hk=>uG k (λe=>by
    subst e;rcases Q9 k hk with e|e
    ·exact FW e
    ·omega)))
  (hW.of_eq ((uG _ I).trans (kR _ hlt (λe=>by have:=(zL _ e).1;omega))))
  (hrow I rfl hx0 XI) (hrow I rfl hx1 XI) (hrow I rfl Pv XI)
 refine⟨_,_,r1,⟨hG.os.trans hB.os,hG.tape.trans hB.tape,hG.output.trans hB.output,?_,r2,λk hk hs=>?_⟩⟩
 ·have h1:=hG.size;have h2:=hB.size;simp at h1;simp[World.setCell];omega
 ·rw[uG k (λe=>hs (by rw[e,h.tag]))];exact(kR k I (λe=>hs (by rw[h.reads.dc k e]))).trans (hB.block k hk)
def FX(h:bh w τ aJ b s A)(xN:A.rv=.slice aa s.rs.length ca)(hG:(w.alloc o).grownBy w2 (ar1 aa s.rs.length ca).ownBlock):
 aT w2 b #[.int .i64 s.parts,.int .i64 s.mode,A.arr,A.rv] 188:=by
 have kR:∀k,k<w.heap.size->A.rv.ownBlock≠Y k->w2.heap[k]?=w.heap[k]? :=λk hk hne=>
  (hG.block k Yn (λe=>hne (by rw[xN,e]))).trans (Below.heap_alloc w o k hk)
 exact h.blk.of_eq (kR b h.blk.lt (λe=>by have:=h.reads.dc b e;rw[h.tag]at this;simp at this))
def Jo(h:bh w τ aJ b s A)(a:Option aA)(L:List ah)(cap:Nat)(hL:L.length<=ae0)(hs:L.length<1\/8<L.length):
 Calls prog 100 #[ptr b,.slice a L.length cap] w (pY w τ aJ b (fZ s L)):=by
 have Hr:Hid (fZ s L=(0,3,s)):=by
  unfold Hid fZ;have:iB L=3:=by unfold iB;rw[if_pos hs]
  rw[this];simp
 unfold ae0 at hL;unfold ptr;by_cases h1:L.length<1
 ·clear hs;go_enter func100,ntmps100;go_wp2;go_ret2
  rw[Hr.out];exact⟨τ,A,rfl,h,Stp.refl _ _ _⟩
 ·have h2:8<L.length:=I
  clear hs;go_enter func100,ntmps100;go_wp2;go_ret2
  rw[Hr.out];exact⟨τ,A,rfl,h,Stp.refl _ _ _⟩
def iX(L:List ah)(k0 k1 k2:Nat)(j:Nat):List aj:=if j=0 then(L.take k0).map .string else if j=1 then(ab8 k1).map (λ_=>.bool E)else if j=2 then(ab8 k2).map (λ_=>.int .i64 0)else []
def nE(hk:k0<=L.length):(iX L k0 k1 k2 j).length=if j=0 then k0 else if j=1 then k1 else if j=2 then k2 else 0:=by
 unfold iX;split
 ·simp;omega
 ·split
  ·simp
  ·split<;>simp
def Ra(h:RD w wr v (iX L k k1 k2))(hx:L[k]?=Y x)(hG:((wr.drewN nq).alloc o).grownBy w2 (v 0).ownBlock)
 (hO:w2.ownsRow (w.heap.size+1) 9 1 v2 (k+1) ((L.take k).map .string++ [.string x])) (hA:v2.ownBlock=(v 0).ownBlock\/v2.ownBlock=Y ((wr.drewN nq).alloc o).heap.size):
 RD w (w2.setCell ⟨w.heap.size,0,F⟩ v2) (λi=>if i=0 then v2 else v i) (iX L (k+1) k1 k2):=by
 have hk:=aH hx;have hr:=h.push (j:=0) I (x:=.string x) hG (by rw[nE I];exact hO) hA;have e:(λi=>if i=0 then iX L k k1 k2 0++ [.string x]else iX L k k1 k2 i)=iX L (k+1) k1 k2:=by
  funext i;by_cases hi:i=0
  ·subst hi;simp[iX,pI hx]
  ·simp[iX,hi]
 rw[e]at hr;exact hr
def Rb(h:RD w wr v (iX L k0 k k2))(hk:k0<=L.length)(hG:((wr.drewN nq).alloc o).grownBy w2 (v 1).ownBlock)
 (hO:w2.ownsRow (w.heap.size+1) 4 1 v2 (k+1) ((ab8 k).map (λ_=>.bool E)++ [.bool E])) (hA:v2.ownBlock=(v 1).ownBlock\/v2.ownBlock=Y ((wr.drewN nq).alloc o).heap.size):
 RD w (w2.setCell ⟨w.heap.size,1,F⟩ v2) (λi=>if i=1 then v2 else v i) (iX L k0 (k+1) k2):=by
 have hr:=h.push (j:=1) I (x:=.bool E) hG (by rw[nE hk];exact hO) hA;have e:(λi=>if i=1 then iX L k0 k k2 1++ [.bool E]else iX L k0 k k2 i)=iX L k0 (k+1) k2:=by
  funext i;by_cases hi:i=1
  ·subst hi;simp[iX,ao8]
  ·simp[iX,hi]
 rw[e]at hr;exact hr
def Rc(h:RD w wr v (iX L k0 k1 k))(hk:k0<=L.length)(hG:((wr.drewN nq).alloc o).grownBy w2 (v 2).ownBlock)
 (hO:w2.ownsRow (w.heap.size+1) 3 1 v2 (k+1) ((ab8 k).map (λ_=>.int .i64 0)++ [.int .i64 0])) (hA:v2.ownBlock=(v 2).ownBlock\/v2.ownBlock=Y ((wr.drewN nq).alloc o).heap.size):
 RD w (w2.setCell ⟨w.heap.size,2,F⟩ v2) (λi=>if i=2 then v2 else v i) (iX L k0 k1 (k+1)):=by
 have hr:=h.push (j:=2) I (x:=.int .i64 0) hG (by rw[nE hk];exact hO) hA;have e:(λi=>if i=2 then iX L k0 k1 k 2++ [.int .i64 0]else iX L k0 k1 k i)=iX L k0 k1 (k+1):=by
  funext i;by_cases hi:i=2
  ·subst hi;simp[iX,ao8]
  ·by_cases h0:i=0
   ·subst h0;simp[iX]
   ·by_cases h1:i=1
    ·subst h1;simp[iX]
    ·simp[iX,hi,h0,h1]
 rw[e]at hr;exact hr
def Jp(h:bh w τ aJ b s A)(ib io:Nat)(L:List ah)(cap:Nat)(h1:1<=L.length)(h8:L.length<=8)(hz:pZ L)(hrl:s.rs.length<8796093022208)
 (hcell:∀(k:Nat) (x:ah),L[k]?=Y x->w.cell? ⟨ib,io+k,F⟩=Y (.string x)) (Xj:ib<w.heap.size):
 Calls prog 100 #[ptr b,.slice (Y ⟨ib,io,F⟩) L.length cap] w (pY w τ aJ b (fZ s L)):=by
 have g1:¬L.length<1:=I
 have g2:¬8<L.length:=I
 obtain⟨si,hsi,sz0,sz1,sz2⟩:=aj4 uf;obtain⟨bi,ZH,bz0,bz1,bz2⟩:=aj4 Re;obtain⟨ni,hni,nz0,nz1,nz2⟩:=aj4 C4;have HC:Hid (iB L=dO [] L):=by unfold Hid iB;rw[if_neg I]
 unfold ptr;go_enter func100,ntmps100;go_wp2;go_loopw [7] (λu wr=>∃(k:Nat) (v:Nat->aj),k<=L.length/\u=.int .i64 k/\Hid (dO [] L=dO (L.take k) (L.drop k))/\RD w wr v (iX L k k k)) (λu _=>L.length-(intOf u).toNat)
 case atStart=>
  refine⟨0,λ_=>.slice F 0 0,za2 _,rfl,by simp[Hid],⟨(Below.refl _ _).alloc (Nat.le_refl _) _,aT.new _ _ _,λj hj=>?_,λi j g _ _ _ hg=>by simp[Value.ownBlock]at hg⟩⟩;have:iX L 0 0 0 j= []:=by unfold iX;split<;>(try simp) <;>split<;>(try simp) <;>split<;>simp
  rw[this];exact World.ownsRow_nil _ _ _ _
 case round=>
  obtain⟨k,v,hk,rfl,HK,hD⟩:=hrel;have hB:=hD.below;have hsz:w.heap.size<wr.heap.size:=hD.blk.lt;by_cases hlt:k<L.length
  ·have hx:L[k]?=Y L[k]:=za1 hlt;have S4:=(hB.cell (p:=⟨ib,io+k,F⟩) Xj).trans (hcell k _ hx);have hs1:=hz _ (List.getElem_mem hlt);generalize L[k]=kk at *;have cg:=zJ kk wr hs1;unfold ae0 at hs1;cases qj:bz kk with
   |false=>
    have Hr:Hid (fZ s L=(0,4,s)):=by unfold Hid fZ;rw[HC.out,HK.out,nC hx,KX qj];simp
    rw[qj]at cg;clear qj hx hcell;go_wp2_with (go_at_call 94;refine cg.mono ?_;rintro e w' ⟨rfl,rfl⟩)
    go_ret2
    rw[Hr.out];exact⟨τ,A,rfl,h.below hB,Stp.dg hB⟩
   |true=>
    rw[qj]at cg;go_wp2_with (go_at_call 94;refine cg.mono ?_;rintro e w' ⟨rfl,rfl⟩)
    go_loopw [9] (λu w2=>∃(j nq:Nat),j<=k/\u=.int .i64 j/\w2=w'.drewN nq/\Hid (∀j' x,j'<j->L[j']?=Y x->x≠kk)) (λu _=>k-(intOf u).toNat)
    case atStart=>exact⟨0,0,za2 _,rfl,rfl,λj' x hj=>I⟩
    case round=>
     obtain⟨j,nq,hj,rfl,rfl,HN⟩:=hrel;by_cases hjk:j<k
     ·have hy:L[j]?=Y L[j]:=za1 I;have cj:=(hB.cell (p:=⟨ib,io+j,F⟩) Xj).trans (hcell j _ hy);have hyy:L[j]?=Y L[j]:=hy;generalize L[j]=kj at *;have hjL:j<L.length:=I
      by_cases heq:kj=kk
      ·have Hr:Hid (fZ s L=(0,5,s)):=by unfold Hid fZ;rw[HC.out,HK.out,nC hx,B5 qj (sD hjk hy heq)];simp
       have hb:=fj heq;clear heq hy hyy hx hcell;go_wp2_with fail
       go_quiet (fail)
       go_wp2_with fail
       go_ret2
       rw[Hr.out];exact⟨τ,A,rfl,(h.below hB).frame (λ_ _ _=>⟨rfl,rfl⟩),Stp.dg (Below.pV (Below.pV hB _) _)⟩
      ·have HN':Hid (∀j' x,j'<j+1->L[j']?=Y x->x≠kk):=by
        intro j' x' hj' hx';by_cases e:j'=j
        ·subst e;rw[hy]at hx';cases hx';exact heq
        ·exact HN.out j' x' I hx'
       have hb:=kQ heq;clear heq hy hyy hx hcell;go_wp2_with fail
       go_quiet (fail)
       go_wp2_with fail
       go_roundw
       case rel=>exact⟨j+1,_,I,by go_num,rfl,HN'⟩
       case measure=>simp[intOf];omega
     ·have hnk:fN (L.take k) kk=E:=sE (λj' x' hj' hx'=>HN.out j' x' I hx');have Yr:Hid (dO [] L=dO (L.take (k+1)) (L.drop (k+1))):=by unfold Hid;rw[HK.out,nC hx,QN qj hnk,pI hx]
      clear hcell hnk;have HX:Hid (L[k]?=Y kk):=hx;clear hx;have hO:=hD.row 0 I;rw[nE hk]at hO;obtain⟨av,jU,hiv⟩:=bI hO;simp only[if_true]at hiv;have c0:w'.cell? ⟨w.heap.size,0,F⟩=Y (v 0):=hD.blk.cell (o:=0) rfl;have f0:=hD.blk.frozen 0;have KO:w'.ownsRow (w.heap.size+1) 9 1 (.slice av k jU) k ((L.take k).map .string):=by rw[<-hiv];exact hO
      rw[hiv]at c0;clear hO;have c0a:∀(o:Obj) (nq:Nat),((w'.drewN nq).alloc o).cell? ⟨w.heap.size,0,F⟩=Y (.slice av k jU):=λo nq=>by rw[World.cell?_of_block (w:=w'.drewN nq) (Below.heap_alloc (w'.drewN nq) o w.heap.size hsz)];exact c0
      go_wp2_with fail
      go_region_law (refine eN rfl (.tmp 53) (.tmp 58) 38 rfl (w.heap.size+1) 9 si _ 1 16 underlying38 hsi sz0 sz1 sz2 rfl Yo (.slice av k jU) k ((L.take k).map .string) rfl (KO.alloc _) ⟨_,0,F⟩ 1 1 [.string kk] rfl rfl (ao9 _ _ _) (by simp[ai9]) (by unfold ae0;omega) I Yn ?_;intro v2 w2 kA jm Ie hA2;obtain⟨fG,eH⟩:=hD.after (j:=0) I (by rw[hiv];exact jm);have c2:=fG.cell (o:=0) (v:=v 0) rfl;rw[hiv]at c2;have f2:=fG.frozen 0;obtain⟨g2,cap2,nW,-⟩:=aZ kA I;rw[nW])
      all_goals
       have ZT:=Ra (v2:=v2) hD HX.out (by rw[hiv];exact jm) kA (by rw[hiv];exact hA2)
       rw[nW]at ZT
       clear kA jm Ie hA2 fG eH c2 f2 nW KO c0 c0a f0 S4
       generalize w2.setCell ⟨w.heap.size,0,F⟩ (.slice (Y ⟨g2,0,F⟩) (k+1) cap2)=W1 at *
       have xE:(λi=>if i=0 then ar1 (Y ⟨g2,0,F⟩) (k+1) cap2 else v i) 1=v 1:=rfl
       generalize (λi=>if i=0 then ar1 (Y ⟨g2,0,F⟩) (k+1) cap2 else v i)=v1 at *
       have Yd:=ZT.row 1 I
       rw[nE I]at Yd
       obtain⟨a1,acV,Jq⟩:=bI Yd
       simp only[if_neg (show ¬(1:Nat)=0 from by omega),if_true]at Jq
       have acW:W1.ownsRow (w.heap.size+1) 4 1 (.slice a1 k acV) k ((ab8 k).map (λ_=>.bool E)):=by rw[<-Jq];exact Yd
       have d1:W1.cell? ⟨w.heap.size,1,F⟩=Y (v1 1):=ZT.blk.cell (o:=1) rfl
       rw[Jq]at d1
       have vD:w.heap.size<W1.heap.size:=ZT.blk.lt
       clear Yd xE
       go_upto_region 17 with(at_builtin;refine ai4 _ rfl (.tmp 66) (.tmp 67) 193 rfl (w.heap.size+1) 4 bi _ 1 1 underlying193 ZH bz0 bz1 bz2 rfl Yo (.slice a1 k acV) k _ rfl (acW.alloc _) ⟨_,0,F⟩ 1 1 [.bool E] rfl rfl (ao9 _ _ _) (by simp[ai9]) (by unfold ae0;omega) I Yn ?_;intro v3 w3 ZU ZV hN3 Eu;obtain⟨xM,lV⟩:=ZT.after (j:=1) (nq:=0) I (by rw[Jq];exact ZV);have c3:=xM.cell (o:=1) (v:=v1 1) rfl;rw[Jq]at c3;have f3:=xM.frozen 1;obtain⟨g3,YS,V7,-⟩:=aZ ZU I;rw[V7])
       have S3:=Rb (nq:=0) (v2:=v3) ZT I (by rw[Jq];exact ZV) ZU (by rw[Jq];exact Eu)
       rw[V7]at S3
       clear ZU ZV hN3 Eu xM lV c3 f3 V7 acW d1
       generalize w3.setCell ⟨w.heap.size,1,F⟩ (.slice (Y ⟨g3,0,F⟩) (k+1) YS)=W2 at *
       generalize (λi=>if i=1 then ar1 (Y ⟨g3,0,F⟩) (k+1) YS else v1 i)=v2 at *
       have hR2:=S3.row 2 I
       rw[nE I]at hR2
       obtain⟨a2,cap2,Jr⟩:=bI hR2
       simp only[if_neg (show ¬(2:Nat)=0 from by omega),if_neg (show ¬(2:Nat)=1 from by omega),if_true]at Jr
       have ahw:W2.ownsRow (w.heap.size+1) 3 1 (.slice a2 k cap2) k ((ab8 k).map (λ_=>.int .i64 0)):=by rw[<-Jr];exact hR2
       have d2:W2.cell? ⟨w.heap.size,2,F⟩=Y (v2 2):=S3.blk.cell (o:=2) rfl
       rw[Jr]at d2
       have A8:w.heap.size<W2.heap.size:=S3.blk.lt
       clear hR2
       go_wp2_with (at_builtin;refine ai4 _ rfl (.tmp 75) (.tmp 76) 58 rfl (w.heap.size+1) 3 ni _ 1 8 underlying58 hni nz0 nz1 nz2 rfl Yo (.slice a2 k cap2) k _ rfl (ahw.alloc _) ⟨_,0,F⟩ 1 1 [.int .i64 0] rfl rfl (ao9 _ _ _) (by simp[ai9]) (by unfold ae0;omega) I Yn ?_;intro v3 w3 ZU ZV hN3 Eu;obtain⟨xM,lV⟩:=S3.after (j:=2) (nq:=0) I (by rw[Jr];exact ZV);have c3:=xM.cell (o:=2) (v:=v2 2) rfl;rw[Jr]at c3;have f3:=xM.frozen 2;obtain⟨g3,YS,V7,-⟩:=aZ ZU I;rw[V7])
       have hD3:=Rc (nq:=0) (v2:=v3) S3 I (by rw[Jr];exact ZV) ZU (by rw[Jr];exact Eu)
       rw[V7]at hD3
       go_roundw
       case rel=>exact⟨k+1,_,I,by go_num,Yr,hD3⟩
       case measure=>simp[intOf];omega
  ·have AO:k=L.length:=I
   have H0:Hid (iB L=0):=by unfold Hid;rw[HC.out,HK.out,AO,List.drop_length];rfl
   obtain⟨I3,hnd⟩:=FP (HC.out.symm.trans H0.out);clear hcell HK HC;have hR:=h.below hB;have hlen:=hR.YT;unfold ae0 at hlen;obtain⟨aa,ca,xN,cA⟩:=hR.Rf;go_wp2_with fail
   go_loop [10,11] (λo u=>∃q:Nat,q<=s.rs.length/\u=.int .i64 q/\o=.int .i64 (aX (s.rs.take q))) (λ_ u=>s.rs.length-(intOf u).toNat)
   case atStart=>exact⟨0,za2 _,rfl,by simp[aX]⟩
   case round=>
    obtain⟨q,hq,rfl,rfl⟩:=hrel;have hol:=Ds (s.rs.take q);have amh:(s.rs.take q).length<=q:=List.length_take_le _ _;by_cases hlt':q<s.rs.length
    ·have hrq:s.rs[q]?=Y s.rs[q]:=za1 hlt';obtain⟨g,cap',c3,ci,-⟩:=hR.cRd hrq;have cF:=hR.UU hrq;have HT:=zK hrq;have HT':Hid (aX (s.rs.take (q+1))=_):=HT;obtain⟨rfl,rfl⟩:aa=Y ⟨g,0,F⟩/\ca=cap':=by have:=cA.symm.trans c3;simpa using this
     clear c3 HT;cases iu:s.rs[q].fin with
     |true=>
      rw[iu]at cF HT';clear iu hrq;go_wp2_with fail
      go_round
      case rel=>exact⟨q+1,I,by go_num,by rw[HT'.out];simp⟩
      case measure=>simp[intOf];omega
     |false=>
      rw[iu]at cF HT';clear iu hrq;go_wp2_with fail
      go_round
      case rel=>exact⟨q+1,I,by go_num,by rw[HT'.out];go_num⟩
      case measure=>simp[intOf];omega
    ·have hqe:q=s.rs.length:=I
     subst hqe;have HO:Hid (aX (s.rs.take s.rs.length)=aX s.rs):=by unfold Hid;rw[List.take_length]
     rw[HO.out];by_cases hfull:50<=aX s.rs
     ·have Hr:Hid (fZ s L=(0,6,s)):=by unfold Hid fZ;rw[H0.out];simp[hfull]
      go_wp2_with fail
      go_ret2
      rw[Hr.out];exact⟨τ,A,rfl,hR,Stp.dg hB⟩
     ·have fA:=hR.blk.frozen 3;have UT:b<w.heap.size:=h.blk.lt;obtain⟨pi,hpi,YB,hp1,LD⟩:=aj4 Rg;have Rh:=hR.reads.arr;rw[xN]at Rh;go_wp2_with (at_builtin;refine ai4 _ rfl (.tmp 108) (.tmp 110) 186 rfl 0 191 pi _ 1 8 underlying186 hpi YB hp1 LD rfl Yo (.slice aa s.rs.length ca) s.rs.length _ rfl (Rh.alloc _) ⟨_,0,F⟩ 1 1 [.pointer (Y ⟨w.heap.size,0,F⟩)] rfl rfl (ao9 _ _ _) (by simp[ai9]) (by unfold ae0;omega) I (za2 _) ?_;intro v2 w2 kA jm Ie hA2;have fG:=FX hR xN jm;have c2:=fG.cell (o:=3) (v:=A.rv) rfl;rw[xN]at c2;have f2:=fG.frozen 3;obtain⟨g2,cap2,nW,-⟩:=aZ kA I;rw[nW])
      go_ret2
      have Hr:fZ s L=((s.rs.length:Int)+1,0,{s with rs:=s.rs++ [dJ L]}):=by unfold fZ;rw[H0.out];simp only[ne_eq,not_true,if_false,if_neg hfull]
      rw[Hr,<-nW];obtain⟨τ',A',r1,r2⟩:=Jl h hD (by rw[AO];simp[iX]) (by rw[AO];simp[iX]) (by rw[AO];simp[iX]) h1 h8 (λx hx=>(I3 x hx).1) hnd I xN jm kA hA2;exact⟨τ',A',rfl,r1,r2⟩
def abN(h:bh w τ aJ b s A)(a:Option aA)(L:List ah)(cap:Nat)(hL:L.length<=ae0)(hz:pZ L)(hI:fo w a L)(hrl:s.rs.length<8796093022208):
 Calls prog 100 #[ptr b,.slice a L.length cap] w (pY w τ aJ b (fZ s L)):=by
 by_cases hs:L.length<1\/8<L.length
 ·exact Jo h a L cap hL hs
 ·obtain⟨ib,io,rfl,c0⟩:=hI 0 L[0] (za1 I);refine Jp h ib io L cap I I hz hrl (λk x hx=>?_) (World.block_lt_of_cell? w _ c0);obtain⟨TS,TT,e,r⟩:=hI k x hx;cases e;exact r
end
end
section
open Classical in
noncomputable def wF(ws:List MW)(f:Nat->Nat)(x:ah)(b:Nat):Nat->Nat
 | 0=>b
 |k+1=>if wF ws f x b k<f k/\(∃m,ws[f k-1]?=Y m/\aN m.items x=Z6)then f k else wF ws f x b k
def P5(ws:List MW)(n:Nat)(x:ah):ah:=if n=0 then⟨#[]⟩else match ws[n-1]? with
 |some m=>valueOf m.items x
 |none=>⟨#[]⟩
def l7(s:MS)(r:MR):Prop:=∀k y,r.keys[k]?=Y y->r.found k≠0->∃m,s.ws[r.found k-1]?=Y m/\aN m.items y=Z6
section
variable {w:af}{τ:Nat->Tag}{aJ b:Nat}{s:MS}{A:RA}{r:MR}{x:ah}
def Jx{b:Nat}(hb:b<=s.ws.length)(hw:l7 s r):∀k,k<=r.keys.length->wF s.ws r.found x b k<=s.ws.length
 | 0,_=>hb
 |k+1,hk=>by
  have ih:=Jx hb hw k I;unfold wF;split
  ·by_cases h0:r.found k=0
   ·omega
   ·obtain⟨m,hm,_⟩:=hw k _ (za1 I) h0;have:=aH hm;omega
  ·exact ih
def uI(hw:l7 s r)(hy:r.keys[k]?=Y y):r.found k<=s.ws.length:=by
 by_cases h0:r.found k=0
 ·omega
 ·obtain⟨m,hm,_⟩:=hw k y hy h0;have:=aH hm;omega
def Jy(h:bh w τ aJ b s A){i:Nat}(hr:s.rs[i]?=Y r)(hx:r.keys[j]?=Y x)(hw:l7 s r):
 Calls prog 133 #[ptr b,ptr (A.B.rb i),.int .i64 j] w λe w'=>e=.returned (.int .i64 (wF s.ws r.found x (r.found j) r.keys.length))/\∃n,w'=w.drewN n:=by
 have hlen:=h.ok.len;obtain⟨k1,k8,-,-⟩:=h.ok.keys i r hr;obtain⟨gk,ck,ga,ca,gf,cf,c0,-,c2,-,-,hcell,-,-⟩:=h.Rs hr;obtain⟨dk,-,dj⟩:=hcell j x hx;have hj:=aH hx;obtain⟨a,cap,xN,cA⟩:=h.Rp;have HB:Hid (∀k,k<=r.keys.length->wF s.ws r.found x (r.found j) k<=s.ws.length):=Jx (uI hw hx) hw;have HV:Hid (∀(q:Nat) (m:MW),s.ws[q]?=Y m->∀W,W.heap=w.heap->Calls prog 132 #[ptr (A.wb q),.string x] W λe w'=>e=.returned (.tuple #[.string (valueOf m.items x),.bool (aN m.items x)])/\w'=W):=by intro q m hm W e;exact vM (h.frame (w':=W) (τ':=τ) (λ_ _ _=>⟨by rw[e],rfl⟩)) hm x
 have HA:Hid (∀(q:Nat) (m:MW),s.ws[q]?=Y m->∃g,a=Y ⟨g,0,F⟩/\w.cell? ⟨g,q,F⟩=Y (.pointer (Y ⟨A.wb q,0,F⟩))):=λq m hm=>by obtain⟨g,cap',e1,e2⟩:=h.cAt hm;have:=cA.symm.trans e1;simp only[Option.some.injEq,Value.slice.injEq]at this;exact⟨g,this.1,e2⟩
 clear xN;unfold ptr;go_enter func133,ntmps133;go_wp2_with fail
 go_loopw [7,8] (λu7 u8 wr=>∃(k nq:Nat),k<=r.keys.length/\u7=.int .i64 (wF s.ws r.found x (r.found j) k)/\u8=.int .i64 k/\wr=w.drewN nq) (λ_ u8 _=>r.keys.length-(intOf u8).toNat)
 case atStart=>exact⟨0,0,za2 _,rfl,rfl,rfl⟩
 case round=>
  obtain⟨k,nq,hk,rfl,rfl,rfl⟩:=hrel;have hB:=HB.out k hk;by_cases hlt:k<r.keys.length
  ·have hy:r.keys[k]?=Y r.keys[k]:=za1 hlt;obtain⟨-,-,d2⟩:=hcell k _ hy;have HS:Hid (wF s.ws r.found x (r.found j) (k+1)=if wF s.ws r.found x (r.found j) k<r.found k/\(∃m,s.ws[r.found k-1]?=Y m/\aN m.items x=Z6)then r.found k else wF s.ws r.found x (r.found j) k):=rfl;have hf:=uI hw hy;by_cases hle:r.found k<=wF s.ws r.found x (r.found j) k
   ·have ZX:Hid (wF s.ws r.found x (r.found j) (k+1)=wF s.ws r.found x (r.found j) k):=HS.out.trans (if_neg λe=>I);clear HS hy hcell;generalize wF s.ws r.found x (r.found j) k=B at *;go_wp2_with fail
    go_roundw
    case rel=>exact⟨k+1,_,I,by rw[ZX.out],by go_num,rfl⟩
    case measure=>simp[intOf];omega
   ·obtain⟨m,hm,-⟩:=hw k _ hy I;obtain⟨q,hq⟩:∃q,r.found k=q+1:=⟨r.found k-1,I⟩
    rw[hq]at hm d2 HS hle hf;rw[show q+1-1=q by omega]at hm HS;obtain⟨g,rfl,cq⟩:=HA.out q m hm;have cv:=HV.out q m hm;have ZX:Hid (wF s.ws r.found x (r.found j) (k+1)=if aN m.items x=Z6 then q+1 else wF s.ws r.found x (r.found j) k):=by
     unfold Hid;rw[HS.out];by_cases e:aN m.items x=Z6
     ·rw[if_pos e,if_pos ⟨I,m,hm,e⟩]
     ·rw[if_neg e,if_neg];rintro⟨-,m',hm',e'⟩;rw[hm]at hm';cases hm';exact e e'
    have V5:(q:Int)< (s.ws.length:Int):=I
    have hwq:IntKind.i64.wrap (q:Int)=(q:Int):=by simp[IntKind.wrap,IntKind.signed,IntKind.bits];omega
    have hj1:(j:Int)< (r.keys.length:Int):=I
    clear HS hy hcell hm HA HV hq;unfold ptr at cv;generalize wF s.ws r.found x (r.found j) k=B at *;generalize valueOf m.items x=vv at *;cases hh:aN m.items x with
    |false=>
     rw[hh]at cv ZX;go_wp2_with fail
     go_quiet (first|(go_at_call 132;refine(cv _ ?_).mono (λe w' he=>⟨he.1,_,he.2⟩);rfl))
     go_wp2_with fail
     go_roundw
     case rel=>exact⟨k+1,_,I,by rw[ZX.out];rfl,by go_num,rfl⟩
     case measure=>simp[intOf];omega
    |true=>
     rw[hh]at cv ZX;go_wp2_with fail
     go_quiet (first|(go_at_call 132;refine(cv _ ?_).mono (λe w' he=>⟨he.1,_,he.2⟩);rfl))
     go_wp2_with fail
     go_roundw
     case rel=>exact⟨k+1,_,I,by rw[ZX.out];rfl,by go_num,rfl⟩
     case measure=>simp[intOf];omega
  ·have ID:k=r.keys.length:=I
   subst ID;go_wp2_with fail
   go_ret;exact⟨rfl,_,rfl⟩
end
end
end Go.Proofs.YteoahlieielcdaaGreat
