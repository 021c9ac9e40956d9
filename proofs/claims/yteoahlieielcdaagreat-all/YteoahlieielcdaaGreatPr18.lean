import Derived.Test.YteoahlieielcdaaGreatPr1
import Derived.Test.YteoahlieielcdaaGreatRef10
set_option linter.all false
set_option maxHeartbeats 8000000
set_option maxRecDepth 100000
open Option renaming some->Y,none->F
open Bool renaming false->E,true->Z6
open Go.World renaming setCell->ab1,ownsRow_nil->ak3
open List renaming range->ab8,getElem?_append_left->ag1,any_eq_true->ai3,getElem?_map->ai8,length_set->am0,getElem?_append_right->am2,length_map->an4,length_append->ao4,getD_eq_getElem?_getD->ao5,getElem_mem->ap0,getElem?_range->ar0,length_singleton->ar2
open Go renaming maxLen->ae0,leaves_cons->ai2,wpList_append_own_at->ai4,info_parts->aj4,results_tmp->ak7,cell_one_new->ao9,keyOf_int->ap1,results_tmp2->av8
open Array renaming getElem?_eq_getElem->ad7,getElem?_setIfInBounds_self_of_lt->ad8,ext_getElem?->an1
open Go.MuLone renaming unlock_deferred->af1,lock_free->ak6
open Go.RowKit.Below renaming refl->ag2
open Go.Value renaming oneCell'->ai9,string->aj3
open Nat renaming le_trans->aj8
open Or renaming inr->ak9,inl->an0
open Go.WideShapes renaming bytes_inj->ao2
open UInt8 renaming ofNat->bg2
namespace Go.Proofs.YteoahlieielcdaaGreat
open Go.Proofs.Tryz
abbrev za3:=@RowKit.Below.heap_setCell
abbrev za4:=@RowKit.Below.heap_alloc
abbrev za5:=@Nat.le_refl
abbrev za6:=@List.getElem?_eq_getElem
abbrev za7:=@World.cell?_of_block
abbrev za8:=@Array.getElem?_eq_some_iff
abbrev za9:=@World.block_lt_of_cell?
abbrev zba:=@Array.getElem?_setIfInBounds_ne
abbrev zbb:=@Nat.zero_le
abbrev zbc:=@List.mem_map
abbrev zbd:=@List.mem_range
variable{w w2 w':af}{τ τ':Nat->Tag}{aJ k B0 new i j pr qm N':Nat}{cR v2 ks' ts ks:aj}{pb kb vb qb m':Nat->Nat}{o o1:Obj}{key x kk tv:ah}{l:List KV}{rs' rs:List MR}{B' B:SB}{hv no:Bool}
section
open Go Go.RowKit Go.MuLone
open Go.Maps (Keyed)
def bY(w:af):af:=((w.alloc (.map #[] 0)).alloc (.map #[] 0)).alloc (.cells #[fH,gy,.map (Y w.heap.size),.map (Y (w.heap.size+1))] 202)
def FG(w:af):Calls prog 67 #[] w λe w'=>e=.returned (ptr (w.heap.size+2))/\w'=bY w:=by have hmm:=@run_makeMap prog;unfold ptr;go_enter func67,ntmps67;go_wp2;go_ret;exact⟨rfl,rfl⟩
def QM:(prog.info? 130).map (λi=>(i.zero,i.size,i.bytes))=Y (Y (.pointer F),1,8):=Yl
structure MI(w:af)(τ:Nat->Tag)(aJ q pb kb vb:Nat):Prop where
 blk:aT w pb #[fH,gy,.map (Y kb),.map (Y vb)] 202
 kept:aS w prog 3 kb (λ_=>F)
 vis:aS w prog 9 vb (λ_=>F)
 t1:τ pb=(aJ,2,q)
 t2:τ kb=(aJ,3,q)
 t3:τ vb=(aJ,4,q)
structure B2(w:af)(τ:Nat->Tag)(aJ sb wm rm:Nat)(mode:Int)(k:Nat)(cR:aj)(pb kb vb:Nat->Nat)(B0:Nat):Prop where
 blk:aT w sb #[.int .i64 mode,cR,fH,gy,.int .i64 0,.int .i64 0,.map (Y wm),.map (Y rm)] 105
 tag:τ sb=(aJ,0,0)
 sN:aS w prog 3 wm (λ_=>F)
 jh:τ wm=(aJ,5,0)
 sL:aS w prog 3 rm (λ_=>F)
 iQ:τ rm=(aJ,10,0)
 row:w.ownsRow 0 130 1 cR k ((ab8 k).map (λq=>ptr (pb q)))
 eY:∀j,cR.ownBlock=Y j->τ j=(aJ,1,0)
 part:∀q,q<k->MI w τ aJ q (pb q) (kb q) (vb q)
 lo:B0<=sb/\B0<=wm/\B0<=rm/\∀j,cR.ownBlock=Y j->B0<=j
def B2.rep{sb wm rm:Nat}{mode:Int}(h:B2 w τ aJ sb wm rm mode k cR pb kb vb B0)(h1:1<=k)(h4:k<=4):
 ∃A,bB w τ aJ sb {parts:=k,mode:=mode,ws:= [],rs:= []} A:=by
 refine⟨{cR:=cR,pb:=pb,kb:=kb,vb:=vb,wm:=wm,pw:=λ_=>0,sm:=λ_=>0,sh:=λ_ _=>0,iv:=λ_ _=>.slice F 0 0,sv:=λ_=>.nilIface,vis:=λ_ _=>0,R:={rm:=rm,pr:=λ_=>0,qm:=λ_=>0,qb:=λ_ _=>0,no:=λ_=>E,ks:=λ_=>.slice F 0 0,hv:=λ_ _=>E,tv:=λ_ _=>⟨#[]⟩,ts:=λ_ _=>.nilIface}},⟨h1,h4,XI,λi m hm=>by simp at hm,λi m hm=>by simp at hm,by simp[aX]⟩,⟨λi m q hm=>by simp at hm,λi m q hm=>by simp at hm,λi m q hm=>by simp at hm⟩,⟨λi m hm=>by simp at hm,λi m hm=>by simp at hm,λi m j hm=>by simp at hm,λi m j x hm=>by simp at hm,λi m j x hm=>by simp at hm,λi m j x hm=>by simp at hm,λi m j x hm=>by simp at hm⟩,h.blk,h.tag,h.row,h.eY,λq hq=>(h.part q hq).blk,λq hq=>(h.part q hq).t1,λq hq=>?_,λq hq=>(h.part q hq).t2,λq hq=>?_,λq hq=>(h.part q hq).t3,λq hq=>⟨λl hl=>absurd rfl hl,λi m x hm=>by simp at hm⟩,?_,h.jh,λi m hm=>by simp at hm,λi m hm=>by simp at hm,λi m hm=>by simp at hm,λi m hm=>by simp at hm,λi m q hm=>by simp at hm,λi m q hm=>by simp at hm,λi m q hm=>by simp at hm,λi m q j hm=>by simp at hm,⟨h.sL.congr (λkl=>?_),h.iQ,λi m hm=>by simp at hm,λi m hm=>by simp at hm,λi m hm=>by simp at hm,λi m hm=>by simp at hm,λi m q x hm=>by simp at hm,λi m q x hm=>by simp at hm,λi m hm=>by simp at hm,λi m q hm=>by simp at hm⟩,λi m hm=>by simp at hm⟩
 ·refine(h.part q hq).kept.congr (λkl=>?_);cases kl with
  |int kd n=>cases kd<;>first|rfl|simp[bP,bL]
  |_=>rfl
 ·refine(h.part q hq).vis.congr (λkl=>?_);cases kl<;>simp[Dj]
 ·refine h.sN.congr (λkl=>?_);cases kl with
  |int kd n=>cases kd<;>first|rfl|simp[cX,bL]
  |_=>rfl
 ·cases kl with
  |int kd n=>cases kd<;>first|rfl|simp[dW,gj]
  |_=>rfl
def zC(w:af):Below w.heap.size w (bY w.drew):=
 (((ag2 _ w).drew.alloc (za5 _) _).alloc XI _).alloc Yn _
def B4(w:af):(bY w.drew).heap.size=w.heap.size+3:=by simp[bY]
def MK{wr:af}{τ1:Nat->Tag}{mode:Int}(hM:B2 wr τ1 aJ (w.heap.size+2) w.heap.size (w.heap.size+1) mode k cR pb kb vb w.heap.size)(hB:Below w.heap.size w wr)(HT:∀k,k<w.heap.size->τ1 k=τ k)
 (hO:w2.ownsRow 0 130 1 v2 (k+1) ((ab8 k).map (λq=>ptr (pb q))++ [.pointer (Y ⟨wr.heap.size+2,0,F⟩)])) (hG:((bY wr.drew).alloc o).grownBy w2 cR.ownBlock) (hA:v2.ownBlock=cR.ownBlock\/v2.ownBlock=Y ((bY wr.drew).alloc o).heap.size):
 ∃(τ':Nat->Tag) (pb' kb' vb':Nat->Nat),B2 (w2.setCell ⟨w.heap.size+2,1,F⟩ v2) τ' aJ (w.heap.size+2) w.heap.size (w.heap.size+1) mode (k+1) v2 pb' kb' vb' w.heap.size/\Below w.heap.size w (w2.setCell ⟨w.heap.size+2,1,F⟩ v2)/\∀k,k<w.heap.size->τ' k=τ k:=by
 have TB:=hM.blk.lt;have Ey:=hM.sN.lt;have hps:=B4 wr;have YA:=zC wr;have hsz:wr.heap.size+4<=w2.heap.size:=by have:=hG.size;simp at this;omega
 have hBs:=hB.size;have zb:∀j,j<wr.heap.size+3->j≠w.heap.size+2->cR.ownBlock≠Y j->(w2.setCell ⟨w.heap.size+2,1,F⟩ v2).heap[j]?=(bY wr.drew).heap[j]? :=λj hj h1 h2=>
  (za3 _ _ _ _ h1).trans ((hG.block j Yn (λe=>h2 e.symm)).trans (za4 _ _ _ I))
 have zo:∀j,j<wr.heap.size->j≠w.heap.size+2->cR.ownBlock≠Y j->(w2.setCell ⟨w.heap.size+2,1,F⟩ v2).heap[j]?=wr.heap[j]? :=λj hj h1 h2=>(zb j I h1 h2).trans (YA.block j hj);have hpl:∀j,cR.ownBlock=Y j->j<wr.heap.size:=λj hj=>(aQ hM.row j hj).2;have hv:∀j,v2.ownBlock=Y j->cR.ownBlock=Y j\/wr.heap.size+4<=j:=λj hj=>by
  rcases hA with e|e
  ·exact an0 (by rw[<-e];exact hj)
  ·rw[hj]at e;have:=Option.some.inj e;simp at this;exact ak9 I
 have Oh:∀{j a c:Nat},τ1 j=(aJ,a,c)->a≠1->cR.ownBlock≠Y j:=λht ha e=>by have:=hM.eY _ e;rw[ht]at this;simp at this;omega
 have hst:∀{j a c:Nat},τ1 j=(aJ,a,c)->a≠0->j≠w.heap.size+2:=λht ha e=>by have:=hM.tag;rw[<-e,ht]at this;simp at this;omega
 have hrb:cR.ownBlock≠Y (w.heap.size+2):=Oh hM.tag I;have gQ:∀j,j<wr.heap.size->(if j=wr.heap.size+2 then(aJ,2,k)else if j=wr.heap.size then(aJ,3,k)else if j=wr.heap.size+1 then(aJ,4,k)else if v2.ownBlock=Y j then(aJ,1,0)else τ1 j)=τ1 j:=by
  intro j hj;rw[if_neg I,if_neg I,if_neg I];split
  ·rename_i e;rcases hv j e with e1|e1
   ·rw[hM.eY j e1]
   ·omega
  ·rfl
 refine⟨λj=>if j=wr.heap.size+2 then(aJ,2,k)else if j=wr.heap.size then(aJ,3,k)else if j=wr.heap.size+1 then(aJ,4,k)else if v2.ownBlock=Y j then(aJ,1,0)else τ1 j,
  λq=>if q=k then wr.heap.size+2 else pb q,λq=>if q=k then wr.heap.size else kb q,λq=>if q=k then wr.heap.size+1 else vb q,⟨?_,?_,?_,?_,?_,?_,?_,λj hj=>?_,λq hq=>?_,hM.lo.1,hM.lo.2.1,hM.lo.2.2.1,λj hj=>?_⟩,?_,?_⟩
 ·have h1:aT w2 (w.heap.size+2) _ _:=hM.blk.of_eq ((hG.block _ Yn (λe=>hrb e.symm)).trans ((za4 _ _ _ I).trans (YA.block _ TB)));simpa using h1.set 1 v2
 ·rw[gQ _ TB,hM.tag]
 ·exact hM.sN.of_eq (zo _ Ey I (Oh hM.jh I))
 ·rw[gQ _ Ey,hM.jh]
 ·exact hM.sL.of_eq (zo _ hM.sL.lt I (Oh hM.iQ I))
 ·rw[gQ _ hM.sL.lt,hM.iQ]
 ·have e:(ab8 (k+1)).map (λq=>ptr (if q=k then wr.heap.size+2 else pb q))=(ab8 k).map (λq=>ptr (pb q))++ [.pointer (Y ⟨wr.heap.size+2,0,F⟩)]:=by
   rw[List.range_succ,List.map_append];congr 1
   ·refine List.map_congr_left (λq hq=>?_);have:q≠k:=by have:=zbd.1 hq;omega
    simp[this]
   ·simp[ptr]
  rw[e];exact aI hO (λj hj=>za3 _ _ _ _ (λe=>by
   rcases hv j hj with e1|e1
   ·exact hrb (by rw[e1,e])
   ·have:j=w.heap.size+2:=e;omega))
 ·rcases hv j hj with e1|e1
  ·rw[gQ j (hpl j e1),hM.eY j e1]
  ·rw[if_neg I,if_neg I,if_neg I,if_pos hj]
 ·by_cases e:q=k
  ·subst e;simp only[if_true];have hno:∀j,wr.heap.size<=j->cR.ownBlock≠Y j:=λj hj e=>by have:=hpl j e;omega
   have f3:∀(o1 o2:Obj) (j:Nat),j<wr.heap.size+1->((wr.drew.alloc o1).alloc o2).heap[j]?=(wr.drew.alloc o1).heap[j]? :=λo1 o2 j hj=>za4 _ _ _ Yn;refine⟨?_,?_,?_,?_,?_,?_⟩
   ·have h1:aT (bY wr.drew) (wr.heap.size+2) #[fH,gy,.map (Y wr.heap.size),.map (Y (wr.heap.size+1))] 202:=by have:=aT.new ((wr.drew.alloc (.map #[] 0)).alloc (.map #[] 0)) #[fH,gy,.map (Y wr.drew.heap.size),.map (Y (wr.drew.heap.size+1))] 202;simpa[bY]using this
    exact h1.of_eq (zb _ I I (hno _ I))
   ·have h1:aS (bY wr.drew) prog 3 wr.heap.size (λ_=>F):=(aS.made wr.drew prog 3).of_eq ((za4 _ _ _ (by show wr.heap.size< ((wr.drew.alloc _).alloc _).heap.size;simp;omega)).trans (f3 _ _ _ (by show wr.heap.size<wr.heap.size+1;omega)));exact h1.of_eq (zb _ I I (hno _ I))
   ·have h1:aS (bY wr.drew) prog 9 (wr.heap.size+1) (λ_=>F):=by have:=(aS.made (wr.drew.alloc (.map #[] 0)) prog 9).of_eq (w':=bY wr.drew) (za4 _ _ _ XI);simpa using this
    exact h1.of_eq (zb _ I I (hno _ I))
   ·simp
   ·simp
   ·simp
  ·have fX:q<k:=I
   have hF:=hM.part q fX;simp only[e,if_false];exact⟨hF.blk.of_eq (zo _ hF.blk.lt (hst hF.t1 I) (Oh hF.t1 I)),hF.kept.of_eq (zo _ hF.kept.lt (hst hF.t2 I) (Oh hF.t2 I)),hF.vis.of_eq (zo _ hF.vis.lt (hst hF.t3 I) (Oh hF.t3 I)),
    by rw[gQ _ hF.blk.lt,hF.t1],by rw[gQ _ hF.kept.lt,hF.t2],by rw[gQ _ hF.vis.lt,hF.t3]⟩
 ·rcases hv j hj with e1|e1
  ·exact hM.lo.2.2.2 j e1
  ·omega
 ·refine⟨hG.os.trans (YA.os.trans hB.os),hG.tape.trans (YA.tape.trans hB.tape),hG.output.trans (YA.output.trans hB.output),by simp[ab1];omega,λj hj=>?_⟩;exact(zo j I I (λe=>by have:=hM.lo.2.2.2 j e;omega)).trans (hB.block j hj)
 ·intro j hj;simp only;rw[gQ j I];exact HT j hj
def PG(parts mode:Int)(w:af)(h:parts<1\/4<parts):
 Calls prog 34 #[.int .i64 parts,.int .i64 mode] w λe w'=>e=.returned (.tuple #[.pointer F,.int .i64 1])/\w'=w:=by
 by_cases h1:parts<1
 ·clear h;go_enter func34,ntmps34;go_wp2;go_ret2
  exact⟨rfl,rfl⟩
 ·have h2:4<parts:=I
  clear h;go_enter func34,ntmps34;go_wp2;go_ret2
  exact⟨rfl,rfl⟩
def Mg(parts mode:Int)(w:af)(h1:1<=parts)(h2:parts<=4)(h:m9 mode=E):
 Calls prog 34 #[.int .i64 parts,.int .i64 mode] w λe w'=>e=.returned (.tuple #[.pointer F,.int .i64 2])/\w'=w:=by
 have g1:¬parts<1:=I
 have g2:¬4<parts:=I
 have c:=zn mode w;rw[h]at c;clear h;go_enter func34,ntmps34;go_wp2_with (go_at_call 66;refine c.mono ?_;rintro e w' ⟨rfl,rfl⟩)
 go_ret2
 exact⟨rfl,rfl⟩
def Mi(parts mode:Int)(w:af)(τ:Nat->Tag)(aJ:Nat)(h1:1<=parts)(h2:parts<=4)(h:m9 mode=Z6):
 Calls prog 34 #[.int .i64 parts,.int .i64 mode] w λe w'=>∃τ' sb A,e=.returned (.tuple #[ptr sb,.int .i64 0])/\bB w' τ' aJ sb {parts:=parts.toNat,mode:=mode,ws:= [],rs:= []} A/\Below w.heap.size w w'/\(∀k,k<w.heap.size->τ' k=τ k)/\w.heap.size<=sb:=by
 have g1:¬parts<1:=I
 have g2:¬4<parts:=I
 have c:=zn mode w;rw[h]at c;clear h;have hmm:=@run_makeMap prog;obtain⟨pi,hpi,YB,ag0,LD⟩:=aj4 QM;obtain⟨n,rfl⟩:=Int.eq_ofNat_of_zero_le (I:0<=parts);go_enter func34,ntmps34;go_wp2_with (go_at_call 66;refine c.mono ?_;rintro e w' ⟨rfl,hw⟩;obtain rfl:=hw.symm)
 go_loopw [22] (λu wr=>∃(k:Nat) (τ':Nat->Tag) (cR:aj) (pb kb vb:Nat->Nat),k<=n/\u=.int .i64 k/\B2 wr τ' aJ (w.heap.size+2) w.heap.size (w.heap.size+1) mode k cR pb kb vb w.heap.size/\Below w.heap.size w wr/\Hid (∀k,k<w.heap.size->τ' k=τ k)) (λu _=>n-(intOf u).toNat)
 case atStart=>
  refine⟨0,λk=>if k=w.heap.size+2 then(aJ,0,0)else if k=w.heap.size then(aJ,5,0)else if k=w.heap.size+1 then(aJ,10,0)else τ k,.slice F 0 0,λ_=>0,λ_=>0,λ_=>0,zbb _,rfl,⟨?_,XI,(aS.made w prog 3).of_eq ((za4 _ _ _ Yn).trans (za4 _ _ _ XI)),XI,?_,XI,ak3 _ _ _ _,λj hj=>(by cases hj),λq hq=>I,I,I,I,λj hj=>(by cases hj)⟩,?_,λk hk=>?_⟩
  ·have:=aT.new ((w.alloc (.map #[] 0)).alloc (.map #[] 0)) #[.int .i64 mode,.slice F 0 0,fH,gy,.int .i64 0,.int .i64 0,.map (Y w.heap.size),.map (Y (w.heap.size+1))] 105;simpa[fH,gy]using this
  ·have:=(aS.made (w.alloc (.map #[] 0)) prog 3)
   have e:(w.alloc (.map #[] 0)).heap.size=w.heap.size+1:=XI
   rw[e]at this;exact this.of_eq (za4 _ _ _ XI)
  ·exact(((ag2 _ _).alloc (za5 _) _).alloc XI _).alloc Yn _
  ·have e1:k≠w.heap.size+2:=I
   have e2:k≠w.heap.size:=I
   have e3:k≠w.heap.size+1:=I
   simp[e1,e2,e3]
 case round=>
  obtain⟨k,τ1,cR,pb,kb,vb,hk,rfl,hM,hB,HT⟩:=hrel;by_cases hlt:k<n
  ·obtain⟨av,cv,hpv⟩:=bI hM.row;have c1:wr.cell? ⟨w.heap.size+2,1,F⟩=Y cR:=hM.blk.cell (o:=1) rfl;have kR:=hM.blk.lt;have HS:Hid (∀(w2:af) (v2:aj) (o:Obj),w2.ownsRow 0 130 1 v2 (k+1) ((ab8 k).map (λq=>ptr (pb q))++ [.pointer (Y ⟨wr.heap.size+2,0,F⟩)])->((bY wr.drew).alloc o).grownBy w2 cR.ownBlock->(v2.ownBlock=cR.ownBlock\/v2.ownBlock=Y ((bY wr.drew).alloc o).heap.size)->
    ∃(τ':Nat->Tag) (pb' kb' vb':Nat->Nat),B2 (w2.setCell ⟨w.heap.size+2,1,F⟩ v2) τ' aJ (w.heap.size+2) w.heap.size (w.heap.size+1) mode (k+1) v2 pb' kb' vb' w.heap.size/\Below w.heap.size w (w2.setCell ⟨w.heap.size+2,1,F⟩ v2)/\∀k,k<w.heap.size->τ' k=τ k):=
    λw2 v2 o a1 a2 a3=>MK hM hB HT.out a1 a2 a3
   have UI:Below wr.heap.size wr (bY wr.drew):=zC wr;have hPs:(bY wr.drew).heap.size=wr.heap.size+3:=B4 wr;have cP:(bY wr.drew).cell? ⟨w.heap.size+2,1,F⟩=Y cR:=(UI.cell (p:=⟨w.heap.size+2,1,F⟩) kR).trans c1;have cPa:∀o,((bY wr.drew).alloc o).cell? ⟨w.heap.size+2,1,F⟩=Y cR:=λo=>(za7 (w:=bY wr.drew) (za4 _ _ _ (by rw[hPs];simp only;omega))).trans cP;have acG:(bY wr.drew).ownsRow 0 130 1 cR k ((ab8 k).map (λq=>ptr (pb q))):=aI hM.row (λj hj=>UI.block j (aQ hM.row j hj).2);have hrb:cR.ownBlock≠Y (w.heap.size+2):=λe=>by have h1:=hM.eY _ e;rw[hM.tag]at h1;simp at h1
   have HBG:Hid (∀(w2:af) (o:Obj),((bY wr.drew).alloc o).grownBy w2 cR.ownBlock->aT w2 (w.heap.size+2) #[.int .i64 mode,cR,fH,gy,.int .i64 0,.int .i64 0,.map (Y w.heap.size),.map (Y (w.heap.size+1))] 105):=
    λw2 o hG=>hM.blk.of_eq ((hG.block _ Yn (λe=>hrb e.symm)).trans ((za4 _ _ _ I).trans (UI.block _ kR)))
   clear hPs;have cn:=FG wr.drew;unfold ptr at cn;have hdz:wr.drew.heap.size+2=wr.heap.size+2:=rfl;rw[hdz]at cn;subst hpv;generalize (ab8 k).map (λq=>ptr (pb q))=xs at *;go_wp2_with fail
   go_region_law (first|(refine eN rfl (.tmp 28) (.tmp 30) 94 rfl 0 130 pi _ 1 8 underlying94 hpi YB ag0 LD rfl Yo (.slice av k cv) k xs rfl (acG.alloc _) ⟨_,0,F⟩ 1 1 [.pointer (Y ⟨wr.heap.size+2,0,F⟩)] rfl rfl (ao9 _ _ _) (by simp[ai9]) (by unfold ae0;omega) I (zbb _) ?_;intro v2 w2 kA jm Ie hA2;have fG:=HBG.out w2 _ jm;have d1:=fG.cell (o:=1) (v:=.slice av k cv) rfl;have e1:=fG.frozen 1;obtain⟨g2,cap2,nW,-⟩:=aZ kA I;rw[nW])|(go_simp;go_at_call 67;refine cn.mono ?_;rintro e w5 ⟨rfl,rfl⟩))
   all_goals
    obtain⟨τ2,pb2,kb2,vb2,r1,r2,r3⟩:=HS.out w2 v2 _ kA jm hA2
    have R3:Hid (∀k,k<w.heap.size->τ2 k=τ k):=r3
    rw[nW]at r1 r2
    clear r3 cn
    go_wp2_with fail
    go_roundw
    case rel=>exact⟨k+1,τ2,_,pb2,kb2,vb2,I,by go_num,r1,r2,R3⟩
    case measure=>simp[intOf];omega
  ·have hkn:k=n:=I
   obtain⟨A,hA⟩:=hM.rep I I;go_wp2_with fail
   go_ret2
   refine⟨τ1,w.heap.size+2,A,rfl,?_,hB,HT.out,I⟩;rw[Int.toNat_natCast,<-hkn];exact hA
end
section
open Go Go.RowKit Go.MuLone
section
variable {w:af}
def ML(key:ah)(gb go:Nat)(L:List ah)(cap:Nat)(h8:L.length<=8)(hcell:∀(k:Nat) (x:ah),L[k]?=Y x->w.cell? ⟨gb,go+k,F⟩=Y (.string x))(n:Nat)(hn:n<=L.length):
 Calls prog 106 #[.slice (Y ⟨gb,go,F⟩) n cap,.string key] w λe w'=>(∃i:Int,e=.returned (.int .i64 i)/\(fN (L.take n) key=decide (0<=i)))/\w'=w:=by
 go_enter func106,ntmps106;go_wp2_with fail
 go_loop [8] (λu=>∃k:Nat,k<=n/\u=.int .i64 k/\Hid (∀j y,j<k->L[j]?=Y y->y≠key)) (λu=>n-(intOf u).toNat)
 case atStart=>exact⟨0,zbb _,rfl,λj y hj=>I⟩
 case round=>
  obtain⟨k,hk,rfl,HO⟩:=hrel;by_cases hlt:k<n
  ·have AO:k<L.length:=I
   have hx:L[k]?=Y L[k]:=za6 AO;have ck:=hcell k _ hx;clear hcell;generalize L[k]=kk at *;by_cases he:key=kk
   ·have Hr:Hid (fN (L.take n) key=Z6):=sD hlt hx he.symm;have hb:=fj he;clear he hx;go_wp2_with fail
    go_ret;exact⟨⟨k,rfl,by rw[Hr.out];simp⟩,rfl⟩
   ·have yO:Hid (∀j y,j<k+1->L[j]?=Y y->y≠key):=by
     intro j y hj hy;by_cases e:j=k
     ·subst e;rw[hx]at hy;cases hy;exact λe=>he e.symm
     ·exact HO.out j y I hy
    have hb:=kQ he;clear he hx;go_wp2_with fail
    go_round
    case rel=>exact⟨k+1,I,by go_num,yO⟩
    case measure=>simp[intOf];omega
  ·have Hr:Hid (fN (L.take n) key=E):=sE (λj y hj=>HO.out j y I);clear hcell;go_wp2_with fail
   go_ret;exact⟨⟨-1,rfl,by rw[Hr.out];simp⟩,rfl⟩
def Bb(key:ah)(gb go:Nat)(L:List ah)(cap:Nat)(h8:L.length<=8)(hcell:∀(k:Nat) (x:ah),L[k]?=Y x->w.cell? ⟨gb,go+k,F⟩=Y (.string x))(n:Nat)(hn:n<=L.length):
 Calls prog 69 #[.slice (Y ⟨gb,go,F⟩) n cap,.string key] w λe w'=>e=.returned (.bool (fN (L.take n) key))/\w'=w:=by
 have c:=ML key gb go L cap h8 hcell n hn;clear hcell;go_enter func69,ntmps69;go_wp2_with fail
 refine c.mono ?_;rintro e w' ⟨⟨i,rfl,Hi⟩,rfl⟩;have HI:Hid (fN (L.take n) key=decide (0<=i)):=Hi;clear c Hi;go_wp2_with fail
 go_ret;exact⟨cJ HI.out.symm,rfl⟩
def zD(a:Option aA)(L:List ah)(cap:Nat)(hL:L.length<=ae0)(hs:L.length<1\/8<L.length):
 Calls prog 36 #[.slice a L.length cap] w λe w'=>e=.returned (.int .i64 (iB L))/\w'=w:=by
 have Hr:Hid (iB L=3):=by unfold Hid iB;rw[if_pos hs]
 unfold ae0 at hL;have cz:=oA L.length w;have hg:gG L.length=E:=by
  unfold gG;rcases hs with e|e
  ·rw[decide_eq_false I];rfl
  ·rw[Bool.and_eq_false_iff];exact ak9 (decide_eq_false I)
 rw[hg]at cz;clear hs hg;go_enter func36,ntmps36;go_wp2_with (go_at_call 68;refine cz.mono ?_;rintro e w' ⟨rfl,rfl⟩)
 go_ret;exact⟨gn Hr.out.symm,rfl⟩
def zE(gb go:Nat)(L:List ah)(cap:Nat)(h1:1<=L.length)(h8:L.length<=8)(Uz:L.length<=cap)(hcm:cap<=ae0)(hz:∀x∈L,x.size<=ae0)
 (hcell:∀(k:Nat) (x:ah),L[k]?=Y x->w.cell? ⟨gb,go+k,F⟩=Y (.string x)):
 Calls prog 36 #[.slice (Y ⟨gb,go,F⟩) L.length cap] w λe w'=>e=.returned (.int .i64 (iB L))/\w'=w:=by
 have HC:Hid (iB L=dO [] L):=by unfold Hid iB;rw[if_neg I]
 unfold ae0 at hcm;have cz:=oA L.length w;have zv:gG L.length=Z6:=by unfold gG;rw[decide_eq_true (show (1:Int)<=L.length by omega),decide_eq_true (show (L.length:Int)<=8 by omega)];rfl
 rw[zv]at cz;clear zv;go_enter func36,ntmps36;go_wp2_with (go_at_call 68;refine cz.mono ?_;rintro e w' ⟨rfl,hw0⟩;obtain rfl:=hw0.symm)
 clear cz;go_loop [11] (λu=>∃k:Nat,k<=L.length/\u=.int .i64 k/\Hid (dO [] L=dO (L.take k) (L.drop k))) (λu=>L.length-(intOf u).toNat)
 case atStart=>exact⟨0,zbb _,rfl,by simp[Hid]⟩
 case round=>
  obtain⟨k,hk,rfl,HK⟩:=hrel;by_cases hlt:k<L.length
  ·have hx:L[k]?=Y L[k]:=za6 hlt;have c1:=hcell k _ hx;have hs1:=hz _ (ap0 hlt);have ck:=vG L[k] w hs1;have cc:=Bb (w:=w) L[k] gb go L cap h8 hcell k hk;generalize L[k]=kk at *;unfold ae0 at hs1;cases qj:bz kk with
   |false=>
    have Hr:Hid (iB L=4):=by unfold Hid;rw[HC.out,HK.out,nC hx,KX qj]
    rw[qj]at ck;clear qj hx hcell cc;go_wp2_with (go_at_call 49;refine ck.mono ?_;rintro e w' ⟨rfl,rfl⟩)
    go_ret;exact⟨gn Hr.out.symm,rfl⟩
   |true=>
    rw[qj]at ck;cases hh:fN (L.take k) kk with
    |true=>
     have Hr:Hid (iB L=5):=by unfold Hid;rw[HC.out,HK.out,nC hx,B5 qj hh]
     rw[hh]at cc;clear qj hx hh hcell;go_wp2_with (first|(go_at_call 49;refine ck.mono ?_;rintro e w' ⟨rfl,rfl⟩)|(go_at_call 69;refine cc.mono ?_;rintro e w' ⟨rfl,rfl⟩))
     go_ret;exact⟨gn Hr.out.symm,rfl⟩
    |false=>
     have Yr:Hid (dO [] L=dO (L.take (k+1)) (L.drop (k+1))):=by unfold Hid;rw[HK.out,nC hx,QN qj hh,pI hx]
     rw[hh]at cc;clear qj hx hh hcell;go_wp2_with (first|(go_at_call 49;refine ck.mono ?_;rintro e w' ⟨rfl,rfl⟩)|(go_at_call 69;refine cc.mono ?_;rintro e w' ⟨rfl,rfl⟩))
     go_round
     case rel=>exact⟨k+1,I,by go_num,Yr⟩
     case measure=>simp[intOf];omega
  ·have Hr:Hid (iB L=0):=by unfold Hid;rw[HC.out,HK.out,show k=L.length from by omega,List.drop_length];rfl
   clear hcell;go_wp2_with fail
   go_ret;exact⟨gn Hr.out.symm,rfl⟩
end
end
section
open Go Go.RowKit Go.MuLone
open Go.Maps (Keyed)
def Hit(n:Int)(ws:List MW)(key:ah)(i:Nat):Prop:=∃m,ws[i]?=Y m/\aN m.items key=Z6/\m.comm (partOf n key).toNat=Z6
def QR{n:Int}{ws:List MW}:∀(k v:Nat),v<=k->(v≠0->Hit n ws key (v-1))->(∀i,i<k->Hit n ws key i->i+1<=v)->jy n ws key k=v:=by
 intro k;induction k with
 |zero=>intro v h1 _ _;simp[jy];omega
 |succ k ih=>
  intro v h1 hs ht;by_cases hh:Hit n ws key k
  ·have:=ht k I hh;obtain⟨m,hm,a,b⟩:=hh;rw[B7 hm a b];omega
  ·have hv:v<=k:=by
    apply Classical.byContradiction;intro e;have:v=k+1:=I
    subst this;exact hh (hs I)
   have hr:=ih v hv hs (λi hi=>ht i I);rw[<-hr];show jy n ws key (k+1)=_;simp only[jy];split
   ·rename_i m hm;rw[if_neg (λe=>hh ⟨m,hm,by simpa using e⟩)]
   ·rfl
def FH(w:af):(zeroValue 106).run prog w=.ok (.pointer F) w:=by rw[Tryz.zeroValue106]
def m7(w:af):(zeroValue 139).run prog w=.ok (.pointer F) w:=by rw[Tryz.zeroValue139]
section
variable {w:af}{τ:Nat->Tag}{aJ b:Nat}{s:MS}{A:SA}
def bB.QS(h:bB w τ aJ b s A)(key:ah):A.vis (partOf s.parts key).toNat key.data.toList=aU s key:=by
 have hp1:=h.ok.p1;obtain⟨h0,h1⟩:=iK s.parts key I;have hq:(partOf s.parts key).toNat<s.parts:=I
 have hv:=h.mh _ hq;symm;unfold aU;refine QR _ _ ?_ (λhne=>?_) (λi hi hh=>?_)
 ·by_cases e:A.vis (partOf s.parts key).toNat key.data.toList=0
  ·omega
  ·obtain⟨m,hm,_⟩:=hv.seen _ e;have:=aH hm;omega
 ·obtain⟨m,hm,hc,x,hx,hxl,_⟩:=hv.seen _ hne;refine⟨m,hm,?_,hc⟩;simp only[aN,ai3,decide_eq_true_eq];exact⟨x,hx,ao2 hxl⟩
 ·obtain⟨m,hm,hk,hc⟩:=hh;simp only[aN,ai3,decide_eq_true_eq]at hk;obtain⟨x,hx,rfl⟩:=hk;exact hv.top i m x hm hc hx I
def iE{b o:Nat}{v:aj}{c:Array aj}{t:az}(h:aT w b c t)(hv:c[o]?=Y v):w.setCell ⟨b,o,F⟩ v=w:=by
 have e:(w.setCell ⟨b,o,F⟩ v).heap=w.heap:=by
  apply an1;intro i;by_cases ei:i=b
  ·subst ei;have h1:(w.setCell ⟨i,o,F⟩ v).heap[i]?=Y (.cells (c.setIfInBounds o v) t (0,0)):=h.set o v;have h2:w.heap[i]?=Y (.cells c t (0,0)):=h;rw[h1,h2];congr 2;obtain⟨ho,hv'⟩:=za8.1 hv;apply an1;intro j;by_cases ej:o=j
   ·subst ej;simp[ho,hv']
   ·simp[ej]
  ·rw[za3 _ _ _ _ ei]
 show {w with heap:=(w.setCell ⟨b,o,F⟩ v).heap}=w;rw[e]
def FI:(prog.info? 144).map (·.size)=Y 4:=Yl
def QT(pb kb vb:Nat)(f:Lit->Option aj)(hb:aT w pb #[fH,gy,.map (Y kb),.map (Y vb)] 202)(hM:aS w prog 9 vb f)(key:ah)(hk:key.size<=ae0)(v:Nat)(hf:(f (.string key.data.toList)).getD (.int .i64 0)=.int .i64 v):
 Calls prog 74 #[ptr pb,.string key] w λe w'=>e=.returned (.agg #[.int .i64 v,.bool E,.string ⟨#[]⟩,.nilIface])/\Below w.heap.size w w':=by
 have hpl:=hb.lt;have hvl:=hM.lt;have hne:=dB hb hM;have jd:aT (w.alloc (.cells #[.int .i64 0,.bool E,.string ⟨#[]⟩,.nilIface] 144)) pb _ _:=hb.of_eq (za4 _ _ _ hpl);have pz:aS (w.alloc (.cells #[.int .i64 0,.bool E,.string ⟨#[]⟩,.nilIface] 144)) prog 9 vb f:=hM.of_eq (za4 _ _ _ hvl);have hT:=aT.new w #[.int .i64 0,.bool E,.string ⟨#[]⟩,.nilIface] 144;have Ml:∀k,k<w.heap.size->(w.alloc (.cells #[.int .i64 0,.bool E,.string ⟨#[]⟩,.nilIface] 144)).heap[k]?=w.heap[k]? :=λk hk=>za4 _ _ _ hk;have hsz:(w.alloc (.cells #[.int .i64 0,.bool E,.string ⟨#[]⟩,.nilIface] 144)).heap.size=w.heap.size+1:=XI
 have hos:(w.alloc (.cells #[.int .i64 0,.bool E,.string ⟨#[]⟩,.nilIface] 144)).os=w.os/\(w.alloc (.cells #[.int .i64 0,.bool E,.string ⟨#[]⟩,.nilIface] 144)).tape=w.tape/\(w.alloc (.cells #[.int .i64 0,.bool E,.string ⟨#[]⟩,.nilIface] 144)).output=w.output:=⟨rfl,rfl,rfl⟩
 unfold ptr;go_enter_defers func74,ntmps74;go_wp2_with fail
 generalize w.alloc (.cells #[.int .i64 0,.bool E,.string ⟨#[]⟩,.nilIface] 144)=wa at *;have c0:wa.cell? ⟨pb,0,F⟩=Y (.int .i32 0):=jd.cell (o:=0) rfl;have f0:=jd.frozen 0;refine(ak6 Tryz.bD ⟨pb,0,F⟩ _ c0 f0).mono ?_;rintro e w' ⟨rfl,rfl⟩;have fG:=jd.set 0 (.int .i32 1);have xL:aS (wa.setCell ⟨pb,0,F⟩ (.int .i32 1)) prog 9 vb f:=pz.of_eq (za3 _ _ _ _ (λe=>hne e.symm));have rE:aT (wa.setCell ⟨pb,0,F⟩ (.int .i32 1)) w.heap.size _ _:=hT.of_eq (za3 _ _ _ _ (by simp only;omega));generalize Oj:wa.setCell ⟨pb,0,F⟩ (.int .i32 1)=wb at *;have d3:wb.cell? ⟨pb,3,F⟩=Y (.map (Y vb)):=fG.cell (o:=3) rfl;have t0:=rE.cell (o:=0) (v:=.int .i64 0) rfl;have t1:=rE.cell (o:=1) (v:=.bool E) rfl;have t2:=rE.cell (o:=2) (v:=.string ⟨#[]⟩) rfl;have t3:=rE.cell (o:=3) (v:=.nilIface) rfl;have g0:=rE.frozen 0;have g1:=rE.frozen 1;have g2:=rE.frozen 2;have g3:=rE.frozen 3;have hlk:(Instr.lookup 200 (.map (Y vb)) (.string key) E).run prog wb.drew=.ok (.int .i64 v) wb.drew:=by have:=aS.look (w:=wb.drew) (e:=3) xL gx underlying200 (Dk _) (fQ hk);rw[hf]at this;exact this
 go_wp2_with fail
 have QU:pb≠w.heap.size:=I
 have S7:aT wb.drew w.heap.size _ _:=rE;have UJ:∀x,(wb.setCell ⟨w.heap.size,0,F⟩ x).drew.cell? ⟨pb,3,F⟩=Y (.map (Y vb)):=λx=>(jA (w:=wb) QU).trans d3;have z0:wb.drew.setCell ⟨w.heap.size,0,F⟩ (.int .i64 0)=wb.drew:=iE S7 rfl;have z1:wb.drew.setCell ⟨w.heap.size,1,F⟩ (.bool E)=wb.drew:=iE S7 rfl;have z2:wb.drew.setCell ⟨w.heap.size,2,F⟩ (.string ⟨#[]⟩)=wb.drew:=iE S7 rfl;have z3:wb.drew.setCell ⟨w.heap.size,3,F⟩ .nilIface=wb.drew:=iE S7 rfl;go_region_held3 (λW=>W.cell? ⟨pb,3,F⟩=Y (.map (Y vb))) (first|exact UJ _|(simp[*];done)) (fail)
 all_goals
  go_wp2_with fail
  have xM:aT (wb.setCell ⟨w.heap.size,0,F⟩ (.int .i64 v)).drew pb _ _:=fG.of_eq (za3 _ _ _ _ QU)
  have wQ:aT (wb.setCell ⟨w.heap.size,0,F⟩ (.int .i64 v)).drew w.heap.size #[.int .i64 v,.bool E,.string ⟨#[]⟩,.nilIface] 144:=by
   have this:aT (wb.setCell ⟨w.heap.size,0,F⟩ (.int .i64 v)) w.heap.size #[.int .i64 v,.bool E,.string ⟨#[]⟩,.nilIface] 144:=by simpa using rE.set 0 (.int .i64 v)
   exact this
  have H6:aT ((wb.setCell ⟨w.heap.size,0,F⟩ (.int .i64 v)).drew.setCell ⟨pb,0,F⟩ fH) w.heap.size _ _:=wQ.of_eq (za3 _ _ _ _ (λe=>QU e.symm))
  refine ai2 (f:=38) (args:=#[.pointer (Y ⟨pb,0,F⟩)]) XI YU ?_
  refine(af1 Tryz.bD ⟨pb,0,F⟩ .returning _ (xM.cell (o:=0) rfl) (xM.frozen 0)).mono ?_
  rintro e u' w'' ⟨rfl,rfl,rfl⟩
  refine⟨_,results_cell_row rfl _ _ w.heap.size _ _ (0,0) _ rfl H6 underlying144 rfl FI,rfl,?_,?_,?_,?_,?_⟩
  ·rw[<-Oj];exact hos.1
  ·rw[<-Oj];exact hos.2.1
  ·rw[<-Oj];exact hos.2.2
  ·have:wb.heap.size=wa.heap.size:=by rw[<-Oj];simp[ab1]
   simp[ab1];omega
  ·intro k hk
   refine(fE jd rfl (v:=.int .i32 1) (p:=λk=>k<w.heap.size) (λk hk=>?_) k hk).trans (Ml k hk)
   rw[Oj]
   exact za3 _ _ _ _ (by simp only;omega)
def eT(s:MS)(A:SA)(n:Int):aj×Bool:=match dQ s n with
 |some _=>(ptr (A.R.pr (n-1).toNat),Z6)
 |none=>(.pointer F,E)
def kT(h:bB w τ aJ b s A)(n:Int)(hn: -9223372036854775808<=n)(hn':n<=9223372036854775807):
 Calls prog 40 #[ptr b,.int .i64 n] w λe w'=>e=.returned (.tuple #[(eT s A n).1,.bool (eT s A n).2])/\vF w w':=by
 have c2:w.cell? ⟨b,2,F⟩=Y (.int .i32 0):=h.blk.cell (o:=2) rfl;have c7:w.cell? ⟨b,7,F⟩=Y (.map (Y A.R.rm)):=h.blk.cell (o:=7) rfl;have f2:=h.blk.frozen 2;have hM:∀v,aS (w.setCell ⟨b,2,F⟩ v) prog 3 A.R.rm (dW s.rs A.R):=λv=>h.reads.sL.of_eq (za3 _ _ _ _ (λe=>by have:=h.reads.iQ;rw[e,h.tag]at this;simp at this));have eX:=gB h.blk (o:=2) rfl (.int .i32 1);unfold fH at eX;obtain⟨fv,aP,hval⟩:∃fv,dW s.rs A.R (.int .i64 n)=fv/\(eT s A n).1=fv.getD (.pointer F)/\(eT s A n).2=fv.isSome:=by refine⟨_,rfl,?_⟩;unfold dW eT dQ;cases hf:gj s.rs n<;>simp only[hf]<;>exact⟨rfl,rfl⟩
 rw[hval.1,hval.2];unfold ptr;go_enter_defers func40,ntmps40;go_wp2_with (first|(go_at_call 37;refine(ak6 Tryz.bD ⟨b,2,F⟩ _ c2 f2).mono ?_;rintro e w' ⟨rfl,rfl⟩)|(at_lookup;refine cG _ rfl _ _ 103 rfl 3 106 eV underlying103 (FH _) A.R.rm (dW s.rs A.R) rfl (hM _) _ (.int .i64 n) rfl (ap1 hn hn') fv aP ?_))
 refine ai2 (f:=38) (args:=#[.pointer (Y ⟨b,2,F⟩)]) XI YU ?_;refine(af1 Tryz.bD ⟨b,2,F⟩ .returning _ ?_ ?_).mono ?_
 ·exact World.cell?_setCell_same w ⟨b,2,F⟩ (.int .i32 1) c2
 ·simp[f2]
 rintro e u' w'' ⟨rfl,rfl,rfl⟩;exact⟨_,av8 rfl _ _ _,rfl,eX⟩
end
def I9(h:aN l key=Z6):gT l key=Y (valueOf l key):=by
 unfold gT valueOf;cases hf:l.find? (λx=>decide (x.1=key))with
 |some x=>rfl
 |none=>
  rw[List.find?_eq_none]at hf;simp only[aN,ai3]at h;obtain⟨x,hx,hd⟩:=h;exact absurd hd (hf x hx)
section
variable {w:af}
def YP(pb kb:Nat)(f:Lit->Option aj)(c1:w.cell? ⟨pb,2,F⟩=Y (.map (Y kb)))(hM:aS w prog 3 kb f)(n:Int)(h1: -9223372036854775808<=n)(h2:n<=9223372036854775807)(key:ah)(a:Option aA)(L:List KV)(cap:Nat)(sv:aj)
 (hf:(f (.int .i64 n)).getD (.agg #[.slice F 0 0,.nilIface])=.agg #[.slice a L.length cap,sv]) (h8:L.length<=8) (hcell:∀(k:Nat) (x:KV),L[k]?=Y x->∃g,a=Y ⟨g,0,F⟩/\w.cell? ⟨g,k*2,F⟩=Y (.string x.1)/\w.cell? ⟨g,k*2+1,F⟩=Y (.string x.2)):
 Calls prog 115 #[ptr pb,.int .i64 n,.string key] w λe w'=>e=.returned (.tuple #[.string (valueOf L key),.bool (aN L key)])/\Below w.heap.size w w':=by
 have hfi:=zF (.slice a L.length cap) sv;obtain⟨fv,aP⟩:∃fv,f (.int .i64 n)=fv:=⟨_,rfl⟩
 rw[aP]at hf;unfold ptr;go_enter func115,ntmps115;go_wp2_with (at_lookup;refine ox _ rfl _ _ 199 rfl 3 214 eV underlying199 (nD _) kb f rfl hM _ (.int .i64 n) rfl (ap1 h1 h2) fv aP ?_;rw[hf])
 go_loopw [18] (λu wr=>∃k:Nat,k<=L.length/\u=.int .i64 k/\Below w.heap.size w wr/\Hid (∀j y,j<k->L[j]?=Y y->y.1≠key)) (λu _=>L.length-(intOf u).toNat)
 case atStart=>exact⟨0,zbb _,rfl,ag2 _ _,λj y hj=>I⟩
 case round=>
  obtain⟨k,hk,rfl,hB,HO⟩:=hrel;by_cases hlt:k<L.length
  ·have hx:L[k]?=Y L[k]:=za6 hlt;obtain⟨g,rfl,ck,cv⟩:=hcell k _ hx;have hgb:g<w.heap.size:=za9 w _ ck;have S4:=(hB.cell (p:=⟨g,k*2,F⟩) hgb).trans ck;have ZR:=(hB.cell (p:=⟨g,k*2+1,F⟩) hgb).trans cv;have Mm:∀o:Obj,Below w.heap.size w (wr.alloc o):=λo=>hB.alloc hB.size _;clear hcell ck cv;generalize L[k]=x at *;obtain⟨kk,vv⟩:=x;simp only at S4 ZR;by_cases he:kk=key
   ·have Hr:Hid (valueOf L key=vv/\aN L key=Z6):=vL hx he HO.out;have hb:=fj he;clear he hx;go_wp2_with fail
    go_ret2
    rw[Hr.out.1,Hr.out.2];exact⟨rfl,Mm _⟩
   ·have yO:Hid (∀j y,j<k+1->L[j]?=Y y->y.1≠key):=by
     intro j y hj hy;by_cases e:j=k
     ·subst e;rw[hx]at hy;cases hy;exact he
     ·exact HO.out j y I hy
    have hb:=kQ he;clear he hx;go_wp2_with fail
    go_roundw
    case rel=>exact⟨k+1,I,by go_num,Mm _,yO⟩
    case measure=>simp[intOf];omega
  ·have Hr:Hid (valueOf L key=ByteArray.empty/\aN L key=E):=qT (λj x hj=>HO.out j x I);clear hcell;go_wp2_with fail
   go_ret2
   rw[Hr.out.1,Hr.out.2];exact⟨rfl,hB⟩
def acK(pb kb vb:Nat)(f g:Lit->Option aj)(hb:aT w pb #[fH,gy,.map (Y kb),.map (Y vb)] 202)(hK:aS w prog 3 kb g)(hM:aS w prog 9 vb f)(key:ah)(hk:key.size<=ae0)(v:Nat)(QZ:v<=200)(hf:(f (.string key.data.toList)).getD (.int .i64 0)=.int .i64 v)
 (a:Option aA) (L:List KV) (cap:Nat) (sv:aj) (rD:AW sv) (hg:(g (.int .i64 v)).getD (.agg #[.slice F 0 0,.nilIface])=.agg #[.slice a L.length cap,sv]) (h8:L.length<=8) (hcell:∀(k:Nat) (x:KV),L[k]?=Y x->∃g,a=Y ⟨g,0,F⟩/\w.cell? ⟨g,k*2,F⟩=Y (.string x.1)/\w.cell? ⟨g,k*2+1,F⟩=Y (.string x.2)) (YF:∀g,a=Y ⟨g,0,F⟩->g≠pb):
 Calls prog 75 #[ptr pb,.string key] w λe w'=>e=.returned (.agg #[.int .i64 v,.bool (aN L key),.string (valueOf L key),sv])/\Below w.heap.size w w':=by
 have hpl:=hb.lt;have hvl:=hM.lt;have wN:=hK.lt;have hne:=dB hb hM;have acS:=dB hb hK;have jd:aT (w.alloc (.cells #[.int .i64 0,.bool E,.string ⟨#[]⟩,.nilIface] 144)) pb _ _:=hb.of_eq (za4 _ _ _ hpl);have hT:=aT.new w #[.int .i64 0,.bool E,.string ⟨#[]⟩,.nilIface] 144;have Ml:∀k,k<w.heap.size->(w.alloc (.cells #[.int .i64 0,.bool E,.string ⟨#[]⟩,.nilIface] 144)).heap[k]?=w.heap[k]? :=λk hk=>za4 _ _ _ hk;have hsz:(w.alloc (.cells #[.int .i64 0,.bool E,.string ⟨#[]⟩,.nilIface] 144)).heap.size=w.heap.size+1:=XI
 have hos:(w.alloc (.cells #[.int .i64 0,.bool E,.string ⟨#[]⟩,.nilIface] 144)).os=w.os/\(w.alloc (.cells #[.int .i64 0,.bool E,.string ⟨#[]⟩,.nilIface] 144)).tape=w.tape/\(w.alloc (.cells #[.int .i64 0,.bool E,.string ⟨#[]⟩,.nilIface] 144)).output=w.output:=⟨rfl,rfl,rfl⟩
 unfold ptr;go_enter_defers func75,ntmps75;go_wp2_with fail
 generalize w.alloc (.cells #[.int .i64 0,.bool E,.string ⟨#[]⟩,.nilIface] 144)=wa at *;have c0:wa.cell? ⟨pb,0,F⟩=Y (.int .i32 0):=jd.cell (o:=0) rfl;have f0:=jd.frozen 0;refine(ak6 Tryz.bD ⟨pb,0,F⟩ _ c0 f0).mono ?_;rintro e w' ⟨rfl,rfl⟩;have fG:=jd.set 0 (.int .i32 1);have dY:∀k,k<w.heap.size->k≠pb->(wa.setCell ⟨pb,0,F⟩ (.int .i32 1)).heap[k]?=w.heap[k]? :=λk hk hkp=>(za3 _ _ _ _ hkp).trans (Ml k hk);have xL:aS (wa.setCell ⟨pb,0,F⟩ (.int .i32 1)) prog 9 vb f:=hM.of_eq (dY _ hvl (λe=>hne e.symm));have Ol:aS (wa.setCell ⟨pb,0,F⟩ (.int .i32 1)) prog 3 kb g:=hK.of_eq (dY _ wN (λe=>acS e.symm));have rE:aT (wa.setCell ⟨pb,0,F⟩ (.int .i32 1)) w.heap.size _ _:=hT.of_eq (za3 _ _ _ _ (by simp only;omega));have Q7:∀(k:Nat) (x:KV),L[k]?=Y x->∃g,a=Y ⟨g,0,F⟩/\(wa.setCell ⟨pb,0,F⟩ (.int .i32 1)).cell? ⟨g,k*2,F⟩=Y (.string x.1)/\(wa.setCell ⟨pb,0,F⟩ (.int .i32 1)).cell? ⟨g,k*2+1,F⟩=Y (.string x.2):=λk x hx=>by obtain⟨g,e,r1,r2⟩:=hcell k x hx;have ZG:g<w.heap.size:=za9 w _ r1;exact⟨g,e,(za7 (w:=w) (dY g ZG (YF g e))).trans r1,(za7 (w:=w) (dY g ZG (YF g e))).trans r2⟩
 have aht:(wa.setCell ⟨pb,0,F⟩ (.int .i32 1)).heap.size=wa.heap.size:=by simp[ab1]
 generalize Oj:wa.setCell ⟨pb,0,F⟩ (.int .i32 1)=wb at *;have d3:wb.cell? ⟨pb,3,F⟩=Y (.map (Y vb)):=fG.cell (o:=3) rfl;have d2:wb.cell? ⟨pb,2,F⟩=Y (.map (Y kb)):=fG.cell (o:=2) rfl;have cvl:=YP (w:=wb) pb kb g d2 Ol v I I key a L cap sv hg h8 Q7;unfold ptr at cvl;obtain⟨fv,aP⟩:∃fv,f (.string key.data.toList)=fv:=⟨_,rfl⟩
 rw[aP]at hf;clear hcell Q7 dY;go_wp2_with (at_lookup;refine ox _ rfl _ _ 200 rfl 9 3 gx underlying200 (Dk _) vb f rfl xL _ (.string key.data.toList) rfl (fQ hk) fv aP ?_;rw[hf])
 refine cvl.mono ?_;rintro e w2 ⟨rfl,eH⟩;clear cvl;have Q8:aT w2 w.heap.size _ _:=rE.of_eq (eH.block _ rE.lt);have hbc:aT w2 pb _ _:=fG.of_eq (eH.block _ fG.lt);have hKc:aS w2 prog 3 kb g:=Ol.of_eq (eH.block _ Ol.lt);have e2:w2.cell? ⟨pb,2,F⟩=Y (.map (Y kb)):=hbc.cell (o:=2) rfl;have t0:=Q8.cell (o:=0) (v:=.int .i64 0) rfl;have t1:=Q8.cell (o:=1) (v:=.bool E) rfl;have t2:=Q8.cell (o:=2) (v:=.string ⟨#[]⟩) rfl;have t3:=Q8.cell (o:=3) (v:=.nilIface) rfl;have g0:=Q8.frozen 0;have g1:=Q8.frozen 1;have g2:=Q8.frozen 2;have g3:=Q8.frozen 3;have QU:pb≠w.heap.size:=I
 have S7:aT w2.drew w.heap.size _ _:=Q8;have z0:w2.drew.setCell ⟨w.heap.size,0,F⟩ (.int .i64 0)=w2.drew:=iE S7 rfl;have z1:w2.drew.setCell ⟨w.heap.size,1,F⟩ (.bool E)=w2.drew:=iE S7 rfl;have z2:w2.drew.setCell ⟨w.heap.size,2,F⟩ (.string ⟨#[]⟩)=w2.drew:=iE S7 rfl;have z3:w2.drew.setCell ⟨w.heap.size,3,F⟩ .nilIface=w2.drew:=iE S7 rfl;have UJ:∀x,(w2.setCell ⟨w.heap.size,0,F⟩ x).drew.cell? ⟨pb,2,F⟩=Y (.map (Y kb)):=λx=>(jA (w:=w2) QU).trans e2;have Wn:∀x y,((w2.setCell ⟨w.heap.size,0,F⟩ x).setCell ⟨w.heap.size,1,F⟩ y).drew.cell? ⟨pb,2,F⟩=Y (.map (Y kb)):=λx y=>(jA (w:=w2.setCell ⟨w.heap.size,0,F⟩ x) QU).trans (UJ x);have Wo:∀x y z,(((w2.setCell ⟨w.heap.size,0,F⟩ x).setCell ⟨w.heap.size,1,F⟩ y).setCell ⟨w.heap.size,2,F⟩ z).drew.cell? ⟨pb,2,F⟩=Y (.map (Y kb)):=λx y z=>(jA (w:=(w2.setCell ⟨w.heap.size,0,F⟩ x).setCell ⟨w.heap.size,1,F⟩ y) QU).trans (Wn x y);have acT:∀x y z u,((((w2.setCell ⟨w.heap.size,0,F⟩ x).setCell ⟨w.heap.size,1,F⟩ y).setCell ⟨w.heap.size,2,F⟩ z).setCell ⟨w.heap.size,3,F⟩ u).drew.cell? ⟨pb,2,F⟩=Y (.map (Y kb)):=λx y z u=>(jA (w:=((w2.setCell ⟨w.heap.size,0,F⟩ x).setCell ⟨w.heap.size,1,F⟩ y).setCell ⟨w.heap.size,2,F⟩ z) QU).trans (Wo x y z);have hfs:=YD (.slice a L.length cap) sv;have hlk:(Instr.lookup 199 (.map (Y kb)) (.int .i64 v) E).run prog w2.drew=.ok (.agg #[.slice a L.length cap,sv]) w2.drew:=by have:=aS.look (w:=w2.drew) (e:=214) hKc eV underlying199 (nD _) (ap1 (n:=v) I I);rw[hg]at this;exact this
 have HE:Hid (aT ((((w2.setCell ⟨w.heap.size,0,F⟩ (.int .i64 v)).setCell ⟨w.heap.size,1,F⟩ (.bool (aN L key))).setCell ⟨w.heap.size,2,F⟩ (.string (valueOf L key))).setCell ⟨w.heap.size,3,F⟩ sv) w.heap.size #[.int .i64 v,.bool (aN L key),.string (valueOf L key),sv] 144/\
  aT ((((w2.setCell ⟨w.heap.size,0,F⟩ (.int .i64 v)).setCell ⟨w.heap.size,1,F⟩ (.bool (aN L key))).setCell ⟨w.heap.size,2,F⟩ (.string (valueOf L key))).setCell ⟨w.heap.size,3,F⟩ sv) pb #[.int .i32 1,gy,.map (Y kb),.map (Y vb)] 202/\
  Below w.heap.size w (((((w2.setCell ⟨w.heap.size,0,F⟩ (.int .i64 v)).setCell ⟨w.heap.size,1,F⟩ (.bool (aN L key))).setCell ⟨w.heap.size,2,F⟩ (.string (valueOf L key))).setCell ⟨w.heap.size,3,F⟩ sv).setCell ⟨pb,0,F⟩ fH)):=by
  have Xg:∀k,k≠w.heap.size->((((w2.setCell ⟨w.heap.size,0,F⟩ (.int .i64 v)).setCell ⟨w.heap.size,1,F⟩ (.bool (aN L key))).setCell ⟨w.heap.size,2,F⟩ (.string (valueOf L key))).setCell ⟨w.heap.size,3,F⟩ sv).heap[k]?=w2.heap[k]? :=λk hk=>by rw[za3 _ _ _ _ hk,za3 _ _ _ _ hk,za3 _ _ _ _ hk,za3 _ _ _ _ hk]
  refine⟨?_,?_,?_⟩
  ·simpa using(((Q8.set 0 (.int .i64 v)).set 1 (.bool (aN L key))).set 2 (.string (valueOf L key))).set 3 sv
  ·have:=hbc.of_eq (Xg pb QU);simpa using this
  ·refine⟨?_,?_,?_,?_,λk hk=>?_⟩
   ·exact eH.os.trans (by rw[<-Oj];exact hos.1)
   ·exact eH.tape.trans (by rw[<-Oj];exact hos.2.1)
   ·exact eH.output.trans (by rw[<-Oj];exact hos.2.2)
   ·have:=eH.size;simp[ab1];omega
   ·refine(fE jd rfl (v:=.int .i32 1) (p:=λk=>k<w.heap.size) (λk hk=>?_) k hk).trans (Ml k hk);rw[Oj,Xg k I];exact eH.block k I
 have US:∀W:af,W.heap[kb]?=w2.heap[kb]? ->(Instr.lookup 199 (.map (Y kb)) (.int .i64 v) E).run prog W=.ok (.agg #[.slice a L.length cap,sv]) W:=λW hW=>by have:=aS.look (w:=W) (e:=214) (hKc.of_eq hW) eV underlying199 (nD _) (ap1 (n:=v) I I);rw[hg]at this;exact this
 have hkn:kb≠w.heap.size:=I
 have al5:=US (w2.setCell ⟨w.heap.size,0,F⟩ (.int .i64 v)).drew (za3 _ _ _ _ hkn);have al6:=US ((w2.setCell ⟨w.heap.size,0,F⟩ (.int .i64 v)).setCell ⟨w.heap.size,1,F⟩ (.bool (aN L key))).drew ((za3 _ _ _ _ hkn).trans (za3 _ _ _ _ hkn));have al7:=US (((w2.setCell ⟨w.heap.size,0,F⟩ (.int .i64 v)).setCell ⟨w.heap.size,1,F⟩ (.bool (aN L key))).setCell ⟨w.heap.size,2,F⟩ (.string (valueOf L key))).drew ((za3 _ _ _ _ hkn).trans ((za3 _ _ _ _ hkn).trans (za3 _ _ _ _ hkn)));have hsc:sv.cells=#[sv]:=by rcases rD with rfl|⟨_,_,rfl⟩ <;>rfl
 unfold Value.cells at hsc;have Hsv:Hid (AW sv):=rD;have Hpn:Hid (w.heap.size≠pb):=λe=>QU e.symm;generalize hhk:aN L key=V3 at *;generalize YL:valueOf L key=YG at *;generalize hnn:w.heap.size=nn at *;have Hhk:Hid _:=hhk;have Hvk:Hid _:=YL;have Hnn:Hid _:=hnn;clear hhk YL hnn;clear hg hf aP eH Q8 hbc hKc S7 hb hK hM jd fG hT rE Ml hos hsz aht hpl hvl wN hne acS xL Ol Oj d3 d2 c0 f0 rD h8 YF hk QZ QU hkn US;have hst:Sem.run prog (store ⟨nn,3,F⟩ sv) (((w2.setCell ⟨nn,0,F⟩ (.int .i64 v)).setCell ⟨nn,1,F⟩ (.bool V3)).setCell ⟨nn,2,F⟩ (.string YG)).drew=.ok () ((((w2.setCell ⟨nn,0,F⟩ (.int .i64 v)).setCell ⟨nn,1,F⟩ (.bool V3)).setCell ⟨nn,2,F⟩ (.string YG)).setCell ⟨nn,3,F⟩ sv).drew:=by rcases Hsv.out with rfl|⟨st,sx,rfl⟩ <;>go_simp
 go_wp2_with fail
 go_region_held3 (λW=>W.cell? ⟨pb,2,F⟩=Y (.map (Y kb))) (first|with_reducible exact UJ _|with_reducible exact Wn _ _|with_reducible exact Wo _ _ _|with_reducible exact acT _ _ _ _|(simp[*];done)) (fail)
 all_goals
  go_wp2_with fail
  obtain⟨wQ,xM,vK⟩:=HE.out
  have KF:aT ((((w2.setCell ⟨nn,0,F⟩ (.int .i64 v)).setCell ⟨nn,1,F⟩ (.bool V3)).setCell ⟨nn,2,F⟩ (.string YG)).setCell ⟨nn,3,F⟩ sv).drew pb _ _:=xM
  have H6:aT (((((w2.setCell ⟨nn,0,F⟩ (.int .i64 v)).setCell ⟨nn,1,F⟩ (.bool V3)).setCell ⟨nn,2,F⟩ (.string YG)).setCell ⟨nn,3,F⟩ sv).drew.setCell ⟨pb,0,F⟩ fH) nn _ _:=wQ.of_eq (za3 _ _ _ _ Hpn.out)
  refine ai2 (f:=38) (args:=#[.pointer (Y ⟨pb,0,F⟩)]) XI YU ?_
  refine(af1 Tryz.bD ⟨pb,0,F⟩ .returning _ (KF.cell (o:=0) rfl) (KF.frozen 0)).mono ?_
  rintro e u' w'' ⟨rfl,rfl,rfl⟩
  refine⟨_,results_cell_row rfl _ _ nn _ _ (0,0) _ rfl H6 underlying144 rfl FI,?_,?_⟩
  ·rw[Hhk.out,Hvk.out]
  ·rw[Hnn.out]
   exact⟨vK.os,vK.tape,vK.output,vK.size,vK.block⟩
end
section
variable {w:af}
def Dr:(prog.info? 62).map (·.size)=Y 3:=Yl
def zm(wb rm:Nat)(c:Array aj)(f:Lit->Option aj)(hb:aT w wb c 105)(e2:c[2]?=Y fH)(e7:c[7]?=Y (.map (Y rm)))(hM:aS w prog 3 rm f)(n:Int)(h1: -9223372036854775808<=n)(h2:n<=9223372036854775807):
 Calls prog 43 #[ptr wb,.int .i64 n] w λe w'=>e=.returned (.bool (f (.int .i64 n)).isSome)/\aS w' prog 3 rm (del f (.int .i64 n))/\rO w w' rm:=by
 have c2:w.cell? ⟨wb,2,F⟩=Y (.int .i32 0):=hb.cell e2;have c5:w.cell? ⟨wb,7,F⟩=Y (.map (Y rm)):=hb.cell e7;have f2:=hb.frozen 2;have hne:=dB hb hM;have pz:∀v,aS (w.setCell ⟨wb,2,F⟩ v) prog 3 rm f:=λv=>hM.of_eq (za3 _ _ _ _ (λe=>hne e.symm));have ZS:(c.setIfInBounds 2 (.int .i32 1))[2]?=Y (.int .i32 1):=by have:=(za8.1 e2).1;simp[this]
 unfold ptr;go_enter_defers func43,ntmps43;go_wp2_with (first|(go_at_call 37;refine(ak6 Tryz.bD ⟨wb,2,F⟩ _ c2 f2).mono ?_;rintro e w' ⟨rfl,rfl⟩)|(at_lookup;refine cG _ rfl _ _ 103 rfl 3 106 eV underlying103 (FH _) rm f rfl (pz _) _ (.int .i64 n) rfl (ap1 h1 h2) _ rfl ?_)|(at_delete;refine qd _ rfl _ _ 103 3 rfl 106 eV underlying103 rm f rfl (pz _) _ (.int .i64 n) rfl (ap1 h1 h2) ?_;intro w1 xL hT))
 have hB:=rO.fU hT;have jd:aT w1 wb _ 105:=(hb.set 2 (.int .i32 1)).of_eq (hB.block wb hne);refine ai2 (f:=38) (args:=#[.pointer (Y ⟨wb,2,F⟩)]) XI YU ?_;refine(af1 Tryz.bD ⟨wb,2,F⟩ .returning _ (jd.cell (o:=2) ZS) (jd.frozen 2)).mono ?_;rintro e u' w'' ⟨rfl,rfl,rfl⟩;exact⟨_,ak7 rfl _ _ _,rfl,xL.of_eq (za3 _ _ _ _ (λe=>hne e.symm)),rO.locked hb e2 _ hB hne⟩
end
def qF(qb:Nat->Nat)(L:List ah):Lit->Option aj
 |.string l=>if I8 L l<L.length then Y (ptr (qb (I8 L l)))else F
 |_=>F
structure iR(w:af)(τ:Nat->Tag)(aJ i P:Nat)(pb:Nat->Nat)(pr qm:Nat)(qb:Nat->Nat)(no:Bool)(ks:aj)(L:List ah)(B0:Nat):Prop where
 blk:aT w pr #[fH,gy,.bool no,ks,.map (Y qm)] 137
 tag:τ pr=(aJ,11,i)
 map:aS w prog 9 qm (qF qb L)
 iD:τ qm=(aJ,12,i)
 q:∀(j:Nat) (x:ah),L[j]?=Y x->aT w (qb j) #[ptr (pb (partOf P x).toNat),.bool E,.int .i64 0,.bool E,.string ⟨#[]⟩,.nilIface] 146
 l6:∀(j:Nat) (x:ah),L[j]?=Y x->τ (qb j)=(aJ,13,i*8+j)
 ky:w.ownsRow 0 9 1 ks L.length (L.map aj3)
 dV:∀k,ks.ownBlock=Y k->τ k=(aJ,14,i)
 lo:B0<=pr/\B0<=qm
 loQ:∀(j:Nat) (x:ah),L[j]?=Y x->B0<=qb j
 Oi:∀k,ks.ownBlock=Y k->B0<=k
section
variable {w:af}{τ:Nat->Tag}{aJ i P:Nat}{pb:Nat->Nat}{pr qm:Nat}{qb:Nat->Nat}{no:Bool}{ks:aj}{L:List ah}{B0:Nat}
def iR.frame(h:iR w τ aJ i P pb pr qm qb no ks L B0)(hB:∀k,B0<=k->k<w.heap.size->w'.heap[k]?=w.heap[k]?):iR w' τ aJ i P pb pr qm qb no ks L B0:=
 ⟨h.blk.of_eq (hB _ h.lo.1 h.blk.lt),h.tag,h.map.of_eq (hB _ h.lo.2 h.map.lt),h.iD,λj x hx=>(h.q j x hx).of_eq (hB _ (h.loQ j x hx) (h.q j x hx).lt),h.l6,aI h.ky (λk hk=>hB k (h.Oi k hk) (aQ h.ky k hk).2),h.dV,h.lo,h.loQ,h.Oi⟩
def iR.below(h:iR w τ aJ i P pb pr qm qb no ks L B0)(hB:Below w.heap.size w w'):iR w' τ aJ i P pb pr qm qb no ks L B0:=h.frame (λk _ hk=>hB.block k hk)
def YH(qb:Nat->Nat):qF qb []=λ_=>F:=by funext kl;cases kl<;>simp[qF]
def iR.made(w:af)(τ:Nat->Tag)(aJ i P:Nat)(pb:Nat->Nat)(no:Bool):
 iR ((w.alloc (.map #[] 0)).alloc (.cells #[fH,gy,.bool no,.slice F 0 0,.map (Y w.heap.size)] 137))
  (λk=>if k=w.heap.size+1 then(aJ,11,i)else if k=w.heap.size then(aJ,12,i)else τ k) aJ i P pb (w.heap.size+1) w.heap.size (λ_=>0) no (.slice F 0 0) [] w.heap.size:=by
 refine⟨?_,XI,?_,XI,λj x hx=>by simp at hx,λj x hx=>by simp at hx,ak3 _ _ _ _,λk hk=>(by cases hk),⟨I,I⟩,λj x hx=>by simp at hx,λk hk=>(by cases hk)⟩
 ·have:=aT.new (w.alloc (.map #[] 0)) #[fH,gy,.bool no,.slice F 0 0,.map (Y w.heap.size)] 137
  simpa using this
 ·rw[YH]
  exact(aS.made w prog 9).of_eq (za4 _ _ _ XI)
def FL{L:List ah}{l:List UInt8}:I8 (L++ [x]) l=if I8 L l<L.length then I8 L l else if x.data.toList=l then L.length else L.length+1:=by
 unfold I8;rw[List.findIdx_append];split
 ·rfl
 ·by_cases e:x.data.toList=l<;>simp[e,List.findIdx_cons]<;>omega
def Dl{L:List ah}{l:List UInt8}:I8 L l<L.length↔∃x∈L,x.data.toList=l:=by unfold I8;rw[List.findIdx_lt_length];simp
def UN(hx:x ∉ L):qF (λj=>if j=L.length then new else qb j) (L++ [x])=upd (qF qb L) (.string x.data.toList) (ptr new):=by
 funext kl;cases kl with
 |string l=>
  by_cases e:x.data.toList=l
  ·subst e;have hn:¬I8 L x.data.toList<L.length:=λh=>by obtain⟨y,hy,he⟩:=Dl.1 h;exact hx (ao2 he▸hy)
   rw[upd_same (by simp[WideAt.IsKeyLit])];simp only[qF,FL,if_neg hn,if_true,ao4,ar2];simp
  ·rw[fS (by simpa using λe'=>e e'.symm)];simp only[qF,FL,ao4,ar2];by_cases hn:I8 L l<L.length
   ·have:I8 L l≠L.length:=I
    simp only[if_pos hn,if_neg this];rw[if_pos I]
   ·simp only[if_neg hn,if_neg e];rw[if_neg I]
 |_=>simp[qF,upd,Lit.sameKey]
def iR.push(h:iR w τ aJ i P pb pr qm qb no ks L B0)(hx:x ∉ L)(hnew:w.heap.size<=new)(qQ:B0<=w.heap.size)
 (hold:∀k,k<w.heap.size->k≠qm->k≠pr->ks.ownBlock≠Y k->w'.heap[k]?=w.heap[k]?) (hb:aT w' new #[ptr (pb (partOf P x).toNat),.bool E,.int .i64 0,.bool E,.string ⟨#[]⟩,.nilIface] 146)
 (S6:aT w' pr #[fH,gy,.bool no,ks',.map (Y qm)] 137)
 (Yw:w'.ownsRow 0 9 1 ks' (L.length+1) (L.map aj3++ [.string x])) (hkb:∀k,ks'.ownBlock=Y k->ks.ownBlock=Y k\/(w.heap.size<=k/\k≠new))
 (hM:aS w' prog 9 qm (upd (qF qb L) (.string x.data.toList) (ptr new))):
 iR w' (λk=>if k=new then(aJ,13,i*8+L.length)else if ks'.ownBlock=Y k then(aJ,14,i)else τ k) aJ i P pb pr qm (λj=>if j=L.length then new else qb j) no ks' (L++ [x]) B0:=by
 have hin:∀{j:Nat} {y:ah},(L++ [x])[j]?=Y y->(j<L.length/\L[j]?=Y y)\/(j=L.length/\y=x):=by
  intro j y hj;by_cases e:j<L.length
  ·rw[ag1 e]at hj;exact an0 ⟨e,hj⟩
  ·rw[am2 I]at hj;have hi':=aH hj;simp at hi';have:j=L.length:=I
   subst this;simp at hj;exact ak9 ⟨rfl,hj.symm⟩
 have hpq:pr≠qm:=dB h.blk h.map;have hlt:∀{k:Nat},k<w.heap.size->k≠new:=λhk=>I
 have gQ:∀{k:Nat} {g:Nat×Nat},k<w.heap.size->τ k=(aJ,g)->(g.1≠14)->(if k=new then(aJ,13,i*8+L.length)else if ks'.ownBlock=Y k then(aJ,14,i)else τ k)=(aJ,g):=by
  intro k g hk ht hg;rw[if_neg (hlt hk)];by_cases e:ks'.ownBlock=Y k
  ·rcases hkb k e with e1|e1
   ·have:=h.dV k e1;rw[ht]at this;simp at this;exact absurd (by rw[this]) hg
   ·omega
  ·rw[if_neg e,ht]
 have hkn:∀{k:Nat} {g:Nat×Nat},τ k=(aJ,g)->g.1≠14->ks.ownBlock≠Y k:=λht hg e=>by have:=h.dV _ e;rw[ht]at this;simp at this;exact hg (by rw[this])
 refine⟨S6,gQ h.blk.lt h.tag XI,?_,gQ h.map.lt h.iD XI,λj y hj=>?_,λj y hj=>?_,?_,λk hk=>?_,h.lo,λj y hj=>?_,λk hk=>?_⟩
 ·rw[UN hx];exact hM
 ·rcases hin hj with⟨hjl,e⟩|⟨rfl,rfl⟩
  ·have:j≠L.length:=I
   simp only[this,if_false];have ht:=h.l6 j y e;exact(h.q j y e).of_eq (hold _ (h.q j y e).lt (dB (h.q j y e) h.map) (λe'=>by rw[e',h.tag]at ht;simp at ht) (hkn ht XI))
  ·simpa using hb
 ·rcases hin hj with⟨hjl,e⟩|⟨rfl,rfl⟩
  ·have:j≠L.length:=I
   simp only[this,if_false];exact gQ (h.q j y e).lt (h.l6 j y e) XI
  ·simp
 ·simpa using Yw
 ·show (if k=new then _ else _)=_;have:k≠new:=by
   rcases hkb k hk with e|e
   ·exact hlt (aQ h.ky k e).2
   ·exact e.2
  rw[if_neg this,if_pos hk]
 ·rcases hin hj with⟨hjl,e⟩|⟨rfl,rfl⟩
  ·have:j≠L.length:=I
   simp only[this,if_false];exact h.loQ j y e
  ·simp;omega
 ·rcases hkb k hk with e|e
  ·exact h.Oi k e
  ·omega
def UO:∀kl,qF qb L kl≠F->kl∈L.map (λx=>Lit.string x.data.toList):=by
 intro kl hk;cases kl with
 |string l=>
  simp only[qF]at hk;split at hk
  ·rename_i e;obtain⟨y,hy,he⟩:=Dl.1 e;exact zbc.2 ⟨y,hy,by rw[he]⟩
  ·exact absurd rfl hk
 |_=>exact absurd rfl hk
def MO(h:iR w τ aJ i P pb pr qm qb no ks L B0){w3:af}(hx:kk ∉ L)(qQ:B0<=w.heap.size)
 (hO:w2.ownsRow 0 9 1 v2 (L.length+1) (L.map aj3++ [.string kk])) (hG:(w.alloc o).grownBy w2 ks.ownBlock) (hA:v2.ownBlock=ks.ownBlock\/v2.ownBlock=Y (w.alloc o).heap.size)
 (hM:aS w3 prog 9 qm (upd (qF qb L) (.string kk.data.toList) (ptr w2.heap.size)))
 (hT:rO ((w2.setCell ⟨pr,3,F⟩ v2).alloc (.cells #[ptr (pb (partOf P kk).toNat),.bool E,.int .i64 0,.bool E,.string ⟨#[]⟩,.nilIface] 146)) w3 qm):
 ∃τ' Q1 ks',iR w3 τ' aJ i P pb pr qm Q1 no ks' (L++ [kk]) B0/\Below B0 w w3/\∀k,k<w.heap.size->τ' k=τ k:=by
 have Up:=h.blk.lt;have Yi:=h.map.lt;have hlo:=h.lo;have hsz:w.heap.size<w2.heap.size:=by have:=hG.size;simp at this;omega
 have Yt:w3.heap.size=w2.heap.size+1:=by have:=hT.size;simpa[ab1]using this
 have YI:pr≠qm:=dB h.blk h.map;have hkp:ks.ownBlock≠Y pr:=λe=>by have:=h.dV _ e;rw[h.tag]at this;simp at this
 have ZM:ks.ownBlock≠Y qm:=λe=>by have:=h.dV _ e;rw[h.iD]at this;simp at this
 have hnb:∀k,v2.ownBlock=Y k->ks.ownBlock=Y k\/w.heap.size<k:=λk hk=>by
  rcases hA with e|e
  ·exact an0 (by rw[<-e];exact hk)
  ·rw[hk]at e;have:=Option.some.inj e;simp at this;exact ak9 I
 have fG:∀k,k<w2.heap.size->k≠qm->k≠pr->w3.heap[k]?=w2.heap[k]? :=λk hk h1 h2=>
  (hT.block k h1).trans ((za4 _ _ _ (by simpa[ab1]using hk)).trans (za3 _ _ _ _ h2))
 have ahb:aT w2 pr #[fH,gy,.bool no,ks,.map (Y qm)] 137:=h.blk.of_eq ((hG.block pr Yn (λe=>hkp e.symm)).trans (za4 _ _ _ Up));refine⟨_,_,v2,h.push (ks':=v2) (new:=w2.heap.size) hx I qQ (λk hk h1 h2 h3=>?_) ?_ ?_ ?_ (λk hk=>?_) hM,⟨hT.os.trans hG.os,hT.tape.trans hG.tape,hT.output.trans hG.output,I,λk hk=>?_⟩,λk hk=>?_⟩
 ·exact(fG k I h1 h2).trans ((hG.block k Yn (λe=>h3 e.symm)).trans (za4 _ _ _ hk))
 ·have:=(aT.new (w2.setCell ⟨pr,3,F⟩ v2) #[ptr (pb (partOf P kk).toNat),.bool E,.int .i64 0,.bool E,.string ⟨#[]⟩,.nilIface] 146).of_eq (w':=w3) (hT.block _ (by simp[ab1];omega));simpa[ab1]using this
 ·have h1:=(ahb.set 3 v2).of_eq (w':=(w2.setCell ⟨pr,3,F⟩ v2).alloc (.cells #[ptr (pb (partOf P kk).toNat),.bool E,.int .i64 0,.bool E,.string ⟨#[]⟩,.nilIface] 146)) (za4 _ _ _ (by simp[ab1];omega));have:=h1.of_eq (hT.block pr YI);simpa using this
 ·refine aI hO (λk hk=>fG k (aQ hO k hk).2 (λe=>?_) (λe=>?_))
  ·rcases hnb k hk with e1|e1
   ·exact ZM (by rw[e1,e])
   ·omega
  ·rcases hnb k hk with e1|e1
   ·exact hkp (by rw[e1,e])
   ·omega
 ·rcases hnb k hk with e1|e1
  ·exact an0 e1
  ·exact ak9 ⟨I,by have:=(aQ hO k hk).2;omega⟩
 ·exact(fG k I I I).trans ((hG.block k Yn (λe=>by have:=h.Oi k e.symm;omega)).trans (za4 _ _ _ I))
 ·show (if k=w2.heap.size then _ else _)=_;rw[if_neg I];by_cases e:v2.ownBlock=Y k
  ·rw[if_pos e];rcases hnb k e with e1|e1
   ·rw[h.dV k e1]
   ·omega
  ·rw[if_neg e]
def Q2(h:iR w τ aJ i P pb pr qm qb no ks L B0)(kk:ah)(hk8:kk.size<=8)(hx:kk ∉ L)(hl:L.length<8)(qQ:B0<=w.heap.size):
 Calls prog 73 #[ptr pr,.string kk,ptr (pb (partOf P kk).toNat)] w λe w'=>e=.returned (.tuple #[])/\∃τ' Q1 ks',iR w' τ' aJ i P pb pr qm Q1 no ks' (L++ [kk]) B0/\Below B0 w w'/\∀k,k<w.heap.size->τ' k=τ k:=by
 have hL8:(L.map (λx=>Lit.string x.data.toList)).length<ae0:=by simp;unfold ae0;omega
 have hks:=fQ (s:=kk) (by unfold ae0;omega);obtain⟨si,hsi,sz0,sz1,sz2⟩:=aj4 FC;have cc:=B1 (w:=w) kk I;unfold ptr;go_enter func73,ntmps73;go_wp2_with fail
 refine cc.mono ?_;rintro e w1 ⟨rfl,mg⟩;clear cc;have h1:=h.below mg;have Up:=h1.blk.lt;have Yi:=h1.map.lt;have FM:=mg.size;have c3:w1.cell? ⟨pr,3,F⟩=Y ks:=h1.blk.cell (o:=3) rfl;have hkp:ks.ownBlock≠Y pr:=λe=>by have:=h.dV _ e;rw[h.tag]at this;simp at this
 have ZM:ks.ownBlock≠Y qm:=λe=>by have:=h.dV _ e;rw[h.iD]at this;simp at this
 have YI:pr≠qm:=dB h1.blk h1.map;have HD:Hid (∀(w2 w3:af) (o:Obj) (v2:aj),w2.ownsRow 0 9 1 v2 (L.length+1) (L.map aj3++ [.string kk])->(w1.alloc o).grownBy w2 ks.ownBlock->(v2.ownBlock=ks.ownBlock\/v2.ownBlock=Y (w1.alloc o).heap.size)->
  aS w3 prog 9 qm (upd (qF qb L) (.string kk.data.toList) (ptr w2.heap.size))->rO ((w2.setCell ⟨pr,3,F⟩ v2).alloc (.cells #[ptr (pb (partOf P kk).toNat),.bool E,.int .i64 0,.bool E,.string ⟨#[]⟩,.nilIface] 146)) w3 qm->
  ∃τ' Q1 ks',iR w3 τ' aJ i P pb pr qm Q1 no ks' (L++ [kk]) B0/\Below B0 w w3/\∀k,k<w.heap.size->τ' k=τ k):=λw2 w3 o v2 a1 a2 a3 a4 a5=>by obtain⟨τ',Q1,ks',r1,r2,r3⟩:=MO h1 hx (aj8 qQ FM) a1 a2 a3 a4 a5;exact⟨τ',Q1,ks',r1,(mg.mono qQ).trans r2,λk hk=>r3 k I⟩
 have HB2:Hid (∀(w2:af) (o:Obj),(w1.alloc o).grownBy w2 ks.ownBlock->aT w2 pr #[fH,gy,.bool no,ks,.map (Y qm)] 137/\∀(v2:aj) (o':Obj),aS ((w2.setCell ⟨pr,3,F⟩ v2).alloc o') prog 9 qm (qF qb L)):=λw2 o hG=>by
  have hsz:w1.heap.size<w2.heap.size:=by have:=hG.size;simp at this;omega
  exact⟨h1.blk.of_eq ((hG.block pr Yn (λe=>hkp e.symm)).trans (za4 _ _ _ Up)),λv2 o'=>h1.map.of_eq ((za4 _ _ _ (by simp[ab1];omega)).trans ((za3 _ _ _ _ (λe=>YI e.symm)).trans ((hG.block qm Yn (λe=>ZM e.symm)).trans (za4 _ _ _ Yi))))⟩
 obtain⟨av,jU,hkv⟩:=bI h1.ky;have Yw:=h1.ky;have hxs:∃xs,L.map aj3=xs:=⟨_,rfl⟩
 obtain⟨xs,hxs⟩:=hxs;rw[hxs]at Yw HD;generalize L.length=nL at *;unfold ptr at HD;clear h1 h hx;subst hkv;go_wp2_with (first
  |(at_builtin;refine ai4 _ rfl (.tmp 13) (.tmp 15) 38 rfl 0 9 si _ 1 16 underlying38 hsi sz0 sz1 sz2 rfl Yo (.slice av nL jU) nL xs rfl (Yw.alloc _) ⟨_,0,F⟩ 1 1 [.string kk] rfl rfl (ao9 _ _ _) (by simp[ai9]) (by unfold ae0;omega) I (zbb _) ?_;intro v2 w2 kA jm Ie hA2;obtain⟨LD,xL⟩:=HB2.out w2 _ jm;have k3:=LD.cell (o:=3) (v:=.slice av nL jU) rfl;have g3:=LD.frozen 3;have k4:=LD.cell (o:=4) (v:=.map (Y qm)) rfl;obtain⟨g2,cap2,nW,-⟩:=aZ kA I;rw[nW])
  |(at_mapUpdate;refine qc _ rfl _ _ _ 135 rfl 9 139 gx underlying135 qm (qF qb L) rfl (by exact xL _ _) _ UO hL8 _ _ (.string kk.data.toList) rfl rfl hks ?_;intro w3 KS wQ))
 have lV:=rO.fU wQ;go_end0
 obtain⟨τ',Q1,ks',r1,r2,r3⟩:=HD.out w2 w3 _ v2 kA jm hA2 (by simpa[ab1,Act.eval]using KS) (by rw[nW];exact lV);exact⟨rfl,τ',⟨Q1,ks',r1⟩,r2,r3⟩
end
section
variable {w:af}{τ:Nat->Tag}{aJ b:Nat}{s:MS}{A:SA}
def bB.I6(h:bB w τ aJ b s A)
 (hf:∀k,k<w.heap.size->(τ k).1=aJ->0< (τ k).2.1->((τ k).2.1<10\/(τ k).2.1=15)->w'.heap[k]?=w.heap[k]? /\τ' k=τ k) (htb:τ' b=(aJ,0,0))
 (hok:MOk {s with rs:=rs'}) (acI:zG {s with rs:=rs'} {A with R:=B'}) (hb:aT w' b #[.int .i64 s.mode,A.cR,fH,gy,.int .i64 s.ws.length,.int .i64 rs'.length,.map (Y A.wm),.map (Y B'.rm)] 105)
 (hr:RdS w' τ' aJ s.parts A.pb rs' B'):bB w' τ' aJ b {s with rs:=rs'} {A with R:=B'}:=by
 have fV:∀{k:Nat} {c:Array aj} {t:az} {g g':Nat},0<g->g<10->aT w k c t->τ k=(aJ,g,g')->aT w' k c t/\τ' k=(aJ,g,g'):=by intro k c t g g' hg hg' hb ht;obtain⟨e1,e2⟩:=hf k hb.lt (by rw[ht]) (by rw[ht];exact hg) (by rw[ht];exact .inl hg');exact⟨hb.of_eq e1,e2.trans ht⟩
 have hmap:∀{k:Nat} {t:az} {f:Lit->Option aj} {g g':Nat},0<g->g<10->aS w prog t k f->τ k=(aJ,g,g')->aS w' prog t k f/\τ' k=(aJ,g,g'):=by intro k t f g g' hg hg' hb ht;obtain⟨e1,e2⟩:=hf k hb.lt (by rw[ht]) (by rw[ht];exact hg) (by rw[ht];exact .inl hg');exact⟨hb.of_eq e1,e2.trans ht⟩
 have hrow:∀{e:az} {sz:Nat} {v:aj} {n:Nat} {xs:List aj} {g g':Nat},0<g->g<10->w.ownsRow 0 e sz v n xs->(∀k,v.ownBlock=Y k->τ k=(aJ,g,g'))->w'.ownsRow 0 e sz v n xs/\∀k,v.ownBlock=Y k->τ' k=(aJ,g,g'):=by intro e sz v n xs g g' hg hg' ho hv;refine⟨aI ho (λk hk=>(hf k (aQ ho k hk).2 (by rw[hv k hk]) (by rw[hv k hk];exact hg) (by rw[hv k hk];exact .inl hg')).1),λk hk=>?_⟩;rw[(hf k (aQ ho k hk).2 (by rw[hv k hk]) (by rw[hv k hk];exact hg) (by rw[hv k hk];exact .inl hg')).2,hv k hk]
 exact⟨hok,⟨h.inv.cp,h.inv.po,h.inv.cc⟩,acI,hb,htb,(hrow I I h.cR h.eY).1,(hrow I I h.cR h.eY).2,
  λq hq=>(fV I I (h.part q hq) (h.dA q hq)).1,λq hq=>(fV I I (h.part q hq) (h.dA q hq)).2,
  λq hq=>(hmap I I (h.kept q hq) (h.cQ q hq)).1,λq hq=>(hmap I I (h.kept q hq) (h.cQ q hq)).2,
  λq hq=>(hmap I I (h.uA q hq) (h.fK q hq)).1,λq hq=>(hmap I I (h.uA q hq) (h.fK q hq)).2,λq hq=>⟨(h.mh q hq).seen,(h.mh q hq).top⟩,
  (hmap I I h.sN h.jh).1,(hmap I I h.sN h.jh).2,
  λi m a c=>(fV I I (h.wr i m a c) (h.cM i m a c)).1,λi m a c=>(fV I I (h.wr i m a c) (h.cM i m a c)).2,
  λi m a c=>(hmap I I (h.QK i m a c) (h.jB i m a c)).1,λi m a c=>(hmap I I (h.QK i m a c) (h.jB i m a c)).2,
  λi m q a c o=>(fV I I (h.sh i m q a c o) (h.cU i m q a c o)).1,λi m q a c o=>(fV I I (h.sh i m q a c o) (h.cU i m q a c o)).2,
  λi m q a c o=>(hrow I I (h.it i m q a c o) (λk=>h.cY i m q k a c o)).1,λi m q k a c o=>(hrow I I (h.it i m q a c o) (λk=>h.cY i m q k a c o)).2 k,hr,
  λi m a=>(h.L2 i m a).of λk hk ht=>hf k hk (by rw[ht]) (by rw[ht];simp) (by rw[ht];exact .inr rfl)⟩
def MM{r r':MR}(hr:rs[i]?=Y r)(hf:r'.fin=r.fin)(n:Int):(gj (rs.set i r') n).isSome=(gj rs n).isSome:=by
 unfold gj;simp only[am0];split
 ·rfl
 ·rw[List.getElem?_set];by_cases e:i=(n-1).toNat
  ·rw[if_pos e,<-e,hr,if_pos (aH hr)];simp only[hf];cases r.fin<;>rfl
  ·rw[if_neg e]
def I7{r r':MR}(hr:rs[i]?=Y r)(hf:r'.fin=r.fin):dW (rs.set i r') B=dW rs B:=by
 funext kl;cases kl with
 |int k n=>
  cases k<;>try rfl
  simp only[dW];have:=MM hr hf n;cases h1:gj (rs.set i r') n<;>cases h2:gj rs n<;>simp[h1,h2]at this⊢
 |_=>rfl
def kE(B:SB)(i j:Nat)(hv:Bool)(tv:ah)(ts:aj):SB:=
 {B with hv:=λi' j'=>if i'=i/\j'=j then hv else B.hv i' j',tv:=λi' j'=>if i'=i/\j'=j then tv else B.tv i' j',ts:=λi' j'=>if i'=i/\j'=j then ts else B.ts i' j'}
def bB.ask(h:bB w τ aJ b s A){v:Nat}{r:MR}(hhv:hv=(!A.R.no i && decide (v≠0)))(htv:hv=Z6->∃m,s.ws[v-1]?=Y m/\gT m.items x=Y tv/\ts=A.sv (v-1))(ht0:hv=E->tv=⟨#[]⟩/\ts=.nilIface)
 (ZP:v≠0->∃m,s.ws[v-1]?=Y m/\aN m.items x=Z6/\m.comm (partOf s.parts x).toNat=Z6) (hr:s.rs[i]?=Y r) (iu:r.fin=E) (hx:r.keys[j]?=Y x) {w':af}
 (hne:∀k,k<w.heap.size->k≠A.R.qb i j->w'.heap[k]?=w.heap[k]?) (hq:aT w' (A.R.qb i j) #[ptr (A.pb (partOf s.parts x).toNat),.bool Z6,.int .i64 v,.bool hv,.string tv,ts] 146):
 bB w' τ aJ b {s with rs:=s.rs.set i {r with asked:=put r.asked j,found:=λq=>if q=j then v else r.found q}} {A with R:=kE A.R i j hv tv ts}:=by
 have hi:=aH hr;have hjl:=aH hx;have ht:=h.reads.l6 i r j x hr iu hx;have hne':∀{k:Nat},k<w.heap.size->τ k≠(aJ,13,i*8+j)->w'.heap[k]?=w.heap[k]? :=λhl hk=>hne _ hl (λe=>hk (by rw[e];exact ht));have dX:∀{q:Nat} {rq:MR},(s.rs.set i {r with asked:=put r.asked j,found:=λq=>if q=j then v else r.found q})[q]?=Y rq->∃ro,s.rs[q]?=Y ro/\rq.keys=ro.keys/\rq.fin=ro.fin:=by
  intro q rq hq;rcases cS hq with⟨rfl,rfl⟩|⟨_,hq⟩
  ·exact⟨r,hr,rfl,rfl⟩
  ·exact⟨rq,hq,rfl,rfl⟩
 refine h.I6 (B':=kE A.R i j hv tv ts) (λk hk _ _ KC=>⟨hne' hk (λe=>by rw[e]at KC;simp at KC),rfl⟩) h.tag ⟨h.ok.p1,h.ok.p4,h.ok.len,h.ok.items,λq rq hq=>?_,?_⟩ ?_ ?_ ⟨?_,h.reads.iQ,λq rq hq hf=>?_,λq rq hq hf=>?_,λq rq hq hf=>?_,λq rq hq hf=>?_,λq rq j' x' hq hf hx'=>?_,λq rq j' x' hq hf hx'=>?_,λq rq hq hf=>?_,λq rq k hq hf=>?_⟩
 ·obtain⟨ro,ho,e,_⟩:=dX hq;rw[e];exact h.ok.keys q ro ho
 ·show aX (s.rs.set i {r with asked:=put r.asked j,found:=λq=>if q=j then v else r.found q})<=50;rw[rP (r':={r with asked:=put r.asked j,found:=λq=>if q=j then v else r.found q}) hr rfl];exact h.ok.opn
 ·have iL:∀{q:Nat} {rq:MR},(s.rs.set i {r with asked:=put r.asked j,found:=λq=>if q=j then v else r.found q})[q]?=Y rq->rq.fin=E->∀{j':Nat} {x':ah},rq.keys[j']?=Y x'->
   (q=i/\j'=j/\x'=x/\rq.found j'=v)\/(¬(q=i/\j'=j)/\∃ro,s.rs[q]?=Y ro/\ro.fin=E/\ro.keys[j']?=Y x'/\rq.found j'=ro.found j'):=by
   intro q rq hq hf j' x' hx';rcases cS hq with⟨rfl,rfl⟩|⟨e,hq⟩
   ·by_cases ej:j'=j
    ·subst ej;have Pv:=hx';rw[hx]at Pv;cases Pv;exact an0 ⟨rfl,rfl,rfl,XI⟩
    ·exact ak9 ⟨λe=>ej e.2,r,hr,iu,hx',by simp[ej]⟩
   ·exact ak9 ⟨λe'=>e e'.1.symm,rq,hq,hf,hx',rfl⟩
  refine⟨h.told.sv,λq rq hq hf=>?_,λq rq j' hq ha=>?_,λq rq j' x' hq hf hx'=>?_,λq rq j' x' hq hf hx' hv'=>?_,λq rq j' x' hq hf hx' hv'=>?_,λq rq j' x' hq hf hx' hv'=>?_⟩
  ·obtain⟨ro,ho,ek,e⟩:=dX hq;rw[e]at hf;rw[ek];exact h.told.no q ro ho hf
  ·rcases cS hq with⟨rfl,rfl⟩|⟨_,hq⟩
   ·by_cases ej:j'=j
    ·subst ej;simp[put]at ha
    ·simp only[put,ej,if_false]at ha⊢;exact h.told.un i r j' hr ha
   ·exact h.told.un q rq j' hq ha
  ·rcases iL hq hf hx' with⟨rfl,rfl,rfl,e⟩|⟨e,ro,h1,h2,h3,h4⟩
   ·rw[e];simp only[kE,and_self,if_true];exact hhv
   ·rw[h4];simp only[kE,if_neg e];exact h.told.hv q ro j' x' h1 h2 h3
  ·rcases iL hq hf hx' with⟨rfl,rfl,rfl,e⟩|⟨e,ro,h1,h2,h3,h4⟩
   ·rw[e];simp only[kE,and_self,if_true]at hv'⊢;exact htv hv'
   ·rw[h4];simp only[kE,if_neg e]at hv'⊢;exact h.told.tv q ro j' x' h1 h2 h3 hv'
  ·rcases iL hq hf hx' with⟨rfl,rfl,rfl,e⟩|⟨e,ro,h1,h2,h3,h4⟩
   ·simp only[kE,and_self,if_true]at hv'⊢;exact ht0 hv'
   ·simp only[kE,if_neg e]at hv'⊢;exact h.told.t0 q ro j' x' h1 h2 h3 hv'
  ·rcases iL hq hf hx' with⟨rfl,rfl,rfl,e⟩|⟨e,ro,h1,h2,h3,h4⟩
   ·rw[e]at hv'⊢;exact ZP hv'
   ·rw[h4]at hv'⊢;exact h.told.fm q ro j' x' h1 h2 h3 hv'
 ·simp only[am0];exact h.blk.of_eq (hne' h.blk.lt (by rw[h.tag];simp))
 ·rw[I7 (r':={r with asked:=put r.asked j,found:=λq=>if q=j then v else r.found q}) hr rfl];exact h.reads.sL.of_eq (hne' h.reads.sL.lt (by rw[h.reads.iQ];simp))
 ·obtain⟨ro,ho,_,e⟩:=dX hq;rw[e]at hf;exact(h.reads.rd q ro ho hf).of_eq (hne' (h.reads.rd q ro ho hf).lt (by rw[h.reads.eP q ro ho hf];simp))
 ·obtain⟨ro,ho,_,e⟩:=dX hq;rw[e]at hf;exact h.reads.eP q ro ho hf
 ·obtain⟨ro,ho,ek,e⟩:=dX hq;rw[e]at hf;refine((h.reads.xI q ro ho hf).of_eq (hne' (h.reads.xI q ro ho hf).lt (by rw[h.reads.nB q ro ho hf];simp))).congr (λkl=>?_);cases kl<;>simp[dr,ek,kE]
 ·obtain⟨ro,ho,_,e⟩:=dX hq;rw[e]at hf;exact h.reads.nB q ro ho hf
 ·rcases cS hq with⟨rfl,rfl⟩|⟨eq,hq⟩
  ·by_cases ej:j'=j
   ·subst ej;have:x'=x:=by have Pv:=hx';rw[hx]at Pv;cases Pv;rfl
    subst this;simpa[put,kE]using hq
   ·have hb:=h.reads.q i r j' x' hr iu hx';have hj8:=aH hx';have:=hb.of_eq (hne' hb.lt (by rw[h.reads.l6 i r j' x' hr iu hx'];simp;omega));simpa[put,ej,kE]using this
  ·have hb:=h.reads.q q rq j' x' hq hf hx';have hj8:j'<8:=by have:=(h.ok.keys q rq hq).2.1;have:=aH hx';omega
   have alH:j<8:=by have:=(h.ok.keys i r hr).2.1;omega
   have e2:¬(q=i/\j'=j):=λe'=>eq e'.1.symm;simp only[kE,if_neg e2];exact hb.of_eq (hne' hb.lt (by rw[h.reads.l6 q rq j' x' hq hf hx'];simp;omega))
 ·obtain⟨ro,ho,ek,e⟩:=dX hq;rw[e]at hf;rw[ek]at hx';exact h.reads.l6 q ro j' x' ho hf hx'
 ·obtain⟨ro,ho,ek,e⟩:=dX hq;rw[e]at hf;rw[ek];exact aI (h.reads.ky q ro ho hf) (λk hk=>hne' (aQ (h.reads.ky q ro ho hf) k hk).2 (by rw[h.reads.dV q ro k ho hf hk];simp))
 ·obtain⟨ro,ho,ek,e⟩:=dX hq;rw[e]at hf;exact h.reads.dV q ro k ho hf
def vE(keys:List ah)(key:ah):I8 keys key.data.toList=bC keys key:=by
 unfold I8 bC;congr 1;funext x;by_cases e:x=key
 ·simp[e]
 ·have:x.data.toList≠key.data.toList:=λe'=>e (ao2 e');rw[decide_eq_false e,decide_eq_false this]
def B8{keys:List ah}(h:bC keys key<keys.length):keys[bC keys key]?=Y key:=by unfold bC at h⊢;have:=List.findIdx_getElem (w:=h);rw[za6 h];simpa using this
def FJ{n:Int}{q:Int}(hq:partOf n key=q):l.find? (λx=>decide (x.1=key))=(bp n l q).find? (λx=>decide (x.1=key)):=by
 unfold bp;rw[List.find?_filter];congr 1;funext x;by_cases e:x.1=key
 ·simp[e,hq]
 ·simp[e]
def hU:aN l key=(l.find? (λx=>decide (x.1=key))).isSome:=by unfold aN;rw[Bool.eq_iff_iff,ai3];exact List.find?_isSome.symm
def bB.tells(h:bB w τ aJ b s A)(key:ah){q:Nat}(hq:partOf s.parts key=q)(QV:q<s.parts):∃(a:Option aA) (L:List KV) (cap:Nat) (sv:aj),
 (bP s A q (.int .i64 (aU s key))).getD (.agg #[.slice F 0 0,.nilIface])=.agg #[.slice a L.length cap,sv]/\AW sv/\L.length<=8/\
 (∀(k:Nat) (x:KV),L[k]?=Y x->∃g,a=Y ⟨g,0,F⟩/\w.cell? ⟨g,k*2,F⟩=Y (.string x.1)/\w.cell? ⟨g,k*2+1,F⟩=Y (.string x.2))/\(∀g,a=Y ⟨g,0,F⟩->(∃c d,τ g=(aJ,9,c)/\d=c))/\
 aN L key=decide (aU s key≠0)/\(aU s key≠0->∃m,s.ws[aU s key-1]?=Y m/\gT m.items key=Y (valueOf L key)/\sv=A.sv (aU s key-1)/\aN m.items key=Z6/\m.comm q=Z6)/\(aU s key=0->valueOf L key=⟨#[]⟩/\sv=.nilIface):=by
 have hv:=h.QS key;rw[hq,Int.toNat_natCast]at hv;by_cases h0:aU s key=0
 ·refine⟨F, [],0,.nilIface,?_,an0 rfl,XI,λk x hx=>by simp at hx,λg e=>(by cases e),by simp[h0,aN],λe=>absurd h0 e,λ_=>⟨rfl,rfl⟩⟩;rw[h0];simp[bP,bL]
 ·obtain⟨m,hm,hc,x,hx,hxl,hxp⟩:=(h.mh q QV).seen key.data.toList (by rw[hv];exact h0);rw[hv]at hm;have Og:x.1=key:=ao2 hxl;have hcn:m.dF=E:=by
   cases hcc:m.dF
   ·rfl
   ·rw[h.inv.cc _ m q hm hcc]at hc;cases hc
  have S6:=h.inv.cp _ m q hm hc;have lU:=h.inv.po _ m q hm S6;have hrow:=h.it _ m q hm hcn lU;obtain⟨g,cap,hiv,_,_,hcell,_⟩:=aZ hrow (qh lU);obtain⟨hil,_⟩:=h.ok.items _ m hm;have hfind:bL s ((aU s key:Nat):Int)=Y m:=by have:=lG hm hcn;rw[show (((aU s key-1:Nat):Int)+1)=((aU s key:Nat):Int)from by omega]at this;exact this
  have hkm:aN m.items key=Z6:=by simp only[aN,ai3,decide_eq_true_eq];exact⟨x,hx,Og⟩
  have AO:aN (bp s.parts m.items q) key=Z6:=by rw[hU,<-FJ hq,<-hU];exact hkm
  refine⟨Y ⟨g,0,F⟩,bp s.parts m.items q,cap,A.sv (aU s key-1),?_,h.told.sv _ m hm,aj8 (oz _ _ _) hil,λk y hy=>?_,λg' e=>?_,by rw[AO];simp[h0],λ_=>⟨m,hm,?_,rfl,hkm,hc⟩,λe=>absurd e h0⟩
  ·simp only[bP,hfind,S6,if_true];rw[show ((((aU s key:Nat):Int)-1).toNat)=aU s key-1 from by omega,hiv];rfl
  ·obtain⟨e1,e2⟩:=oy _ k y hy;have hk:=aH hy;exact⟨g,rfl,by rw[hcell (k*2) I,e1],by rw[hcell (k*2+1) I,e2]⟩
  ·cases e;exact⟨_,_,h.cY _ m q g hm hcn lU (by rw[hiv];rfl),rfl⟩
  ·rw[I9 hkm];unfold valueOf;rw[FJ hq]
def size_set(w:af)(a:aA)(v:aj):(w.setCell a v).heap.size=w.heap.size:=by simp[ab1]
def QW(h:bB w τ aJ b s A){n:Int}{r:MR}(hr:s.rs[i]?=Y r)(hc:r.fin=E)(hx:r.keys[j]?=Y key)
 (Hr:iP s n key=(0,{s with rs:=s.rs.set i {r with asked:=put r.asked j,found:=λq=>if q=j then aU s key else r.found q}}))
 (ZP:aU s key≠0->∃m,s.ws[aU s key-1]?=Y m/\aN m.items key=Z6/\m.comm (partOf s.parts key).toNat=Z6)
 {w2:af} {hv:Bool} {tv:ah} {ts:aj} (hB:Below w.heap.size (w.setCell ⟨A.R.pr i,0,F⟩ (.int .i32 1)) w2) (a1:hv=(!A.R.no i && decide (aU s key≠0))) (a2:hv=Z6->∃m,s.ws[aU s key-1]?=Y m/\gT m.items key=Y tv/\ts=A.sv (aU s key-1)) (a3:hv=E->tv=⟨#[]⟩/\ts=.nilIface):
 nh w τ aJ b (iP s n key) (.returned (.int .i64 0)) ((((((w2.setCell ⟨A.R.qb i j,2,F⟩ (.int .i64 (aU s key))).setCell ⟨A.R.qb i j,3,F⟩ (.bool hv)).setCell ⟨A.R.qb i j,4,F⟩ (.string tv)).setCell ⟨A.R.qb i j,5,F⟩ ts).setCell ⟨A.R.qb i j,1,F⟩ (.bool Z6)).setCell ⟨A.R.pr i,0,F⟩ (.int .i32 0)):=by
 have hW:=h.reads.rd i r hr hc;have hQ:=h.reads.q i r j key hr hc hx;have UK:=h.reads.l6 i r j key hr hc hx;have Ja:A.R.qb i j≠A.R.pr i:=λe=>by rw[e,h.reads.eP i r hr hc]at UK;simp at UK
 have yw:=hQ.of_eq ((hB.block _ hQ.lt).trans (za3 _ _ _ _ Ja));generalize aU s key=v at *;have hQ3:aT (((((w2.setCell ⟨A.R.qb i j,2,F⟩ (.int .i64 v)).setCell ⟨A.R.qb i j,3,F⟩ (.bool hv)).setCell ⟨A.R.qb i j,4,F⟩ (.string tv)).setCell ⟨A.R.qb i j,5,F⟩ ts).setCell ⟨A.R.qb i j,1,F⟩ (.bool Z6)) (A.R.qb i j) #[ptr (A.pb (partOf s.parts key).toNat),.bool Z6,.int .i64 v,.bool hv,.string tv,ts] 146:=by have:=((((yw.set 2 (.int .i64 v)).set 3 (.bool hv)).set 4 (.string tv)).set 5 ts).set 1 (.bool Z6);simpa using this
 have hall:∀k,(k<w.heap.size/\k≠A.R.qb i j)->((((((w2.setCell ⟨A.R.qb i j,2,F⟩ (.int .i64 v)).setCell ⟨A.R.qb i j,3,F⟩ (.bool hv)).setCell ⟨A.R.qb i j,4,F⟩ (.string tv)).setCell ⟨A.R.qb i j,5,F⟩ ts).setCell ⟨A.R.qb i j,1,F⟩ (.bool Z6)).setCell ⟨A.R.pr i,0,F⟩ fH).heap[k]?=w.heap[k]? :=
  fE hW rfl (λk hk=>by rw[za3 _ _ _ _ hk.2,za3 _ _ _ _ hk.2,za3 _ _ _ _ hk.2,za3 _ _ _ _ hk.2,za3 _ _ _ _ hk.2];exact hB.block k hk.1)
 have hQ4:=hQ3.of_eq (w':=(((((w2.setCell ⟨A.R.qb i j,2,F⟩ (.int .i64 v)).setCell ⟨A.R.qb i j,3,F⟩ (.bool hv)).setCell ⟨A.R.qb i j,4,F⟩ (.string tv)).setCell ⟨A.R.qb i j,5,F⟩ ts).setCell ⟨A.R.qb i j,1,F⟩ (.bool Z6)).setCell ⟨A.R.pr i,0,F⟩ fH) (za3 _ _ _ _ Ja);have hsz:=hB.size;have hF:Fr (λk=>k=A.R.qb i j\/k=A.R.pr i) (w.setCell ⟨A.R.pr i,0,F⟩ (.int .i32 1)) ((((((w2.setCell ⟨A.R.qb i j,2,F⟩ (.int .i64 v)).setCell ⟨A.R.qb i j,3,F⟩ (.bool hv)).setCell ⟨A.R.qb i j,4,F⟩ (.string tv)).setCell ⟨A.R.qb i j,5,F⟩ ts).setCell ⟨A.R.qb i j,1,F⟩ (.bool Z6)).setCell ⟨A.R.pr i,0,F⟩ fH):=
  ((((((Fr.dg (by rw[size_set];exact hB)).setCell (an0 rfl) _).setCell (an0 rfl) _).setCell (an0 rfl) _).setCell (an0 rfl) _).setCell (an0 rfl) _).setCell (ak9 rfl) _
 have A8:=hF.size;rw[size_set]at A8;have hst:Stp aJ τ w τ ((((((w2.setCell ⟨A.R.qb i j,2,F⟩ (.int .i64 v)).setCell ⟨A.R.qb i j,3,F⟩ (.bool hv)).setCell ⟨A.R.qb i j,4,F⟩ (.string tv)).setCell ⟨A.R.qb i j,5,F⟩ ts).setCell ⟨A.R.qb i j,1,F⟩ (.bool Z6)).setCell ⟨A.R.pr i,0,F⟩ fH):=
  ⟨hF.os,hF.tape,hF.output,A8,λ_ _=>rfl,λk hk hs=>hall k ⟨hk,λe=>hs (by rw[e,UK])⟩⟩
 have ag3:=h.ask a1 a2 a3 ZP hr hc hx (λk h1 h2=>hall k ⟨h1,h2⟩) hQ4;clear hQ4 hQ3 hall yw;rw[Hr];exact⟨_,rfl,ag3,hst⟩
def UL(h:bB w τ aJ b s A)(n:Int)(r:MR)(hf:dQ s n=Y r)(key:ah)(hks:key.size<=ae0):
 Calls prog 41 #[ptr (A.R.pr (n-1).toNat),.string key] w (nh w τ aJ b (iP s n key)):=by
 obtain⟨h1,h2,hr,hc⟩:=gi hf;have hp1:=h.ok.p1;obtain⟨i,hi⟩:∃i:Nat,(n-1).toNat=i:=⟨_,rfl⟩
 rw[hi]at hr⊢;have hW:=h.reads.rd i r hr hc;have c0:w.cell? ⟨A.R.pr i,0,F⟩=Y (.int .i32 0):=hW.cell rfl;have f0:=hW.frozen 0;have eX:=gB hW (o:=0) rfl (.int .i32 1);have mq:=hW.set 0 (.int .i32 1);have YE:A.R.qm i≠A.R.pr i:=λe=>by have h1:=h.reads.nB i r hr hc;rw[e,h.reads.eP i r hr hc]at h1;simp at h1
 have d2:(w.setCell ⟨A.R.pr i,0,F⟩ (.int .i32 1)).cell? ⟨A.R.pr i,4,F⟩=Y (.map (Y (A.R.qm i))):=mq.cell rfl;have d9:(w.setCell ⟨A.R.pr i,0,F⟩ (.int .i32 1)).cell? ⟨A.R.pr i,2,F⟩=Y (.bool (A.R.no i)):=mq.cell rfl;have pz:aS (w.setCell ⟨A.R.pr i,0,F⟩ (.int .i32 1)) prog 9 (A.R.qm i) (dr A.R i r):=(h.reads.xI i r hr hc).of_eq (za3 _ _ _ _ YE);by_cases UM:bC r.keys key<r.keys.length
 ·have hx:=B8 UM;obtain⟨j,hj⟩:∃j,bC r.keys key=j:=⟨_,rfl⟩
  rw[hj]at hx;have aP:dr A.R i r (.string key.data.toList)=Y (.pointer (Y ⟨A.R.qb i j,0,F⟩)):=by simp only[dr,vE,if_pos UM];rw[hj];rfl
  have hQ:=h.reads.q i r j key hr hc hx;have Ja:A.R.qb i j≠A.R.pr i:=λe=>by have h1:=h.reads.l6 i r j key hr hc hx;rw[e,h.reads.eP i r hr hc]at h1;simp at h1
  have QX:aT (w.setCell ⟨A.R.pr i,0,F⟩ (.int .i32 1)) (A.R.qb i j) _ _:=hQ.of_eq (za3 _ _ _ _ Ja);cases ha:r.asked j with
  |true=>
   have Hr:Hid (iP s n key=(10,s)):=B9 hf hj I ha;rw[ha]at QX;have e1:(w.setCell ⟨A.R.pr i,0,F⟩ (.int .i32 1)).cell? ⟨A.R.qb i j,1,F⟩=Y (.bool Z6):=QX.cell rfl;unfold ptr;unfold fH at eX;go_enter_defers func41,ntmps41;go_wp2_with (first|(go_at_call 37;refine(ak6 Tryz.bD ⟨A.R.pr i,0,F⟩ _ c0 f0).mono ?_;rintro e w' ⟨rfl,rfl⟩)|(at_lookup;refine cG _ rfl _ _ 135 rfl 9 139 gx underlying135 (m7 _) (A.R.qm i) (dr A.R i r) rfl pz _ (.string key.data.toList) rfl (fQ hks) _ aP ?_))
   refine ai2 (f:=38) (args:=#[.pointer (Y ⟨A.R.pr i,0,F⟩)]) XI YU ?_;refine(af1 Tryz.bD ⟨A.R.pr i,0,F⟩ .returning _ (mq.cell rfl) (mq.frozen 0)).mono ?_;rintro e u' w'' ⟨rfl,rfl,rfl⟩;rw[Hr.out];exact⟨_,ak7 rfl _ _ _,A,rfl,h.same eX,eX.pS _ _⟩
  |false=>
   have Hr:=KY hf hi hj I ha;have Wl:Hid (iP s n key=_):=Hr;rw[ha]at hQ QX;obtain⟨g0,g1⟩:=iK s.parts key I;obtain⟨q,hq⟩:∃q:Nat,(partOf s.parts key).toNat=q:=⟨_,rfl⟩
   have hqz:partOf s.parts key=q:=I
   have QV:q<s.parts:=I
   have hVE:=h.QS key;rw[hq]at hVE;rw[hq]at hQ QX;have ag4:A.pb q≠A.R.pr i:=λe=>by have h1:=h.dA q QV;rw[e,h.reads.eP i r hr hc]at h1;simp at h1
   have ag5:A.vb q≠A.R.pr i:=λe=>by have h1:=h.fK q QV;rw[e,h.reads.eP i r hr hc]at h1;simp at h1
   have ag6:A.kb q≠A.R.pr i:=λe=>by have h1:=h.cQ q QV;rw[e,h.reads.eP i r hr hc]at h1;simp at h1
   obtain⟨ta,tL,ag7,tsv,hg,hIf,Fw,hcell,YF,hhas,QY,Wm⟩:=h.tells key hqz QV;have ZP:aU s key≠0->∃m,s.ws[aU s key-1]?=Y m/\aN m.items key=Z6/\m.comm q=Z6:=λe=>by obtain⟨m,r1,_,_,r4,r5⟩:=QY e;exact⟨m,r1,r4,r5⟩
   have QZ:aU s key<=200:=by rw[<-hVE];exact h.Q0 QV _
   have UK:=h.reads.l6 i r j key hr hc hx;have hval:(Dj A q (.string key.data.toList)).getD (.int .i64 0)=.int .i64 (aU s key):=by
    simp only[Dj,hVE];by_cases e:aU s key=0
    ·rw[if_pos e,e];rfl
    ·rw[if_neg e];rfl
   have dY:∀k,k≠A.R.pr i->(w.setCell ⟨A.R.pr i,0,F⟩ (.int .i32 1)).heap[k]?=w.heap[k]? :=λk hk=>za3 _ _ _ _ hk;have MN:(w.setCell ⟨A.R.pr i,0,F⟩ (.int .i32 1)).heap.size=w.heap.size:=by simp[ab1]
   have UI:aT (w.setCell ⟨A.R.pr i,0,F⟩ (.int .i32 1)) (A.pb q) _ _:=(h.part q QV).of_eq (dY _ ag4);have hVM:aS (w.setCell ⟨A.R.pr i,0,F⟩ (.int .i32 1)) prog 9 (A.vb q) (Dj A q):=(h.uA q QV).of_eq (dY _ ag5);have hKM:aS (w.setCell ⟨A.R.pr i,0,F⟩ (.int .i32 1)) prog 3 (A.kb q) (bP s A q):=(h.kept q QV).of_eq (dY _ ag6);have sP:∀(k:Nat) (x:KV),tL[k]?=Y x->∃g,ta=Y ⟨g,0,F⟩/\(w.setCell ⟨A.R.pr i,0,F⟩ (.int .i32 1)).cell? ⟨g,k*2,F⟩=Y (.string x.1)/\(w.setCell ⟨A.R.pr i,0,F⟩ (.int .i32 1)).cell? ⟨g,k*2+1,F⟩=Y (.string x.2):=λk x hx=>by
    obtain⟨g,e,r1,r2⟩:=hcell k x hx;obtain⟨c,_,e9,_⟩:=YF g e;have hgn:g≠A.R.pr i:=λe'=>by rw[e',h.reads.eP i r hr hc]at e9;simp at e9
    exact⟨g,e,(jA hgn).trans r1,(jA (w:=w) hgn).trans r2⟩
   have hgb:∀g,ta=Y ⟨g,0,F⟩->g≠A.pb q:=λg e e'=>by obtain⟨c,_,e9,_⟩:=YF g e;rw[e',h.dA q QV]at e9;simp at e9
   have cv:=QT (A.pb q) (A.kb q) (A.vb q) (Dj A q) UI hVM key hks _ hval;have ct:=acK (A.pb q) (A.kb q) (A.vb q) (Dj A q) (bP s A q) UI hKM hVM key hks _ QZ hval ta tL ag7 tsv hIf hg Fw sP hgb;have HW:Hid (aT (w.setCell ⟨A.R.pr i,0,F⟩ (.int .i32 1)) (A.R.pr i) _ _):=mq;have HF:Hid (∀(w2:af) (hv:Bool) (tv:ah) (ts:aj),Below w.heap.size (w.setCell ⟨A.R.pr i,0,F⟩ (.int .i32 1)) w2->hv=(!A.R.no i && decide (aU s key≠0))->(hv=Z6->∃m,s.ws[aU s key-1]?=Y m/\gT m.items key=Y tv/\ts=A.sv (aU s key-1))->(hv=E->tv=⟨#[]⟩/\ts=.nilIface)->
    nh w τ aJ b (iP s n key) (.returned (.int .i64 0)) ((((((w2.setCell ⟨A.R.qb i j,2,F⟩ (.int .i64 (aU s key))).setCell ⟨A.R.qb i j,3,F⟩ (.bool hv)).setCell ⟨A.R.qb i j,4,F⟩ (.string tv)).setCell ⟨A.R.qb i j,5,F⟩ ts).setCell ⟨A.R.qb i j,1,F⟩ (.bool Z6)).setCell ⟨A.R.pr i,0,F⟩ (.int .i32 0))):=λw2 hv tv ts hB a1 a2 a3=>QW h hr hc hx Hr (by rw[hq];exact ZP) hB a1 a2 a3
   have e0:(w.setCell ⟨A.R.pr i,0,F⟩ (.int .i32 1)).cell? ⟨A.R.qb i j,0,F⟩=Y (.pointer (Y ⟨A.pb q,0,F⟩)):=QX.cell (o:=0) rfl;have e1:(w.setCell ⟨A.R.pr i,0,F⟩ (.int .i32 1)).cell? ⟨A.R.qb i j,1,F⟩=Y (.bool E):=QX.cell (o:=1) rfl;have HQ:Hid (∀w2:af,Below w.heap.size (w.setCell ⟨A.R.pr i,0,F⟩ (.int .i32 1)) w2->aT w2 (A.R.qb i j) _ _/\aT w2 (A.R.pr i) _ _):=λw2 hB=>⟨QX.of_eq (hB.block _ (by rw[<-MN];exact QX.lt)),mq.of_eq (hB.block _ (by rw[<-MN];exact mq.lt))⟩
   unfold ptr at cv ct⊢;have HV1:Hid _:=QY;have HV0:Hid _:=Wm;have HH:Hid _:=hhas;have HIf:Hid _:=hIf;rw[MN]at cv ct;cases hno:A.R.no i with
   |true=>
    rw[hno]at d9;have HN:Hid (A.R.no i=Z6):=hno;go_enter_defers func41,ntmps41;go_wp2_with (first|(go_at_call 37;refine(ak6 Tryz.bD ⟨A.R.pr i,0,F⟩ _ c0 f0).mono ?_;rintro e w' ⟨rfl,rfl⟩)|(at_lookup;refine cG _ rfl _ _ 135 rfl 9 139 gx underlying135 (m7 _) (A.R.qm i) (dr A.R i r) rfl pz _ (.string key.data.toList) rfl (fQ hks) _ aP ?_))
    refine cv.mono ?_;rintro e w2 ⟨rfl,gN⟩;obtain⟨yw,sO⟩:=HQ.out w2 gN;have k1:=yw.cell (o:=1) (v:=.bool E) rfl;have k2:w2.cell? ⟨A.R.qb i j,2,F⟩=Y _:=yw.cell (o:=2) rfl;have k3:w2.cell? ⟨A.R.qb i j,3,F⟩=Y _:=yw.cell (o:=3) rfl;have k4:w2.cell? ⟨A.R.qb i j,4,F⟩=Y _:=yw.cell (o:=4) rfl;have k5:w2.cell? ⟨A.R.qb i j,5,F⟩=Y _:=yw.cell (o:=5) rfl;have f1:=yw.frozen 1;have f2:=yw.frozen 2;have f3:=yw.frozen 3;have f4:=yw.frozen 4;have f5:=yw.frozen 5;have HR:=HF.out w2 E ⟨#[]⟩ .nilIface gN (by rw[HN.out];rfl) (λe=>by cases e) (λ_=>⟨rfl,rfl⟩);have HR':Hid _:=HR;go_wp2_with fail
    have qu:A.R.pr i≠A.R.qb i j:=λe=>Ja e.symm;have wW:aT (((((w2.setCell ⟨A.R.qb i j,2,F⟩ (.int .i64 (aU s key))).setCell ⟨A.R.qb i j,3,F⟩ (.bool E)).setCell ⟨A.R.qb i j,4,F⟩ (.string ⟨#[]⟩)).setCell ⟨A.R.qb i j,5,F⟩ .nilIface).setCell ⟨A.R.qb i j,1,F⟩ (.bool Z6)) (A.R.pr i) _ _:=sO.of_eq (by rw[za3 _ _ _ _ qu,za3 _ _ _ _ qu,za3 _ _ _ _ qu,za3 _ _ _ _ qu,za3 _ _ _ _ qu]);refine ai2 (f:=38) (args:=#[.pointer (Y ⟨A.R.pr i,0,F⟩)]) XI YU ?_;refine(af1 Tryz.bD ⟨A.R.pr i,0,F⟩ .returning _ (wW.cell (o:=0) rfl) (wW.frozen 0)).mono ?_;rintro e u' w'' ⟨rfl,rfl,rfl⟩;obtain⟨A',r1,r2,r3⟩:=HR'.out;exact⟨_,ak7 rfl _ _ _,A',by exact r1,r2,r3⟩
   |false=>
    rw[hno]at d9;have HN:Hid (A.R.no i=E):=hno;clear hf ha Hr hval hVE hg hIf Fw hcell YF hhas QY Wm ZP sP hgb cv dY UI hVM hKM hQ QX hno;go_enter_defers func41,ntmps41;go_wp2_with (first|(go_at_call 37;refine(ak6 Tryz.bD ⟨A.R.pr i,0,F⟩ _ c0 f0).mono ?_;rintro e w' ⟨rfl,rfl⟩)|(at_lookup;refine cG _ rfl _ _ 135 rfl 9 139 gx underlying135 (m7 _) (A.R.qm i) (dr A.R i r) rfl pz _ (.string key.data.toList) rfl (fQ hks) _ aP ?_))
    refine ct.mono ?_;rintro e w2 ⟨rfl,gN⟩;obtain⟨yw,sO⟩:=HQ.out w2 gN;have k1:=yw.cell (o:=1) (v:=.bool E) rfl;have k2:w2.cell? ⟨A.R.qb i j,2,F⟩=Y _:=yw.cell (o:=2) rfl;have k3:w2.cell? ⟨A.R.qb i j,3,F⟩=Y _:=yw.cell (o:=3) rfl;have k4:w2.cell? ⟨A.R.qb i j,4,F⟩=Y _:=yw.cell (o:=4) rfl;have k5:w2.cell? ⟨A.R.qb i j,5,F⟩=Y _:=yw.cell (o:=5) rfl;have f1:=yw.frozen 1;have f2:=yw.frozen 2;have f3:=yw.frozen 3;have f4:=yw.frozen 4;have f5:=yw.frozen 5;have HR:=HF.out w2 (aN tL key) (valueOf tL key) tsv gN (by rw[HN.out,HH.out];simp) (λe=>by
     rw[HH.out]at e;obtain⟨m,r1,r2,r3,_⟩:=HV1.out (of_decide_eq_true e);exact⟨m,r1,r2,r3⟩) (λe=>by rw[HH.out]at e;exact HV0.out (by simpa using e))
    have HR':Hid _:=HR;generalize aN tL key=V3 at *;generalize valueOf tL key=YG at *;rcases HIf.out with rfl|⟨st,sx,rfl⟩
    ·go_wp2_with fail
     have qu:A.R.pr i≠A.R.qb i j:=λe=>Ja e.symm;have wW:aT (((((w2.setCell ⟨A.R.qb i j,2,F⟩ (.int .i64 (aU s key))).setCell ⟨A.R.qb i j,3,F⟩ (.bool V3)).setCell ⟨A.R.qb i j,4,F⟩ (.string YG)).setCell ⟨A.R.qb i j,5,F⟩ .nilIface).setCell ⟨A.R.qb i j,1,F⟩ (.bool Z6)) (A.R.pr i) _ _:=sO.of_eq (by rw[za3 _ _ _ _ qu,za3 _ _ _ _ qu,za3 _ _ _ _ qu,za3 _ _ _ _ qu,za3 _ _ _ _ qu]);refine ai2 (f:=38) (args:=#[.pointer (Y ⟨A.R.pr i,0,F⟩)]) XI YU ?_;refine(af1 Tryz.bD ⟨A.R.pr i,0,F⟩ .returning _ (wW.cell (o:=0) rfl) (wW.frozen 0)).mono ?_;rintro e u' w'' ⟨rfl,rfl,rfl⟩;obtain⟨A',r1,r2,r3⟩:=HR'.out;exact⟨_,ak7 rfl _ _ _,A',by exact r1,r2,r3⟩
    ·go_wp2_with fail
     have qu:A.R.pr i≠A.R.qb i j:=λe=>Ja e.symm;have wW:aT (((((w2.setCell ⟨A.R.qb i j,2,F⟩ (.int .i64 (aU s key))).setCell ⟨A.R.qb i j,3,F⟩ (.bool V3)).setCell ⟨A.R.qb i j,4,F⟩ (.string YG)).setCell ⟨A.R.qb i j,5,F⟩ (.iface st sx)).setCell ⟨A.R.qb i j,1,F⟩ (.bool Z6)) (A.R.pr i) _ _:=sO.of_eq (by rw[za3 _ _ _ _ qu,za3 _ _ _ _ qu,za3 _ _ _ _ qu,za3 _ _ _ _ qu,za3 _ _ _ _ qu]);refine ai2 (f:=38) (args:=#[.pointer (Y ⟨A.R.pr i,0,F⟩)]) XI YU ?_;refine(af1 Tryz.bD ⟨A.R.pr i,0,F⟩ .returning _ (wW.cell (o:=0) rfl) (wW.frozen 0)).mono ?_;rintro e u' w'' ⟨rfl,rfl,rfl⟩;obtain⟨A',r1,r2,r3⟩:=HR'.out;exact⟨_,ak7 rfl _ _ _,A',by exact r1,r2,r3⟩
 ·have Hr:Hid (iP s n key=(4,s)):=FK hf UM;have aP:dr A.R i r (.string key.data.toList)=F:=by simp only[dr,vE,if_neg UM]
  unfold ptr;unfold fH at eX;go_enter_defers func41,ntmps41;go_wp2_with (first|(go_at_call 37;refine(ak6 Tryz.bD ⟨A.R.pr i,0,F⟩ _ c0 f0).mono ?_;rintro e w' ⟨rfl,rfl⟩)|(at_lookup;refine cG _ rfl _ _ 135 rfl 9 139 gx underlying135 (m7 _) (A.R.qm i) (dr A.R i r) rfl pz _ (.string key.data.toList) rfl (fQ hks) _ aP ?_))
  refine ai2 (f:=38) (args:=#[.pointer (Y ⟨A.R.pr i,0,F⟩)]) XI YU ?_;refine(af1 Tryz.bD ⟨A.R.pr i,0,F⟩ .returning _ (mq.cell (o:=0) rfl) (mq.frozen 0)).mono ?_;rintro e u' w'' ⟨rfl,rfl,rfl⟩;rw[Hr.out];exact⟨_,ak7 rfl _ _ _,A,rfl,h.same eX,eX.pS _ _⟩
def af8(h:bB w τ aJ b s A)(n:Int)(key:ah)(hks:key.size<=ae0)(hn: -9223372036854775808<=n)(hn':n<=9223372036854775807):
 Calls prog 22 #[ptr b,.int .i64 n,.string key] w (nh w τ aJ b (iP s n key)):=by
 have c:=kT h n hn hn';cases hf:dQ s n with
 |none=>
  have Hr:Hid (iP s n key=(7,s)):=Ca hf;have hv:eT s A n=(.pointer F,E):=by unfold eT;rw[hf]
  rw[hv]at c;unfold ptr at c⊢;go_enter func22,ntmps22;go_wp2_with fail
  refine c.mono ?_;rintro e w1 ⟨rfl,hS⟩;go_wp2_with fail
  go_ret;rw[Hr.out];exact⟨A,rfl,h.same hS,hS.pS _ _⟩
 |some r=>
  have hv:eT s A n=(ptr (A.R.pr (n-1).toNat),Z6):=by unfold eT;rw[hf]
  rw[hv]at c;have c2:∀w1,vF w w1->Calls prog 41 #[ptr (A.R.pr (n-1).toNat),.string key] w1 (nh w1 τ aJ b (iP s n key)):=λw1 hS=>UL (h.same hS) n r hf key hks;generalize (n-1).toNat=j at c c2;unfold ptr at c c2⊢;clear hf hv;go_enter func22,ntmps22;go_wp2_with fail
  refine c.mono ?_;rintro e w1 ⟨rfl,hS⟩;have c3:=c2 w1 hS;clear c c2;go_wp2_with fail
  refine c3.mono ?_;rintro e w2 ⟨A',rfl,hR,hT⟩;go_wp2_with fail
  go_ret;exact⟨A',rfl,hR,(hS.pS _ _).trans hT⟩
end
def aS.size{P:aB}{k:az}{w:af}{b:Nat}{f:Lit->Option aj}(h:aS w P k b f)(K:Keyed P k){L:List Lit}(hnd:L.Pairwise (λa b=>a≠b))(hL:∀kl,f kl≠F↔kl∈L):
 ∃n D,w.ownsMap P k aY b n D/\Maps.size D=L.length:=by
 obtain⟨n,D,h,hs⟩:=h;obtain⟨es,hD,hp,hks⟩:=h.entries K;refine⟨n,D,h,?_⟩;have hhas:∀kl,kl∈es.map Prod.fst->f kl≠F:=λkl wN e=>by
  obtain⟨p,rz,rfl⟩:=zbc.1 wN;have h2:=hs.2 p.1;rw[e]at h2;have:Maps.has D p.1=Z6:=by rw[hD,Maps.has_eq,ai3];exact⟨p,rz,ny (hks p rz)⟩
  rw[this]at h2;cases h2
 have h1:es.length<=L.length:=by rw[<-an4 (f:=Prod.fst)];exact jY _ _ (List.pairwise_map.2 hp) (λkl wN=>(hL kl).1 (hhas kl wN))
 have h2:L.length<=es.length:=by
  have e0:es.length=(es.map Prod.fst).length:=XI
  rw[e0];refine jY _ _ hnd (λkl wN=>?_);have h3:=hs.2 kl;have h4:=(hL kl).2 wN;have:Maps.has D kl=Z6:=by
   rw[h3];cases hf:f kl
   ·exact absurd hf h4
   ·rfl
  rw[hD,Maps.has_eq,ai3]at this;obtain⟨p,rz,he⟩:=this;by_cases e:p.1=kl
  ·exact zbc.2 ⟨p,rz,e⟩
  ·rw[Maps.sameKey_ne e]at he;cases he
 rw[hD,Maps.size_eq];omega
def Dm(rs:List MR):List Nat:=(ab8 rs.length).filter (λi=>!(rs.getD i (dJ [])).fin)
def lH(rs:List MR):List Lit:=(Dm rs).map (λi:Nat=>Lit.int .i64 ((i:Int)+1))
def Jb(rs:List MR):(ab8 rs.length).map (λi=>rs.getD i (dJ []))=rs:=by
 apply List.ext_getElem?;intro i;rw[ai8];by_cases h:i<rs.length
 ·rw[ar0 h,za6 h];simp[ao5,h]
 ·simp[h]
def oT(rs:List MR):(lH rs).length=aX rs:=by
 unfold lH Dm aX;rw[an4,<-List.countP_eq_length_filter];conv=>rhs;rw[<-Jb rs,List.countP_map]
 rfl
def uB(rs:List MR):(lH rs).Pairwise (λa b=>a≠b):=by unfold lH;rw[List.pairwise_map];refine(List.Pairwise.filter _ (List.nodup_range (n:=rs.length))).imp (fun{a b} h e=>h ?_);injection e with _ e;omega
def zH(kl:Lit):dW rs B kl≠F↔kl∈lH rs:=by
 constructor
 ·intro h;cases kl with
  |int k n=>
   cases k<;>try exact absurd rfl h
   simp only[dW]at h;cases hf:gj rs n with
   |none=>rw[hf]at h;exact absurd rfl h
   |some r=>
    unfold gj at hf;split at hf
    ·cases hf
    ·rename_i hb;have hlt:(n-1).toNat<rs.length:=I
     rw[za6 hlt]at hf;simp only at hf;split at hf
     ·cases hf
     ·rename_i iu;refine zbc.2 ⟨(n-1).toNat,?_,by congr 1;omega⟩;unfold Dm;rw[List.mem_filter];refine⟨zbd.2 hlt,?_⟩;rw[ao5,za6 hlt];simpa only[Option.getD_some,Bool.not_eq_true',Bool.not_eq_true]using iu
  |_=>exact absurd rfl h
 ·intro h;obtain⟨i,hi,rfl⟩:=zbc.1 h;unfold Dm at hi;rw[List.mem_filter]at hi;obtain⟨h1,h2⟩:=hi;have hlt:=zbd.1 h1;simp[ao5,hlt]at h2;have:gj rs ((i:Int)+1)=Y rs[i]:=by unfold gj;rw[if_neg I,show ((i:Int)+1-1).toNat=i from by omega,za6 hlt];simp[h2]
  simp[dW,this]
section
variable {w:af}{τ:Nat->Tag}{aJ i P:Nat}{pb:Nat->Nat}{L:List ah}
def FN(b:Nat)(mode:Int)(cm:w.cell? ⟨b,0,F⟩=Y (.int .i64 mode))(cR:aj)(cs:w.cell? ⟨b,1,F⟩=Y cR)(S6:w.ownsRow 0 130 1 cR P ((ab8 P).map (λq=>ptr (pb q))))(Ys:1<=P)(S5:P<=4)(gb go cap:Nat)(h1:1<=L.length)(h8:L.length<=8)(hg:∀x∈L,bz x=Z6)(hnd:L.Nodup)
 (hcell:∀(k:Nat) (x:ah),L[k]?=Y x->w.cell? ⟨gb,go+k,F⟩=Y (.string x)):
 Calls prog 39 #[ptr b,.slice (Y ⟨gb,go,F⟩) L.length cap] w λe w'=>∃τ' pr qm qb ks,e=.returned (ptr pr)/\iR w' τ' aJ i P pb pr qm qb (decide (mode=2)&& decide (1<L.length)) ks L w.heap.size/\Below w.heap.size w w'/\∀k,k<w.heap.size->τ' k=τ k:=by
 have kR:=za9 w _ cs;simp only at kR;obtain⟨pg,pc,hpv,_,hpc,zz,_⟩:=aZ S6 I;subst hpv;have QI:pg<w.heap.size:=(aQ S6 pg rfl).2;have hpq:∀q,q<P->w.cell? ⟨pg,q,F⟩=Y (.pointer (Y ⟨pb q,0,F⟩)):=λq hq=>by rw[zz q I,ai8,ar0 hq];rfl
 have hmm:=@run_makeMap prog;clear zz;have cno:=uC (w:=w) mode (Y ⟨gb,go,F⟩) L.length cap h8;generalize (decide (mode=2)&& decide (1<L.length))=nO at *;unfold ptr;go_enter func39,ntmps39;go_wp2_with (go_at_call 72;refine cno.mono ?_;rintro e w' ⟨rfl,hw⟩;obtain rfl:=hw.symm)
 go_loopw [19] (λu wr=>∃(k:Nat) (τ':Nat->Tag) (qb:Nat->Nat) (ks:aj),k<=L.length/\u=.int .i64 k/\iR wr τ' aJ i P pb (w.heap.size+1) w.heap.size qb nO ks (L.take k) w.heap.size/\Below w.heap.size w wr/\Hid (∀k,k<w.heap.size->τ' k=τ k)) (λu _=>L.length-(intOf u).toNat)
 case atStart=>
  refine⟨0,_,_,_,zbb _,rfl,iR.made w τ aJ i P pb nO,?_,λk hk=>?_⟩
  ·exact((ag2 _ _).alloc (za5 _) _).alloc XI _
  ·have e1:k≠w.heap.size+1:=I
   have e2:k≠w.heap.size:=I
   simp[e1,e2]
 case round=>
  obtain⟨k,τ1,qb1,ks1,hk,rfl,hW,hB,HT⟩:=hrel;by_cases hlt:k<L.length
  ·have hx:L[k]?=Y L[k]:=za6 hlt;have c1:=hcell k _ hx;have hgb:gb<w.heap.size:=za9 w _ c1;have Yp:=(hB.cell (p:=⟨gb,go+k,F⟩) hgb).trans c1;have zv:=jz (hg _ (ap0 hlt));have HTk:Hid (L.take (k+1)=L.take k++ [L[k]]):=List.take_succ_eq_append_getElem hlt;have hnew:L[k] ∉ L.take k:=λe=>by
    have h2:(L.take k++L.drop k).Nodup:=by rw[List.take_append_drop];exact hnd
    rw[List.nodup_append]at h2;have h3:L[k]∈L.drop k:=by rw[List.drop_eq_getElem_cons hlt];exact List.mem_cons_self ..
    exact h2.2.2 _ e _ h3 rfl
   generalize L[k]=kk at *;have hbd:=iK P kk I;obtain⟨q,hq⟩:∃q:Nat,(partOf P kk).toNat=q:=⟨_,rfl⟩
   have KZ:partOf P kk=q:=I
   have UG:=sM (w:=wr.drew) b P (Y ⟨pg,0,F⟩) pc kk I I S5 ((hB.cell (p:=⟨b,1,F⟩) kR).trans cs);have hqP:q<P:=I
   have QJ:=hpq q hqP;have CA:∀w2:af,Below wr.drew.heap.size wr.drew w2->w2.cell? ⟨b,1,F⟩=Y (.slice (Y ⟨pg,0,F⟩) P pc)/\w2.cell? ⟨pg,q,F⟩=Y (.pointer (Y ⟨pb q,0,F⟩))/\
    Calls prog 73 #[ptr (w.heap.size+1),.string kk,ptr (pb q)] w2 (λe w'=>e=.returned (.tuple #[])/\∃τ' Q1 ks',iR w' τ' aJ i P pb (w.heap.size+1) w.heap.size Q1 nO ks' (L.take (k+1)) w.heap.size/\Below w.heap.size w w'/\(∀k,k<w.heap.size->τ' k=τ k)/\w'.cell? ⟨b,1,F⟩=Y (.slice (Y ⟨pg,0,F⟩) P pc)/\w'.cell? ⟨pg,q,F⟩=Y (.pointer (Y ⟨pb q,0,F⟩))):=λw2 eH=>by have hBr:Below wr.heap.size wr w2:=(ag2 wr.heap.size wr).drew.trans eH;have uw:Below w.heap.size w w2:=hB.trans (hBr.mono hB.size);refine⟨(uw.cell (p:=⟨b,1,F⟩) kR).trans cs,(uw.cell (p:=⟨pg,q,F⟩) QI).trans QJ,?_⟩;have ca:=Q2 (w:=w2) (hW.below hBr) kk I hnew Yn uw.size;rw[hq,<-HTk.out]at ca;refine ca.mono ?_;rintro e w3 ⟨rfl,τ2,qb2,ks2,r1,r2,r3⟩;have YJ:Below w.heap.size w w3:=uw.trans r2;exact⟨rfl,τ2,qb2,ks2,r1,YJ,λk hk=>(r3 k (by have:=uw.size;omega)).trans (HT.out k hk),(YJ.cell (p:=⟨b,1,F⟩) kR).trans cs,(YJ.cell (p:=⟨pg,q,F⟩) QI).trans QJ⟩
   have CA':=(show Hid _ from CA)
   have s1:wr.cell? ⟨b,1,F⟩=Y (.slice (Y ⟨pg,0,F⟩) P pc):=(hB.cell (p:=⟨b,1,F⟩) kR).trans cs;have p1:wr.cell? ⟨pg,q,F⟩=Y (.pointer (Y ⟨pb q,0,F⟩)):=(hB.cell (p:=⟨pg,q,F⟩) QI).trans QJ;unfold ptr at UG;rw[KZ]at UG;clear CA hcell c1 hpq hx hnew hq KZ hbd;go_wp2_with fail
   go_region_held3 (λW=>W.cell? ⟨b,1,F⟩=Y (.slice (Y ⟨pg,0,F⟩) P pc)/\W.cell? ⟨pg,q,F⟩=Y (.pointer (Y ⟨pb q,0,F⟩))) (simp[*]) ((first|(go_at_call 50;refine UG.mono ?_;rintro e w2 ⟨rfl,eH⟩;obtain⟨s2,p2,ca⟩:=CA'.out w2 eH;unfold ptr at ca)|(go_at_call 73;refine ca.mono ?_;rintro e w3 ⟨rfl,τ2,qb2,ks2,wW,lV,wQ,s3,p3⟩;have HT3:=(show Hid _ from wQ);clear wQ)))
   all_goals
    clear UG ca
    go_wp2_with fail
    go_roundw
    case rel=>exact⟨k+1,τ2,qb2,ks2,I,by go_num,wW,lV,HT3⟩
    case measure=>simp[intOf];omega
  ·have AO:k=L.length:=I
   rw[AO,List.take_length]at hW;clear hcell hpq AO;go_wp2_with fail
   go_ret;exact⟨τ1,w.heap.size+1,w.heap.size,qb1,ks1,rfl,hW,hB,HT.out⟩
end
def uq{P:aB}(w:af){ops:Array Oper}{rest:List Oper}{o:Oper}{a:Act}{Q:Exit->Act->af->Prop}(hg:o.guard=F)(it:aD)(hop:o.op=Op.next it E)(k:az)(K:Keyed P k)(hk:P.underlying k=Y .string)
 (b r n:Nat) (D:DataW aj) (f:Lit->Option aj) (hs:Says D f) (g:ah->Nat) (p:ah->Prop) (hf:∀x u,f (.string x.data.toList)=Y u->u=.pointer (Y ⟨g x,0,F⟩)/\p x) (left:Lit->Bool) (cnt:Nat)
 (hit:a.eval it=.pointer (Y ⟨r,0,F⟩)) (h:w.ranges P k aY b r n D left cnt)
 (hDone:(∀kl,left kl=E)->wpList P ops Q rest (a.put o.dst (.tuple #[.bool E])) w)
 (hMore:∀(x:ah) (w':af) (cnt':Nat),p x->left (.string x.data.toList)=Z6->w'.ranges P k aY b r n D (λz=>left z && !z.sameKey (.string x.data.toList)) cnt'->cnt'<cnt->w.grownBy w' (Y r)->w'.heap.size=w.heap.size->
   (Instr.entry (.pointer (Y ⟨r,0,F⟩))).run P w'=.ok (.tuple #[.string x,.pointer (Y ⟨g x,0,F⟩)]) w'->wpList P ops Q rest (a.put o.dst (.tuple #[.bool Z6,.string x,.pointer (Y ⟨g x,0,F⟩)])) w'):
 wpList P ops Q (o :: rest) a w:=by
 refine wpList_plain hg λK' hK'=>?_;unfold Oper.wp;rcases h.next K o.type with⟨h0,hl,hrun⟩|⟨key,v,kl,y,w',cnt',hkey,hlk,hv,hat,hrun,m6,hlt,VU,hsz,tI⟩
 ·simp[execOp,hop,hit,hrun,Result.andThen];exact hK' _ _ (hDone hl)
 ·obtain⟨x,rfl,rfl,_⟩:=WideMaps.string_of_keyOf hk hkey;simp only[aY,Option.some.injEq]at hv;subst hv;have hh:=Maps.has_true_of_atKey hat;rw[hs.2]at hh;obtain⟨u,hu⟩:=Option.isSome_iff_exists.1 hh;have e1:=(hs.1 _ u hu .nil).symm.trans (hat .nil);injection e1 with e1;subst e1;obtain⟨rfl,hp⟩:=hf x _ hu;simp[execOp,hop,hit,hrun,Result.andThen];exact hK' _ _ (hMore x w' cnt' hp hlk m6 hlt VU hsz tI)
def ez(r:MR):Bool:=(ab8 r.keys.length).all r.asked
def gD{keys:List ah}(hn:keys.Nodup)(hx:keys[j]?=Y x):bC keys x=j:=by obtain⟨hj,rfl⟩:=List.getElem?_eq_some_iff.1 hx;unfold bC;rw[List.findIdx_eq hj];refine⟨XI,λk hk=>?_⟩;simp only[decide_eq_false_iff_not];intro e;exact(List.pairwise_iff_getElem.1 hn) k j I hj hk e
section
variable {w:af}{τ:Nat->Tag}{aJ b:Nat}{s:MS}{A:SA}
def qg(B:SB)(i:Nat)(r:MR):∀x u,dr B i r (.string x.data.toList)=Y u->u=.pointer (Y ⟨B.qb i (bC r.keys x),0,F⟩)/\(bC r.keys x<r.keys.length/\r.keys[bC r.keys x]?=Y x):=by
 intro x u hu;simp only[dr,vE]at hu;split at hu
 ·rename_i h;cases hu;exact⟨rfl,h,B8 h⟩
 ·cases hu
def BZ{D:DataW aj}{r:MR}(hs:Says D (dr B i r))(hn:r.keys.Nodup)(hx:r.keys[j]?=Y x):Maps.has D (.string x.data.toList)=Z6:=by rw[hs.2];have:=gD hn hx;have hj:=aH hx;simp[dr,vE,this,hj]
def qi(h:bB w τ aJ b s A){r:MR}(hr:s.rs[i]?=Y r)(iu:r.fin=E):
 Calls prog 42 #[ptr (A.R.pr i)] w λe w'=>e=.returned (.bool (ez r))/\Below w.heap.size w w':=by
 have hW:=h.reads.rd i r hr iu;have hnd:=(h.ok.keys i r hr).2.2.2;have c0:w.cell? ⟨A.R.pr i,0,F⟩=Y (.int .i32 0):=hW.cell (o:=0) rfl;have f0:=hW.frozen 0;have mq:=hW.set 0 (.int .i32 1);have YE:A.R.qm i≠A.R.pr i:=λe=>by have h1:=h.reads.nB i r hr iu;rw[e,h.reads.eP i r hr iu]at h1;simp at h1
 have dY:∀k,k≠A.R.pr i->(w.setCell ⟨A.R.pr i,0,F⟩ (.int .i32 1)).heap[k]?=w.heap[k]? :=λk hk=>za3 _ _ _ _ hk;have pz:aS (w.setCell ⟨A.R.pr i,0,F⟩ (.int .i32 1)) prog 9 (A.R.qm i) (dr A.R i r):=(h.reads.xI i r hr iu).of_eq (dY _ YE);have QX:∀(j:Nat) (x:ah),r.keys[j]?=Y x->(w.setCell ⟨A.R.pr i,0,F⟩ (.int .i32 1)).cell? ⟨A.R.qb i j,1,F⟩=Y (.bool (r.asked j)):=λj x hx=>by
  have hq:=h.reads.q i r j x hr iu hx;have hne:A.R.qb i j≠A.R.pr i:=λe=>by have h1:=h.reads.l6 i r j x hr iu hx;rw[e,h.reads.eP i r hr iu]at h1;simp at h1
  exact(hq.of_eq (dY _ hne)).cell (o:=1) rfl
 have MN:(w.setCell ⟨A.R.pr i,0,F⟩ (.int .i32 1)).heap.size=w.heap.size:=by simp[ab1]
 have HU:Hid (∀w3:af,Below w.heap.size (w.setCell ⟨A.R.pr i,0,F⟩ (.int .i32 1)) w3->aT w3 (A.R.pr i) (#[fH,gy,.bool (A.R.no i),A.R.ks i,.map (Y (A.R.qm i))].setIfInBounds 0 (.int .i32 1)) 137/\Below w.heap.size w (w3.setCell ⟨A.R.pr i,0,F⟩ (.int .i32 0))):=λw3 hB=>by
  refine⟨mq.of_eq (hB.block _ (by rw[<-MN];exact mq.lt)),hB.os,hB.tape,hB.output,?_,λk hk=>?_⟩
  ·have:=hB.size;simp[ab1];omega
  ·exact fE hW rfl (v:=.int .i32 1) (p:=λk=>k<w.heap.size) (λk hk=>hB.block k hk) k hk
 generalize hw1:w.setCell ⟨A.R.pr i,0,F⟩ (.int .i32 1)=w1 at *;have d4:w1.cell? ⟨A.R.pr i,4,F⟩=Y (.map (Y (A.R.qm i))):=mq.cell (o:=4) rfl;obtain⟨n,D,hown,hs⟩:=pz;have h0:∀(j:Nat) (x:ah),r.keys[j]?=Y x->Maps.has D (.string x.data.toList)=Z6:=λj x hx=>BZ hs hnd hx;have hf:=qg A.R i r;clear mq dY;unfold ptr;go_enter_defers func42,ntmps42;go_wp2_with fail
 refine(ak6 Tryz.bD ⟨A.R.pr i,0,F⟩ _ c0 f0).mono ?_;rintro e w' ⟨rfl,rfl⟩;rw[hw1];go_wp2_with (at_range;refine wpList_range_own _ rfl _ 135 rfl 9 139 gx underlying135 aY (A.R.qm i) n D rfl hown ?_;intro w0 C7 EA hs0)
 go_frame
 rw[MN]at C7 hs0⊢;go_loopw [17] (λ_ wr=>∃left cnt,wr.ranges prog 9 aY (A.R.qm i) w.heap.size n D left cnt/\Below w.heap.size w1 wr/\w.heap.size<wr.heap.size/\Hid (∀(j:Nat) (x:ah),r.keys[j]?=Y x->left (.string x.data.toList)=Z6\/r.asked j=Z6)) (λ_ wr=>wr.rangeLeft (A.R.qm i) w.heap.size)
 case atStart=>
  exact⟨_,_,C7,(ag2 _ _).grown EA I (λk e=>by cases e),I,λj x hx=>an0 (h0 j x hx)⟩
 case round=>
  obtain⟨left,cnt,m6,hB,hsz,HL⟩:=hrel;go_wp2_with (at_next;refine uq _ rfl _ rfl 9 gx underlying9 (A.R.qm i) w.heap.size n D (dr A.R i r) hs (λx=>A.R.qb i (bC r.keys x)) _ hf left cnt rfl m6 ?_ ?_)
  ·intro hl0;have Hr:Hid (ez r=Z6):=by
    unfold Hid ez;simp only[List.all_eq_true,List.mem_range];intro j hj;rcases HL.out j _ (za6 hj)with e|e
    ·rw[hl0]at e;cases e
    ·exact e
   clear hl0;obtain⟨xM,vK⟩:=HU.out wr hB;have HBl:Hid _:=vK;clear vK;go_wp2_with fail
   refine ai2 (f:=38) (args:=#[.pointer (Y ⟨A.R.pr i,0,F⟩)]) XI YU ?_;refine(af1 Tryz.bD ⟨A.R.pr i,0,F⟩ .returning _ (xM.cell (o:=0) rfl) (xM.frozen 0)).mono ?_;rintro e u' w'' ⟨rfl,rfl,rfl⟩;rw[Hr.out];exact⟨_,ak7 rfl _ _ _,rfl,HBl.out⟩
  ·intro x w1' Qp hxj Og L3 C8 hlt l5 hs1 tI;generalize hjx:bC r.keys x=j at *;have mg:Below w.heap.size w1 w1':=hB.grown l5 I (λk e=>by cases e;exact za5 _);have cq:=QX j x Og;have cq1:w1'.cell? ⟨A.R.qb i j,1,F⟩=Y (.bool (r.asked j)):=(mg.cell (p:=⟨A.R.qb i j,1,F⟩) (by have:=za9 w1 _ cq;simp only at this⊢;omega)).trans cq;have vD:w.heap.size<w1'.heap.size:=I
   clear cq L3;obtain⟨ba,ha⟩:∃ba,r.asked j=ba:=⟨_,rfl⟩
   rw[ha]at cq1;cases ba with
   |false=>
    have Hr:Hid (ez r=E):=by unfold Hid ez;rw[List.all_eq_false];exact⟨j,zbd.2 hxj,by simp[ha]⟩
    obtain⟨xM,vK⟩:=HU.out w1' mg;have HBl:Hid _:=vK;clear vK ha;go_wp2_with fail
    refine ai2 (f:=38) (args:=#[.pointer (Y ⟨A.R.pr i,0,F⟩)]) XI YU ?_;refine(af1 Tryz.bD ⟨A.R.pr i,0,F⟩ .returning _ (xM.cell (o:=0) rfl) (xM.frozen 0)).mono ?_;rintro e u' w'' ⟨rfl,rfl,rfl⟩;rw[Hr.out];exact⟨_,ak7 rfl _ _ _,rfl,HBl.out⟩
   |true=>
    have HL':Hid (∀(j':Nat) (x':ah),r.keys[j']?=Y x'->(left (.string x'.data.toList)&& !(Lit.string x'.data.toList).sameKey (.string x.data.toList))=Z6\/r.asked j'=Z6):=by
     intro j' x' hx';by_cases e:j'=j
     ·subst e;exact ak9 ha
     ·rcases HL.out j' x' hx' with e1|e1
      ·refine an0 ?_;rw[e1,Maps.sameKey_ne (by intro e2;injection e2 with e2;have e3:x'=x:=ao2 e2;subst e3;exact e ((gD hnd hx').symm.trans hjx))]
       rfl
      ·exact ak9 e1
    clear ha;go_wp2_with fail
    go_roundw
    case rel=>exact⟨_,_,C8,mg,vD,HL'⟩
    case measure=>rw[C8.left_eq,m6.left_eq];omega
end
section
variable {w:af}{τ:Nat->Tag}{aJ b:Nat}{s:MS}{A:SA}{L:List ah}
def cV(B:SB)(n pr qm:Nat)(qb:Nat->Nat)(no:Bool)(ks:aj):SB:={rm:=B.rm,pr:=λj=>if j=n then pr else B.pr j,qm:=λj=>if j=n then qm else B.qm j,qb:=λj=>if j=n then qb else B.qb j,no:=λj=>if j=n then no else B.no j,ks:=λj=>if j=n then ks else B.ks j,hv:=λj q=>if j=n then E else B.hv j q,tv:=λj q=>if j=n then⟨#[]⟩else B.tv j q,ts:=λj q=>if j=n then .nilIface else B.ts j q}
def dN{r:MR}(hm:(rs++ [dJ L])[i]?=Y r):(i<rs.length/\rs[i]?=Y r)\/(i=rs.length/\r=dJ L):=by
 by_cases e:i<rs.length
 ·rw[ag1 e]at hm;exact an0 ⟨e,hm⟩
 ·rw[am2 I]at hm;have hi':=aH hm;simp at hi';have:i=rs.length:=I
  subst this;simp at hm;exact ak9 ⟨rfl,hm.symm⟩
def FO:dW (rs++ [dJ L]) (cV B rs.length pr qm qb no ks)=upd (dW rs B) (.int .i64 ((rs.length:Int)+1)) (ptr pr):=by
 funext kl;by_cases e:kl=.int .i64 ((rs.length:Int)+1)
 ·subst e;rw[upd_same (by simp[WideAt.IsKeyLit])];have:gj (rs++ [dJ L]) ((rs.length:Int)+1)=Y (dJ L):=by unfold gj;rw[if_neg Yn,show ((rs.length:Int)+1-1).toNat=rs.length from by omega];simp[dJ]
  simp[dW,this,cV]
 ·rw[fS e];cases kl with
  |int k n=>
   cases k<;>try rfl
   have hn:n≠(rs.length:Int)+1:=λe'=>e (by rw[e']);have hf:gj (rs++ [dJ L]) n=gj rs n:=by
    unfold gj;by_cases h1:n<1\/(rs.length:Int)<n
    ·rw[if_pos h1,if_pos Yn]
    ·rw[if_neg h1,if_neg Yn,ag1 I]
   simp only[dW,hf];cases TZ:gj rs n with
   |none=>rfl
   |some r=>
    have:(n-1).toNat≠rs.length:=by
     unfold gj at TZ;split at TZ
     ·cases TZ
     ·omega
    simp only[cV,if_neg this]
  |_=>rfl
def bB.Q3(h:bB w τ aJ b s A)(Ht:1<=L.length)(Fw:L.length<=8)(I3:∀x∈L,bz x=Z6)(hnd:L.Nodup)(hop:aX s.rs<50)(hno:no=(decide (s.mode=2)&& decide (1<L.length)))
 (hp:iR w' τ' aJ s.rs.length s.parts A.pb pr qm qb no ks L w.heap.size) (ht:∀k,k<w.heap.size->τ' k=τ k)
 (hold:∀k,k<w.heap.size->k≠b->k≠A.R.rm->w'.heap[k]?=w.heap[k]?)
 (hb:aT w' b #[.int .i64 s.mode,A.cR,fH,gy,.int .i64 s.ws.length,.int .i64 ((s.rs.length:Int)+1),.map (Y A.wm),.map (Y A.R.rm)] 105)
 (hw:aS w' prog 3 A.R.rm (upd (dW s.rs A.R) (.int .i64 ((s.rs.length:Int)+1)) (ptr pr))):
 bB w' τ' aJ b {s with rs:=s.rs++ [dJ L]} {A with R:=cV A.R s.rs.length pr qm qb no ks}:=by
 have hne:∀{k a c:Nat},τ k=(aJ,a,c)->a≠0->a≠10->k<w.heap.size->w'.heap[k]?=w.heap[k]? :=by
  intro k a c htk h0 h5 hk;refine hold k hk (λe=>?_) (λe=>?_)
  ·rw[e,h.tag]at htk;simp at htk;omega
  ·rw[e,h.reads.iQ]at htk;simp at htk;omega
 refine h.I6 (λk hk h1 h0 KC=>⟨hne (a:=(τ k).2.1) (c:=(τ k).2.2) (by rw[<-h1]) I I hk,ht k hk⟩) (by rw[ht b h.blk.lt,h.tag]) ⟨h.ok.p1,h.ok.p4,h.ok.len,h.ok.items,λj r hj=>?_,?_⟩ ?_ ?_ ⟨?_,?_,λj r hj hf=>?_,λj r hj hf=>?_,λj r hj hf=>?_,λj r hj hf=>?_,λj r q x hj hf hx=>?_,λj r q x hj hf hx=>?_,λj r hj hf=>?_,λj r k hj hf hk=>?_⟩
 ·rcases dN hj with⟨_,e⟩|⟨_,rfl⟩
  ·exact h.ok.keys j r e
  ·exact⟨Ht,Fw,I3,hnd⟩
 ·have:aX (s.rs++ [dJ L])=aX s.rs+1:=by simp[aX,dJ]
  show aX (s.rs++ [dJ L])<=50;omega
 ·refine⟨h.told.sv,λj r hj hf=>?_,λj r q hj ha=>?_,λj r q x hj hf hx=>?_,λj r q x hj hf hx hv=>?_,λj r q x hj hf hx hv=>?_,λj r q x hj hf hx hv=>?_⟩
  ·rcases dN hj with⟨hjl,e⟩|⟨rfl,rfl⟩
   ·have:j≠s.rs.length:=I
    simp only[cV,this,if_false];exact h.told.no j r e hf
   ·simp only[cV,if_true];exact hno
  ·rcases dN hj with⟨hjl,e⟩|⟨rfl,rfl⟩
   ·exact h.told.un j r q e ha
   ·rfl
  ·rcases dN hj with⟨hjl,e⟩|⟨rfl,rfl⟩
   ·have:j≠s.rs.length:=I
    simp only[cV,this,if_false];exact h.told.hv j r q x e hf hx
   ·simp[cV,dJ]
  ·rcases dN hj with⟨hjl,e⟩|⟨rfl,rfl⟩
   ·have:j≠s.rs.length:=I
    simp only[cV,this,if_false]at hv⊢;exact h.told.tv j r q x e hf hx hv
   ·simp[cV]at hv
  ·rcases dN hj with⟨hjl,e⟩|⟨rfl,rfl⟩
   ·have:j≠s.rs.length:=I
    simp only[cV,this,if_false]at hv⊢;exact h.told.t0 j r q x e hf hx hv
   ·simp[cV]
  ·rcases dN hj with⟨hjl,e⟩|⟨rfl,rfl⟩
   ·exact h.told.fm j r q x e hf hx hv
   ·simp[dJ]at hv
 ·have e:((s.rs++ [dJ L]).length:Int)=(s.rs.length:Int)+1:=XI
  rw[e];exact hb
 ·rw[FO];exact hw
 ·show τ' A.R.rm=_;rw[ht _ h.reads.sL.lt,h.reads.iQ]
 ·rcases dN hj with⟨hjl,e⟩|⟨rfl,rfl⟩
  ·have hb':=h.reads.rd j r e hf;have:j≠s.rs.length:=I
   simp only[cV,this,if_false];exact hb'.of_eq (hne (h.reads.eP j r e hf) I I hb'.lt)
  ·simpa[cV]using hp.blk
 ·rcases dN hj with⟨hjl,e⟩|⟨rfl,rfl⟩
  ·have hb':=h.reads.rd j r e hf;have:j≠s.rs.length:=I
   simp only[cV,this,if_false];rw[ht _ hb'.lt,h.reads.eP j r e hf]
  ·simpa[cV]using hp.tag
 ·rcases dN hj with⟨hjl,e⟩|⟨rfl,rfl⟩
  ·have hb':=h.reads.xI j r e hf;have hjn:j≠s.rs.length:=I
   have e1:dr (cV A.R s.rs.length pr qm qb no ks) j r=dr A.R j r:=by funext kl;cases kl<;>simp[dr,cV,hjn]
   rw[e1];simp only[cV,hjn,if_false];exact hb'.of_eq (hne (h.reads.nB j r e hf) I I hb'.lt)
  ·have e1:dr (cV A.R s.rs.length pr qm qb no ks) s.rs.length (dJ L)=qF qb L:=by funext kl;cases kl<;>simp[dr,cV,qF,dJ]
   rw[e1];simpa[cV]using hp.map
 ·rcases dN hj with⟨hjl,e⟩|⟨rfl,rfl⟩
  ·have hb':=h.reads.xI j r e hf;have:j≠s.rs.length:=I
   simp only[cV,this,if_false];rw[ht _ hb'.lt,h.reads.nB j r e hf]
  ·simpa[cV]using hp.iD
 ·rcases dN hj with⟨hjl,e⟩|⟨rfl,rfl⟩
  ·have hb':=h.reads.q j r q x e hf hx;have:j≠s.rs.length:=I
   simp only[cV,this,if_false];exact hb'.of_eq (hne (h.reads.l6 j r q x e hf hx) I I hb'.lt)
  ·have:=hp.q q x hx;simpa[cV,dJ]using this
 ·rcases dN hj with⟨hjl,e⟩|⟨rfl,rfl⟩
  ·have hb':=h.reads.q j r q x e hf hx;have:j≠s.rs.length:=I
   simp only[cV,this,if_false];rw[ht _ hb'.lt,h.reads.l6 j r q x e hf hx]
  ·have:=hp.l6 q x hx;simpa[cV]using this
 ·rcases dN hj with⟨hjl,e⟩|⟨rfl,rfl⟩
  ·have hr':=h.reads.ky j r e hf;have:j≠s.rs.length:=I
   simp only[cV,this,if_false];exact aI hr' (λk hk=>hne (h.reads.dV j r k e hf hk) I I (aQ hr' k hk).2)
  ·have:=hp.ky;simpa[cV,dJ]using this
 ·rcases dN hj with⟨hjl,e⟩|⟨rfl,rfl⟩
  ·have hr':=h.reads.ky j r e hf;have hjn:j≠s.rs.length:=I
   simp only[cV,hjn,if_false]at hk;rw[ht _ (aQ hr' k hk).2,h.reads.dV j r k e hf hk]
  ·simp only[cV,if_true]at hk;exact hp.dV k hk
def UP{L:List ah}(h:iB L=0):1<=L.length/\L.length<=8/\(∀x∈L,bz x=Z6)/\L.Nodup:=by
 unfold iB at h;split at h
 ·cases h
 ·obtain⟨h1,h2⟩:=FP h;exact⟨I,I,λx hx=>(h1 x hx).1,h2⟩
def Bc(a:Option aA)(L:List ah)(cap:Nat)(hL:L.length<=ae0)(Uz:L.length<=cap)(hcm:cap<=ae0)(hz:pZ L)(hI:fo w a L):
 Calls prog 36 #[.slice a L.length cap] w λe w'=>e=.returned (.int .i64 (iB L))/\w'=w:=by
 by_cases hs:L.length<1\/8<L.length
 ·exact zD a L cap hL hs
 ·obtain⟨ib,io,rfl,c0⟩:=hI 0 L[0] (za6 I);refine zE ib io L cap I I Uz hcm hz (λk x hx=>?_);obtain⟨TS,TT,e,r⟩:=hI k x hx;cases e;exact r
def abM(h:bB w τ aJ b s A)(a:Option aA)(cap:Nat)(hL:L.length<=ae0)(Uz:L.length<=cap)(hcm:cap<=ae0)(hz:pZ L)(hI:fo w a L)(hf:∀ib io,a=Y ⟨ib,io,F⟩->(τ ib).1≠aJ)(hrl:s.rs.length<8796093022208):
 Calls prog 21 #[ptr b,.slice a L.length cap] w (CW w τ aJ b (fZ s L)):=by
 have cc:=Bc a L cap hL Uz hcm hz hI;by_cases hc:iB L=0
 ·obtain⟨h1,h8,hg,hnd⟩:=UP hc;rw[hc]at cc;obtain⟨gb,go,rfl,hc0⟩:=hI 0 L[0] (za6 I);have hgb:gb<w.heap.size:=za9 w _ hc0;have zv:=hf gb go rfl;have hcell:∀(k:Nat) (x:ah),L[k]?=Y x->w.cell? ⟨gb,go+k,F⟩=Y (.string x):=λk x hx=>by obtain⟨TS,TT,e,r⟩:=hI k x hx;cases e;exact r
  have hp1:=h.ok.p1;have IV:=h.ok.p4;have hop:=h.ok.opn;have c2:w.cell? ⟨b,2,F⟩=Y (.int .i32 0):=h.blk.cell (o:=2) rfl;have f2:=h.blk.frozen 2;have jd:=h.blk.set 2 (.int .i32 1);have MP:A.R.rm≠b:=λe=>by have h1:=h.reads.iQ;rw[e,h.tag]at h1;simp at h1
  have pz:aS (w.setCell ⟨b,2,F⟩ (.int .i32 1)) prog 3 A.R.rm (dW s.rs A.R):=h.reads.sL.of_eq (za3 _ _ _ _ MP);obtain⟨mn,mD,hown,hsize⟩:=pz.size eV (uB s.rs) zH;rw[oT]at hsize;have c7:(w.setCell ⟨b,2,F⟩ (.int .i32 1)).cell? ⟨b,7,F⟩=Y (.map (Y A.R.rm)):=jd.cell (o:=7) rfl;by_cases hfull:50<=aX s.rs
  ·have Hr:Hid (fZ s L=(0,6,s)):=by unfold Hid fZ;rw[hc];simp[hfull]
   have eX:=gB h.blk (o:=2) rfl (.int .i32 1);unfold fH at eX;unfold ptr;clear hcell hI hf;go_enter_defers func21,ntmps21;go_wp2_with fail
   refine cc.mono ?_;rintro e w1 ⟨rfl,rfl⟩;clear cc;go_wp2_with fail
   refine(ak6 Tryz.bD ⟨b,2,F⟩ _ c2 f2).mono ?_;rintro e w' ⟨rfl,rfl⟩;go_wp2_with (at_len;refine wpList_len_own _ rfl _ 103 rfl 3 106 underlying103 aY A.R.rm mn mD rfl hown ?_;rw[hsize])
   refine ai2 (f:=38) (args:=#[.pointer (Y ⟨b,2,F⟩)]) XI YU ?_;refine(af1 Tryz.bD ⟨b,2,F⟩ .returning _ (jd.cell (o:=2) rfl) (jd.frozen 2)).mono ?_;rintro e u' w'' ⟨rfl,rfl,rfl⟩;rw[Hr.out];exact⟨_,av8 rfl _ _ _,τ,A,rfl,h.same eX,eX.pS _ _⟩
  ·have Hr:Hid (fZ s L=((s.rs.length:Int)+1,0,{s with rs:=s.rs++ [dJ L]})):=by unfold Hid fZ;rw[hc];simp only[ne_eq,not_true,if_false,if_neg hfull]
   have c5:(w.setCell ⟨b,2,F⟩ (.int .i32 1)).cell? ⟨b,5,F⟩=Y (.int .i64 s.rs.length):=jd.cell (o:=5) rfl;have f5:(w.setCell ⟨b,2,F⟩ (.int .i32 1)).frozen? ⟨b,5,F⟩=E:=jd.frozen 5;have fG:=jd.set 5 (.int .i64 ((s.rs.length:Int)+1));unfold ptr;clear hI hf;go_enter_defers func21,ntmps21;go_wp2_with fail
   refine cc.mono ?_;rintro e w1 ⟨rfl,rfl⟩;clear cc;go_wp2_with fail
   refine(ak6 Tryz.bD ⟨b,2,F⟩ _ c2 f2).mono ?_;rintro e w' ⟨rfl,rfl⟩;have MG:gb≠b:=λe=>zv (by rw[e,h.tag]);have dY:∀k,k≠b->((w1.setCell ⟨b,2,F⟩ (.int .i32 1)).setCell ⟨b,5,F⟩ (.int .i64 ((s.rs.length:Int)+1))).heap[k]?=w1.heap[k]? :=λk hk=>(za3 _ _ _ _ hk).trans (za3 _ _ _ _ hk);have Yy:((w1.setCell ⟨b,2,F⟩ (.int .i32 1)).setCell ⟨b,5,F⟩ (.int .i64 ((s.rs.length:Int)+1))).heap.size=w1.heap.size:=by simp[ab1]
   have I4:((w1.setCell ⟨b,2,F⟩ (.int .i32 1)).setCell ⟨b,5,F⟩ (.int .i64 ((s.rs.length:Int)+1))).os=w1.os/\((w1.setCell ⟨b,2,F⟩ (.int .i32 1)).setCell ⟨b,5,F⟩ (.int .i64 ((s.rs.length:Int)+1))).tape=w1.tape/\((w1.setCell ⟨b,2,F⟩ (.int .i32 1)).setCell ⟨b,5,F⟩ (.int .i64 ((s.rs.length:Int)+1))).output=w1.output:=⟨rfl,rfl,rfl⟩
   go_wp2_with (at_len;refine wpList_len_own _ rfl _ 103 rfl 3 106 underlying103 aY A.R.rm mn mD rfl hown ?_;rw[hsize])
   generalize (w1.setCell ⟨b,2,F⟩ (.int .i32 1)).setCell ⟨b,5,F⟩ (.int .i64 ((s.rs.length:Int)+1))=wC at *;have s0:wC.cell? ⟨b,0,F⟩=Y (.int .i64 s.mode):=fG.cell (o:=0) rfl;have s1:wC.cell? ⟨b,1,F⟩=Y A.cR:=fG.cell (o:=1) rfl;have s4:wC.cell? ⟨b,5,F⟩=Y (.int .i64 ((s.rs.length:Int)+1)):=fG.cell (o:=5) rfl;have s5:wC.cell? ⟨b,7,F⟩=Y (.map (Y A.R.rm)):=fG.cell (o:=7) rfl;have FF:wC.ownsRow 0 130 1 A.cR s.parts ((ab8 s.parts).map (λq=>ptr (A.pb q))):=aI h.cR (λk hk=>dY k (λe=>by have h1:=h.eY k hk;rw[e,h.tag]at h1;simp at h1));have zB:∀(k:Nat) (x:ah),L[k]?=Y x->wC.cell? ⟨gb,go+k,F⟩=Y (.string x):=λk x hx=>(za7 (w:=w1) (dY gb MG)).trans (hcell k x hx);have cn:=FN (w:=wC.drew) (τ:=τ) (aJ:=aJ) (i:=s.rs.length) (P:=s.parts) (pb:=A.pb) (L:=L) b s.mode s0 A.cR s1 FF hp1 IV gb go cap h1 h8 hg hnd zB;unfold ptr at cn;have hMC:aS wC prog 3 A.R.rm (dW s.rs A.R):=h.reads.sL.of_eq (dY _ MP);have Yz:=fG.lt;have hn1: -9223372036854775808<=(s.rs.length:Int)+1:=I
   have hn2:(s.rs.length:Int)+1<=9223372036854775807:=I
   have wN:(lH s.rs).length<ae0:=by rw[oT];unfold ae0;omega
   clear hcell zB FF c5 f5 hown pz c7 hsize s0;go_region_held3 (λW=>W.cell? ⟨b,5,F⟩=Y (.int .i64 ((s.rs.length:Int)+1))/\W.cell? ⟨b,7,F⟩=Y (.map (Y A.R.rm))) (simp[*]) ((go_at_call 39;refine cn.mono ?_;rintro e w2 ⟨τ',pr,qm,qb,ks,rfl,hPW,eH,rE⟩;have k4:=(eH.cell (p:=⟨b,5,F⟩) Yz).trans s4;have k5:=(eH.cell (p:=⟨b,7,F⟩) Yz).trans s5;obtain⟨w3,hup,KS,hTu⟩:=(hMC.of_eq (w':=w2) (eH.block _ hMC.lt)).store (t:=103) (e:=106) eV underlying103 (lH s.rs) (λkl hh=>(zH kl).1 hh) wN (ap1 hn1 hn2) (.pointer (Y ⟨pr,0,F⟩));have Di:=rO.fU hTu;have m4:=(za7 (w:=w2) (a:=⟨b,5,F⟩) (Di.block b (λe=>MP e.symm))).trans k4;have m5:=(za7 (w:=w2) (a:=⟨b,7,F⟩) (Di.block b (λe=>MP e.symm))).trans k5))
   clear cn;go_wp2_with fail
   have xM:aT w3 b _ _:=(fG.of_eq (eH.block b Yz)).of_eq (Di.block b (λe=>MP e.symm));refine ai2 (f:=38) (args:=#[.pointer (Y ⟨b,2,F⟩)]) XI YU ?_;refine(af1 Tryz.bD ⟨b,2,F⟩ .returning _ (xM.cell (o:=2) rfl) (xM.frozen 2)).mono ?_;rintro e u' w'' ⟨rfl,rfl,rfl⟩;rw[Hr.out];have I5:wC.drew.heap.size=w1.heap.size:=Yy;rw[I5]at hPW rE;have E4:w1.heap.size<=w2.heap.size:=by have:=eH.size;rw[I5]at this;exact this
   have hold:∀k,k<w1.heap.size->k≠b->k≠A.R.rm->(w3.setCell ⟨b,2,F⟩ (.int .i32 0)).heap[k]?=w1.heap[k]? :=λk hk hkb hkm=>
    (za3 _ _ _ _ hkb).trans ((Di.block k hkm).trans ((eH.block k (by rw[I5];exact hk)).trans (dY k hkb)))
   have agW:=h.reads.sL.lt;have kR:=h.blk.lt;refine⟨_,av8 rfl _ _ _,τ',_,rfl,h.Q3 h1 h8 hg hnd I (w':=w3.setCell ⟨b,2,F⟩ (.int .i32 0)) rfl (hPW.frame (λk hk wN=>(za3 _ _ _ _ (by simp only;omega)).trans (Di.block k I))) rE hold ?_ (KS.of_eq (za3 _ _ _ _ MP)),?_⟩
   ·have:=xM.set 2 (.int .i32 0);simpa[fH,gy]using this
   ·refine⟨Di.os.trans (eH.os.trans I4.1),Di.tape.trans (eH.tape.trans I4.2.1),Di.output.trans (eH.output.trans I4.2.2),?_,λk hk=>rE k I,λk hk hs=>?_⟩
    ·have:=Di.size;simp[ab1];omega
    ·exact hold k I (λe=>hs (by rw[e,h.tag])) (λe=>hs (by rw[e,h.reads.iQ]))
 ·have Hr:Hid (fZ s L=(0,iB L,s)):=by unfold Hid fZ;simp[hc]
  have hne:(iB L != 0)=Z6:=by rw[bne_iff_ne];exact hc
  generalize iB L=c at *;unfold ptr;clear hI hf;go_enter_defers func21,ntmps21;go_wp2_with fail
  refine cc.mono ?_;rintro e w1 ⟨rfl,rfl⟩;clear cc;go_wp2_with fail
  rw[Hr.out];exact⟨_,av8 rfl _ _ _,τ,A,rfl,h,Stp.refl _ _ _⟩
end
end
section
open Go Go.RowKit
structure LL where
 v:aj
 n:Nat
 m:aj
structure LA where
 v:Nat->aj
 sB:Nat->Nat
 rB:Nat->Nat
 L:Nat->List LL
 N:Nat
def storeCells(a:LA)(n:Nat):List aj:=(ab8 n).flatMap (λi=> [ptr (a.sB i),ptr (a.rB i)])
def rTy:Nat->az
 | 0=>127
 | 1=>42
 | 2=>3
 | 3=>38
 | 5=>68
 |_=>9
def rSz:Nat->Nat
 | 0=>2
 |_=>1
def rN(a:LA)(n:Nat):Nat->Nat
 | 0=>n
 |i+1=>(a.L (i / 2)).length
def rX(a:LA)(n:Nat):Nat->List aj
 | 0=>storeCells a n
 |i+1=>(a.L (i / 2)).map (if i % 2=0 then LL.v else LL.m)
def el:Nat->aj->Nat->aj
 | 0,m,j=>if j % 3=1 then m else .string ⟨#[]⟩
 |_,m,_=>m
def A0:Nat->Nat
 | 0=>3
 | 1=>1
 |_=>2
structure Px(w:af)(τ:Nat->Tag)(N q:Nat)(x:LL):Prop where
 n:x.n<=8796093022208
 mk_:(q=0/\∃z:Int,x.m=.int .i64 z)\/(q≠0/\∃t,x.m=.string t)
 at_:∃a0 cap,x.v=.slice a0 x.n cap/\(0<x.n->∃b g,a0=Y ⟨b,0,F⟩/\b<w.heap.size/\τ b=(1,8,g)/\g<N/\∀j,j<x.n*A0 q->w.cell? ⟨b,j,F⟩=Y (el q x.m j))
def mK{α:Type}(f:Nat->α)(i:Nat)(x:α):Nat->α:=λj=>if j=i then x else f j
structure pR(w:af)(τ:Nat->Tag)(wb:Nat)(c:Int)(v:Nat->aj)(n:Nat->Nat)(X:Nat->List aj):Prop where
 blk:aT w wb #[v 0,v 1,v 2,v 3,v 4,v 5,v 6,.int .i64 c] 84
 tag:τ wb=(1,0,0)
 row:∀i,i<7->w.ownsRow 0 (rTy i) (rSz i) (v i) (n i) (X i)
 lC:∀i k,i<7->(v i).ownBlock=Y k->τ k=(1,1+i,0)
structure cD(w:af)(τ:Nat->Tag)(wb:Nat)(n:Nat)(c:Int)(a:LA):Prop where
 raw:pR w τ wb c a.v (rN a n) (rX a n)
 ls:∀q,q<3->∀x∈a.L q,Px w τ a.N q x
 n8:n<=8
structure LS(w:af)(τ:Nat->Tag)(a:LA)(S R:List MS):Prop where
 s:∀(i:Nat) (m:MS),S[i]?=Y m->∃A,bB w τ (2+2*i) (a.sB i) m A
 r:∀(i:Nat) (m:MS),R[i]?=Y m->∃A,bh w τ (3+2*i) (a.rB i) m A
section
variable {w w':af}{τ τ':Nat->Tag}{wb n:Nat}{c:Int}{a:LA}{S R:List MS}{v:Nat->aj}{m:Nat->Nat}{X:Nat->List aj}
def Px.frame{N q:Nat}{x:LL}(h:Px w τ N q x)(hN:N<=N')(hf:∀b g,b<w.heap.size->τ b=(1,8,g)->g<N->b<w'.heap.size/\τ' b=τ b/\∀j,j<x.n*A0 q->w'.cell? ⟨b,j,F⟩=w.cell? ⟨b,j,F⟩):Px w' τ' N' q x:=by obtain⟨h1,hm,a0,cap,h2,h3⟩:=h;refine⟨h1,hm,a0,cap,h2,λh0=>?_⟩;obtain⟨b,g,e,hb,ht,hg,hc⟩:=h3 h0;obtain⟨f1,f2,f3⟩:=hf b g hb ht hg;exact⟨b,g,e,f1,f2.trans ht,I,λj hj=>(f3 j hj).trans (hc j hj)⟩
def pR.frame(h:pR w τ wb c v m X)(hf:∀k g,k<w.heap.size->τ k=(1,g)->g.1<8->w'.heap[k]?=w.heap[k]? /\τ' k=τ k):pR w' τ' wb c v m X:=by have hb:=hf wb _ h.blk.lt h.tag XI;have hr:=λi k (hi:i<7) hk=>hf k _ (aQ (h.row i hi) k hk).2 (h.lC i k hi hk) Yn;exact⟨h.blk.of_eq hb.1,hb.2.trans h.tag,λi hi=>aI (h.row i hi) λk hk=>(hr i k hi hk).1,λi k hi hk=>(hr i k hi hk).2.trans (h.lC i k hi hk)⟩
def pR.as(h:pR w τ wb c v m X){X':Nat->List aj}(hn:∀i,i<7->m' i=m i/\X' i=X i):pR w τ wb c v m' X':=
 ⟨h.blk,h.tag,λi hi=>by rw[(hn i hi).1,(hn i hi).2];exact h.row i hi,h.lC⟩
def pR.ne(h:pR w τ wb c v m X)(hi:i<7)(hk:(v i).ownBlock=Y k):k≠wb:=λe=>by have:=h.lC i k hi hk;rw[e,h.tag]at this;simp at this;omega
def pR.count(h:pR w τ wb c v m X)(d:Int):pR (w.setCell ⟨wb,7,F⟩ (.int .i64 d)) τ wb d v m X:=
 ⟨h.blk.set 7 _,h.tag,λi hi=>aI (h.row i hi) λ_ hk=>za3 _ _ _ _ (h.ne hi hk),h.lC⟩
def vA(τ:Nat->Tag)(i:Nat)(v2:aj):Nat->Tag:=λk=>if v2.ownBlock=Y k then(1,1+i,0)else τ k
def pR.after(h:pR w τ wb c v m X)(hi:i<7)(hG:(w.alloc o1).grownBy w2 (v i).ownBlock):aT w2 wb #[v 0,v 1,v 2,v 3,v 4,v 5,v 6,.int .i64 c] 84:=
 h.blk.of_eq ((hG.block wb (by have:=h.blk.lt;simp;omega) (λe=>h.ne hi e.symm rfl)).trans (za4 _ _ _ h.blk.lt))
def pR.push(h:pR w τ wb c v m X)(hi:i<7){xs:List aj}(hG:(w.alloc o1).grownBy w2 (v i).ownBlock)(hA:v2.ownBlock=(v i).ownBlock\/v2.ownBlock=Y (w.alloc o1).heap.size)
 (hO:w2.ownsRow 0 (rTy i) (rSz i) v2 (m i+1) (X i++xs)):
 pR (w2.setCell ⟨wb,i,F⟩ v2) (vA τ i v2) wb c (mK v i v2) (mK m i (m i+1)) (mK X i (X i++xs))/\Stp 1 τ w (vA τ i v2) (w2.setCell ⟨wb,i,F⟩ v2)/\∀k g,k<w.heap.size->τ k=(1,8,g)->(w2.setCell ⟨wb,i,F⟩ v2).heap[k]?=w.heap[k]? :=by
 have Ey:=h.blk.lt;have E4:w.heap.size+1<=w2.heap.size:=by simpa using hG.size
 have hz:(w2.setCell ⟨wb,i,F⟩ v2).heap.size=w2.heap.size:=by simp[ab1]
 have tk:∀k,k<w.heap.size->vA τ i v2 k=τ k:=λk hk=>by
  unfold vA;split
  ·rename_i e;rcases hA with e2|e2
   ·rw[h.lC i k hi (e2.symm.trans e)]
   ·rw[e]at e2;simp at e2;omega
  ·rfl
 have n2:∀k,v2.ownBlock=Y k->k≠wb:=λk hk e=>by
  rcases hA with e2|e2
  ·exact h.ne hi (e2.symm.trans hk) e
  ·rw[hk]at e2;simp at e2;omega
 have kk:∀k,k<w.heap.size->(v i).ownBlock≠Y k->k≠wb->(w2.setCell ⟨wb,i,F⟩ v2).heap[k]?=w.heap[k]? :=λk h1 h2 h4=>
  (za3 _ _ _ _ h4).trans ((hG.block k Yn (λe=>h2 e.symm)).trans (za4 _ _ _ h1))
 refine⟨⟨?_,(tk wb Ey).trans h.tag,λj hj=>?_,λj k hj hk=>?_⟩,⟨hG.os,hG.tape,hG.output,I,tk,λk hk hs=>kk k hk (λe=>hs (by rw[h.lC i k hi e])) (λe=>hs (by rw[e,h.tag]))⟩,λk g hk ht=>kk k hk (λe=>?_) (λe=>?_)⟩
 ·have:=(h.after hi hG).set i v2;match i,hi with
  | 0,_| 1,_| 2,_| 3,_| 4,_| 5,_| 6,_=>exact this
 ·by_cases e:j=i
  ·subst e;simp only[mK,if_true];exact aI hO λk hk=>za3 _ _ _ _ (n2 k hk)
  ·simp only[mK,e,if_false];refine aI (h.row j hj) λk hk=>kk k (aQ (h.row j hj) k hk).2 (λe'=>?_) (h.ne hj hk);have:=h.lC i k hi e';rw[h.lC j k hj hk]at this;simp at this;omega
 ·by_cases e:j=i
  ·subst e;simp only[mK,if_true]at hk;unfold vA;rw[if_pos hk]
  ·simp only[mK,e,if_false]at hk;exact(tk k (aQ (h.row j hj) k hk).2).trans (h.lC j k hj hk)
 ·rw[h.lC i k hi e]at ht;simp at ht;omega
 ·rw[e,h.tag]at ht;simp at ht
def cD.frame'(h:cD w τ wb n c a)(hf:∀k,k<w.heap.size->(τ k).1=1->τ k≠(1,8,a.N)->w'.heap[k]?=w.heap[k]? /\τ' k=τ k):cD w' τ' wb n c a:=by refine⟨h.raw.frame λk g hk ht hg=>hf k hk (by rw[ht]) (by rw[ht];intro e;cases e;simp at hg),λq hq x hx=>(h.ls q hq x hx).frame (za5 _) λb g hb ht hg=>?_,h.n8⟩;obtain⟨e1,e2⟩:=hf b hb (by rw[ht]) (by rw[ht];intro e;cases e;omega);refine⟨?_,e2,λj _=>za7 e1⟩;rw[ad7 hb]at e1;exact(za8.1 e1).1
def cD.frame(h:cD w τ wb n c a)(hf:∀k,k<w.heap.size->(τ k).1=1->w'.heap[k]?=w.heap[k]? /\τ' k=τ k):cD w' τ' wb n c a:=
 h.frame' (λk h1 h2 _=>hf k h1 h2)
def cD.count(h:cD w τ wb n c a)(d:Int):cD (w.setCell ⟨wb,7,F⟩ (.int .i64 d)) τ wb n d a:=
 ⟨h.raw.count d,λq hq x hx=>(h.ls q hq x hx).frame (za5 _) λb g hb ht _=>⟨by simpa[ab1]using hb,rfl,λj _=>za7 (za3 _ _ _ _ λe=>by rw[show b=wb from e,h.raw.tag]at ht;simp at ht)⟩,h.n8⟩
def cD.pS(h:cD w τ wb n c a)(hs:Stp aJ τ w τ' w')(h1:aJ≠1):cD w' τ' wb n c a:=
 h.frame (λk hk ht=>⟨hs.block k hk (by rw[ht];exact λe=>h1 e.symm),hs.tag k hk⟩)
def cD.below(h:cD w τ wb n c a)(hb:Below w.heap.size w w'):cD w' τ wb n c a:=h.frame (λk hk _=>⟨hb.block k hk,rfl⟩)
def LS.TL(h:LS w τ a S R)(hs:Stp 1 τ w τ' w'):LS w' τ' a S R:=by
 refine⟨λi m hm=>?_,λi m hm=>?_⟩
 ·obtain⟨A,hA⟩:=h.s i m hm;exact⟨A,hA.frame (λk hk ht=>⟨hs.block k hk (by rw[ht];omega),hs.tag k hk⟩)⟩
 ·obtain⟨A,hA⟩:=h.r i m hm;exact⟨A,hA.frame (λk hk ht=>⟨hs.block k hk (by rw[ht];omega),hs.tag k hk⟩)⟩
def LS.KI(h:LS w τ a S R){m:MS}{A:SA}(hs:Stp (2+2*i) τ w τ' w')(hm:bB w' τ' (2+2*i) (a.sB i) m A):LS w' τ' a (S.set i m) R:=by
 refine⟨λj mj hj=>?_,λj mj hj=>?_⟩
 ·rcases cS hj with⟨rfl,rfl⟩|⟨e,hj'⟩
  ·exact⟨A,hm⟩
  ·obtain⟨B,hB⟩:=h.s j mj hj';exact⟨B,hB.frame (λk hk ht=>⟨hs.block k hk (by rw[ht];omega),hs.tag k hk⟩)⟩
 ·obtain⟨B,hB⟩:=h.r j mj hj;exact⟨B,hB.frame (λk hk ht=>⟨hs.block k hk (by rw[ht];omega),hs.tag k hk⟩)⟩
def LS.KJ(h:LS w τ a S R){m:MS}{A:RA}(hs:Stp (3+2*i) τ w τ' w')(hm:bh w' τ' (3+2*i) (a.rB i) m A):LS w' τ' a S (R.set i m):=by
 refine⟨λj mj hj=>?_,λj mj hj=>?_⟩
 ·obtain⟨B,hB⟩:=h.s j mj hj;exact⟨B,hB.frame (λk hk ht=>⟨hs.block k hk (by rw[ht];omega),hs.tag k hk⟩)⟩
 ·rcases cS hj with⟨rfl,rfl⟩|⟨e,hj'⟩
  ·exact⟨A,hm⟩
  ·obtain⟨B,hB⟩:=h.r j mj hj';exact⟨B,hB.frame (λk hk ht=>⟨hs.block k hk (by rw[ht];omega),hs.tag k hk⟩)⟩
end
def E5(wb:Nat)(c:Int)(w:af)(h0:0<=c)(h1:c<=281474976710656)(cc:w.cell? ⟨wb,7,F⟩=Y (.int .i64 c))(cf:w.frozen? ⟨wb,7,F⟩=E):
 Calls prog 131 #[ptr wb] w λe w'=>∃x:ah,e=.returned (.string x)/\x.size<=100/\Below w.heap.size (w.setCell ⟨wb,7,F⟩ (.int .i64 (c+1))) w':=by
 unfold ptr;go_enter func131,ntmps131;go_wp2_with fail
 generalize hw1:w.setCell ⟨wb,7,F⟩ (.int .i64 (c+1))=w1 at *;go_loopw [3,4,5] (λt n k wr=>∃(x:ah) (m:Int) (j:Nat),j<=7/\t=.string x/\n=.int .i64 m/\k=.int .i64 j/\0<=m/\m<=281474976710657/\x.size<=1+8*j/\Below w.heap.size w1 wr/\w.heap.size<=wr.heap.size) (λ_ _ k _=>7-(intOf k).toNat)
 case atStart=>
  refine⟨_,c+1,0,I,rfl,rfl,rfl,I,I,?_,ag2 _ _,?_⟩
  ·decide
  ·rw[<-hw1];simp[ab1]
 case round=>
  obtain⟨x,m,j,hj,rfl,rfl,rfl,hm0,hm1,hx,hB,hsz⟩:=hrel;by_cases hlt:j<7
  ·have hr:=Int.emod_nonneg m (show (16:Int)≠0 by omega);have OY:=Int.emod_lt_of_pos m (show (0:Int)<16 by omega);have hcv:(convert 116 9 (.slice (Y ⟨wr.heap.size,0,F⟩) 1 1)).run prog (wr.alloc (.cells #[.int .u8 (97+m % 16)] 5))=.ok (.string ⟨#[bg2 (97+m % 16).toNat]⟩) (wr.alloc (.cells #[.int .u8 (97+m % 16)] 5)):=by
    have hb:((bg2 (97+m % 16).toNat).toNat:Int)=97+m % 16:=by rw[UInt8.toNat_ofNat_of_lt' (by show (97+m % 16).toNat<256;omega)];omega
    refine run_convert_bytes_back (wr.alloc (.cells #[.int .u8 (97+m % 16)] 5)) 116 9 5 ⟨wr.heap.size,0,F⟩ 1 [bg2 (97+m % 16).toNat] underlying116 underlying5 underlying9 (λj hj=>?_);have:j=0:=by simpa using hj
    subst this;have:=(aT.new wr #[.int .u8 (97+m % 16)] 5).cell (o:=0) rfl;show (wr.alloc _).cell? ⟨wr.heap.size,0+0,F⟩=Y (.int .u8 ((bg2 (97+m % 16).toNat).toNat:Int));rw[hb];exact this
   have hq:=Int.ediv_nonneg hm0 (show (0:Int)<=16 by omega);have E6:=Int.ediv_le_self 16 hm0;have hxs:x.size<=1000:=I
   go_wp2_with fail
   go_roundw
   case rel=>
    refine⟨_,m / 16,j+1,I,rfl,?_,by go_num,I,I,?_,hB.alloc hsz _,by simp;omega⟩
    ·rfl
    ·rw[ByteArray.size_append];show x.size+1<=_;omega
   case measure=>simp[intOf];omega
  ·go_wp2_with fail
   go_ret;rw[hw1];exact⟨x,rfl,I,hB⟩
def TM:(prog.info? 68).map (λi=>(i.zero,i.size,i.bytes))=Y (Y (.slice F 0 0),1,24):=Yl
def wM(w:af)(x:aj)(t:az)(hk:k=w.heap.size):∀j u, [x][j]?=Y u->(w.alloc (.cells #[x] t)).cell? ((⟨k,0,F⟩:aA).add j)=Y u:=by subst hk;exact ao9 w x t
section
variable {w:af}{τ:Nat->Tag}{wb n:Nat}{c:Int}{a:LA}
def pU(a:LA)(q N:Nat)(v2 v4:aj)(x:LL):LA:={a with v:=mK (mK a.v (2*q+1) v2) (2*q+2) v4,L:=mK a.L q (a.L q++ [x]),N:=N}
def vB(h:cD w τ wb n c a){q N:Nat}(hq:q<3)(hN:a.N<=N){x:LL}(hx:Px w τ N q x)
 {o1:Obj} {v2:aj} {w2:af} (jm:(w.alloc o1).grownBy w2 (a.v (2*q+1)).ownBlock) (hA2:v2.ownBlock=(a.v (2*q+1)).ownBlock\/v2.ownBlock=Y (w.alloc o1).heap.size)
 (kA:w2.ownsRow 0 (rTy (2*q+1)) 1 v2 ((a.L q).length+1) ((a.L q).map LL.v++ [x.v]))
 {o2:Obj} {v4:aj} {w4:af} (tJ:((w2.setCell ⟨wb,2*q+1,F⟩ v2).alloc o2).grownBy w4 (a.v (2*q+2)).ownBlock) (wH:v4.ownBlock=(a.v (2*q+2)).ownBlock\/v4.ownBlock=Y ((w2.setCell ⟨wb,2*q+1,F⟩ v2).alloc o2).heap.size)
 (KL:w4.ownsRow 0 (rTy (2*q+2)) 1 v4 ((a.L q).length+1) ((a.L q).map LL.m++ [x.m])):
 cD (w4.setCell ⟨wb,2*q+2,F⟩ v4) (vA (vA τ (2*q+1) v2) (2*q+2) v4) wb n c (pU a q N v2 v4 x)/\Stp 1 τ w (vA (vA τ (2*q+1) v2) (2*q+2) v4) (w4.setCell ⟨wb,2*q+2,F⟩ v4)/\
  ∀k g,k<w.heap.size->τ k=(1,8,g)->(w4.setCell ⟨wb,2*q+2,F⟩ v4).heap[k]?=w.heap[k]? :=by
 have eL:∀a:LA,rN a n (2*q+1)=(a.L q).length/\rX a n (2*q+1)=(a.L q).map LL.v/\rN a n (2*q+2)=(a.L q).length/\rX a n (2*q+2)=(a.L q).map LL.m:=λa=>by
  refine⟨?_,?_,?_,?_⟩
  ·show (a.L (2*q / 2)).length=_;rw[show 2*q / 2=q by omega]
  ·show (a.L (2*q / 2)).map (if 2*q % 2=0 then _ else _)=_;rw[show 2*q / 2=q by omega,if_pos I]
  ·show (a.L ((2*q+1)/ 2)).length=_;rw[show (2*q+1)/ 2=q by omega]
  ·show (a.L ((2*q+1)/ 2)).map (if (2*q+1)% 2=0 then _ else _)=_;rw[show (2*q+1)/ 2=q by omega,if_neg I]
 obtain⟨e1,e2,e3,e4⟩:=eL a
 have ne {α:Type} (f:Nat->α) (y:α):mK f (2*q+1) y (2*q+2)=f (2*q+2):=if_neg I
 obtain⟨r1,s1,k1⟩:=h.raw.push (i:=2*q+1) I jm hA2 (by rw[e1,e2];exact kA)
 obtain⟨r2,s2,k2⟩:=r1.push (i:=2*q+2) (xs:= [x.m]) I (by rw[ne];exact tJ) (by rw[ne];exact wH) (by rw[ne,ne,e3,e4];exact KL)
 have hk:∀k g,k<w.heap.size->τ k=(1,8,g)->(w4.setCell ⟨wb,2*q+2,F⟩ v4).heap[k]?=w.heap[k]? :=λk g h1 h2=>(k2 k g (by have:=s1.size;omega) ((s1.tag k h1).trans h2)).trans (k1 k g h1 h2)
 have hS:=s1.trans s2
 have hl:∀{p:Nat} {y:LL} {M:Nat},M<=N->Px w τ M p y->Px (w4.setCell ⟨wb,2*q+2,F⟩ v4) (vA (vA τ (2*q+1) v2) (2*q+2) v4) N p y:=λhM hy=>hy.frame hM λb g hb ht _=>⟨by have:=hS.size;omega,hS.tag b hb,λj _=>za7 (hk b g hb ht)⟩
 refine⟨⟨r2.as λi hi=>?_,λp hp y hy=>?_,h.n8⟩,hS,hk⟩
 ·obtain⟨g1,g2,g3,g4⟩:=eL (pU a q N v2 v4 x)
  have gq:(pU a q N v2 v4 x).L q=a.L q++ [x]:=if_pos rfl
  by_cases i1:i=2*q+1
  ·subst i1
   rw[g1,g2,gq,e2]
   simp[mK,e1]
  ·by_cases i2:i=2*q+2
   ·subst i2
    rw[g3,g4,gq]
    simp[mK,e3,e4]
   ·simp only[mK,i1,i2,if_false]
    cases i with
    |zero=>exact⟨rfl,rfl⟩
    |succ i=>
     have:(pU a q N v2 v4 x).L (i / 2)=a.L (i / 2):=if_neg I
     simp only[rN,rX,this,and_self]
 ·by_cases e:p=q
  ·subst e
   rcases List.mem_append.1 (show y∈a.L p++ [x] by simpa[pU,mK]using hy)with hy|hy
   ·exact hl hN (h.ls p hp y hy)
   ·rw[List.mem_singleton.1 hy]
    exact hl (za5 _) hx
  ·exact hl hN (h.ls p hp y (by simpa[pU,mK,e]using hy))
def XO(w:af)(τ:Nat->Tag)(wb n:Nat)(c:Int)(a:LA)(w':af):Prop:=∃τ' a',cD w' τ' wb n (c+1) a'/\a'.sB=a.sB/\a'.rB=a.rB/\(∀q,(a'.L q).length<=(a.L q).length+4)/\Stp 1 τ w τ' w'
def yV{q p N:Nat}{v4:aj}{x:LL}:((pU a q N v2 v4 x).L p).length<=(a.L p).length+1:=by
 show (mK a.L q _ p).length<=_;unfold mK;split
 ·rename_i e;subst e;simp
 ·omega
def Ib(h:cD w τ wb n c a)(lb ln:Nat)(arr:Array aj)(hl:aT w lb arr 70)(hs:arr.size=ln*2)(ht:τ lb=(1,8,a.N))(hln:ln<=4398046511104)(hJ:(a.L 2).length<=5864062014800)(h0:0<=c)(h1:c<=281474976710656):
 Calls prog 97 #[ptr wb,.slice (Y ⟨lb,0,F⟩) ln ln] w λe w'=>e=.returned (.tuple #[])/\XO w τ wb n c a w':=by
 have c7:w.cell? ⟨wb,7,F⟩=Y (.int .i64 c):=h.raw.blk.cell (o:=7) rfl;have cw:=E5 wb c w h0 h1 c7 (h.raw.blk.frozen 7);have Ey:=h.raw.blk.lt;have Py:=hl.lt;have hne:lb≠wb:=λe=>by rw[e,h.raw.tag]at ht;simp at ht
 have hX:=h.count (c+1);have dY:∀k,k≠wb->(w.setCell ⟨wb,7,F⟩ (.int .i64 (c+1))).heap[k]?=w.heap[k]? :=λk hk=>za3 _ _ _ _ hk;have TN:(w.setCell ⟨wb,7,F⟩ (.int .i64 (c+1))).heap.size=w.heap.size:=by simp[ab1]
 have Ic:(w.setCell ⟨wb,7,F⟩ (.int .i64 (c+1))).os=w.os/\(w.setCell ⟨wb,7,F⟩ (.int .i64 (c+1))).tape=w.tape/\(w.setCell ⟨wb,7,F⟩ (.int .i64 (c+1))).output=w.output:=⟨rfl,rfl,rfl⟩
 generalize w.setCell ⟨wb,7,F⟩ (.int .i64 (c+1))=wX at *;obtain⟨ii,mS,hi0,hi1,hi2⟩:=aj4 TM;obtain⟨si,hsi,hs0,hs1,E4⟩:=aj4 uf;unfold ptr at cw⊢;go_enter func97,ntmps97;go_wp2_with fail
 refine cw.mono ?_;rintro e w1 ⟨x,rfl,hx,hB⟩;clear cw;have mg:=hB.size;have Ht:aT w1 lb arr 70:=(hl.of_eq (dY _ hne)).of_eq (hB.block _ Py);go_wp2_with fail
 go_loopw [5] (λu wr=>∃(k:Nat) (xD:Array aj),k<=ln/\u=.int .i64 k/\aT wr lb xD 70/\xD.size=ln*2/\Hid (∀j,j<k*2->xD[j]?=Y (.string x))/\Fr (λb=>b=lb) w1 wr) (λu _=>ln-(intOf u).toNat)
 case atStart=>exact⟨0,arr,zbb _,rfl,Ht,hs,λj hj=>I,Fr.refl _ _⟩
 case round=>
  obtain⟨k,xD,hk,rfl,hb,hz,HA,hF⟩:=hrel;by_cases hlt:k<ln
  ·obtain⟨v0,hv0⟩:∃v,xD[k*2]?=Y v:=⟨_,ad7 I⟩
   obtain⟨v1,xE⟩:∃v,xD[k*2+1]?=Y v:=⟨_,ad7 I⟩
   have d0:=hb.cell hv0;have d1:=hb.cell xE;have f0:=hb.frozen (k*2);have f1:=hb.frozen (k*2+1);clear hv0 xE;go_wp2_with fail
   go_roundw
   case rel=>
    refine⟨k+1,_,I,by go_num,(hb.set (k*2) (.string x)).set (k*2+1) (.string x),by simp[hz],λj hj=>?_,(hF.setCell (p:=⟨lb,k*2,F⟩) rfl _).setCell (p:=⟨lb,k*2+1,F⟩) rfl _⟩;by_cases e1:j=k*2+1
    ·subst e1;rw[ad8 Yn]
    ·rw[zba (λe=>e1 e.symm)];by_cases e2:j=k*2
     ·subst e2;rw[ad8 I]
     ·rw[zba (λe=>e2 e.symm)];exact HA.out j I
   case measure=>simp[intOf];omega
  ·have E7:cD wr τ wb n (c+1) a:=(hX.below (TN▸hB)).frame' (λk hk _ h4=>⟨hF.block k hk (λe=>h4 (by rw[e,ht])),rfl⟩);have hS:Stp 1 τ w τ wr:=⟨hF.os.trans (hB.os.trans Ic.1),hF.tape.trans (hB.tape.trans Ic.2.1),hF.output.trans (hB.output.trans Ic.2.2),by have:=hF.size;omega,λ_ _=>rfl,λk hk h1=>(hF.block k I (λe=>h1 (by rw[e,ht]))).trans ((hB.block k hk).trans (dY k (λe=>h1 (by rw[e,h.raw.tag]))))⟩
   have HLs:Hid (Px wr τ (a.N+1) 2 ⟨.slice (Y ⟨lb,0,F⟩) ln ln,ln,.string x⟩):=⟨by show ln<=_;omega,.inr ⟨Yo,_,rfl⟩,_,_,rfl,λ_=>⟨lb,a.N,rfl,hb.lt,ht,I,λj hj=>hb.cell (HA.out j (by simp only[A0]at hj;omega))⟩⟩
   clear hX dY HA;have hit:wr.ownsRow 0 68 1 (a.v 5) (a.L 2).length ((a.L 2).map LL.v):=E7.raw.row 5 I;have him:wr.ownsRow 0 9 1 (a.v 6) (a.L 2).length ((a.L 2).map LL.m):=E7.raw.row 6 I;obtain⟨av,SS,hiv⟩:=bI hit;obtain⟨mv,mpv,qM⟩:=bI him;clear him;rw[hiv]at hit;have c5:=E7.raw.blk.cell (o:=5) (v:=a.v 5) rfl;rw[hiv]at c5;have f5:=E7.raw.blk.frozen 5;go_wp2_with (at_builtin;first
    |(refine ai4 _ rfl (.tmp 24) (.tmp 26) 82 rfl 0 68 ii _ 1 24 underlying82 mS hi0 hi1 hi2 rfl Yo (.slice av (a.L 2).length SS) (a.L 2).length _ rfl (hit.alloc _) ⟨_,0,F⟩ 1 1 [.slice (Y ⟨lb,0,F⟩) ln ln] rfl rfl (ao9 _ _ _) (by simp[ai9]) (by unfold ae0;omega) I (zbb _) ?_;intro v2 w2 kA jm Ie hA2;rw[<-hiv]at jm hA2;have fG:=E7.raw.after (i:=5) I jm;have Ig:(w2.setCell ⟨wb,5,F⟩ v2).ownsRow 0 9 1 (a.v 6) (a.L 2).length ((a.L 2).map LL.m):=(E7.raw.push (i:=5) I jm hA2 kA).1.row 6 I;rw[qM]at Ig;have d5:=fG.cell (o:=5) (v:=a.v 5) rfl;rw[hiv]at d5;have d6:=fG.cell (o:=6) (v:=a.v 6) rfl;rw[qM]at d6;have g5:=fG.frozen 5;have g6:=fG.frozen 6;obtain⟨q2,cap2,nW,-⟩:=aZ kA I;rw[nW]at Ig⊢)
    |(refine ai4 _ rfl (.tmp 34) (.tmp 36) 38 rfl 0 9 si _ 1 16 underlying38 hsi hs0 hs1 E4 rfl Yo (.slice mv (a.L 2).length mpv) (a.L 2).length _ rfl (Ig.alloc _) ⟨_,0,F⟩ 1 1 [.string x] rfl rfl (wM _ _ _ (by simp[ab1])) (by simp[ai9]) (by unfold ae0;omega) I (zbb _) ?_;intro v4 w4 KL tJ hN4 wH;rw[<-qM]at tJ wH;rw[<-nW]at tJ wH;have e6:=(tJ.block wb (by simp[ab1];have:=fG.lt;omega) (λe=>E7.raw.ne (i:=6) I e.symm rfl)).trans ((fG.set 5 v2).of_eq (za4 _ _ _ (by simp[ab1];exact fG.lt)));have j6:=aT.cell (o:=6) e6 (v:=a.v 6) rfl;rw[qM]at j6;have k6:=aT.frozen e6 6;obtain⟨q4,XP,VY,-⟩:=aZ KL I;rw[VY]))
   go_end0
   obtain⟨r1,r2,-⟩:=vB (q:=2) E7 I (Nat.le_succ _) HLs.out jm hA2 kA tJ wH KL;rw[<-VY];exact⟨rfl,_,_,r1,rfl,rfl,λq=>aj8 yV I,hS.trans r2⟩
end
def TP:(prog.info? 38).map (λi=>(i.zero,i.size,i.bytes))=Y (Y (.slice F 0 0),1,24):=Yl
section
variable {w:af}{τ:Nat->Tag}{wb n:Nat}{c:Int}{a:LA}
def E8(h:cD w τ wb n c a)(lb ln:Nat)(arr:Array aj)(hl:aT w lb arr 9)(hs:arr.size=ln)(ht:τ lb=(1,8,a.N))(hln:ln<=8796093022208)(hJ:(a.L 1).length<=5864062014800)(h0:0<=c)(h1:c<=281474976710656):
 Calls prog 101 #[ptr wb,.slice (Y ⟨lb,0,F⟩) ln ln] w λe w'=>e=.returned (.tuple #[])/\XO w τ wb n c a w':=by
 have c7:w.cell? ⟨wb,7,F⟩=Y (.int .i64 c):=h.raw.blk.cell (o:=7) rfl;have cw:=E5 wb c w h0 h1 c7 (h.raw.blk.frozen 7);have Ey:=h.raw.blk.lt;have Py:=hl.lt;have hne:lb≠wb:=λe=>by rw[e,h.raw.tag]at ht;simp at ht
 have hX:=h.count (c+1);have dY:∀k,k≠wb->(w.setCell ⟨wb,7,F⟩ (.int .i64 (c+1))).heap[k]?=w.heap[k]? :=λk hk=>za3 _ _ _ _ hk;have TN:(w.setCell ⟨wb,7,F⟩ (.int .i64 (c+1))).heap.size=w.heap.size:=by simp[ab1]
 have Ic:(w.setCell ⟨wb,7,F⟩ (.int .i64 (c+1))).os=w.os/\(w.setCell ⟨wb,7,F⟩ (.int .i64 (c+1))).tape=w.tape/\(w.setCell ⟨wb,7,F⟩ (.int .i64 (c+1))).output=w.output:=⟨rfl,rfl,rfl⟩
 generalize w.setCell ⟨wb,7,F⟩ (.int .i64 (c+1))=wX at *;obtain⟨ii,mS,hi0,hi1,hi2⟩:=aj4 TP;obtain⟨si,hsi,hs0,hs1,E4⟩:=aj4 uf;unfold ptr at cw⊢;go_enter func101,ntmps101;go_wp2_with fail
 refine cw.mono ?_;rintro e w1 ⟨x,rfl,hx,hB⟩;clear cw;have mg:=hB.size;have Ht:aT w1 lb arr 9:=(hl.of_eq (dY _ hne)).of_eq (hB.block _ Py);go_wp2_with fail
 go_loopw [5] (λu wr=>∃(k:Nat) (xD:Array aj),k<=ln/\u=.int .i64 k/\aT wr lb xD 9/\xD.size=ln/\Hid (∀j,j<k->xD[j]?=Y (.string x))/\Fr (λb=>b=lb) w1 wr) (λu _=>ln-(intOf u).toNat)
 case atStart=>exact⟨0,arr,zbb _,rfl,Ht,hs,λj hj=>I,Fr.refl _ _⟩
 case round=>
  obtain⟨k,xD,hk,rfl,hb,hz,HA,hF⟩:=hrel;by_cases hlt:k<ln
  ·obtain⟨v0,hv0⟩:∃v,xD[k]?=Y v:=⟨_,ad7 I⟩
   have d0:=hb.cell hv0;have f0:=hb.frozen k;clear hv0;go_wp2_with fail
   go_roundw
   case rel=>
    refine⟨k+1,_,I,by go_num,hb.set k (.string x),by simp[hz],λj hj=>?_,hF.setCell (p:=⟨lb,k,F⟩) rfl _⟩;by_cases e2:j=k
    ·subst e2;rw[ad8 I]
    ·rw[zba (λe=>e2 e.symm)];exact HA.out j I
   case measure=>simp[intOf];omega
  ·have E7:cD wr τ wb n (c+1) a:=(hX.below (TN▸hB)).frame' (λk hk _ h4=>⟨hF.block k hk (λe=>h4 (by rw[e,ht])),rfl⟩);have hS:Stp 1 τ w τ wr:=⟨hF.os.trans (hB.os.trans Ic.1),hF.tape.trans (hB.tape.trans Ic.2.1),hF.output.trans (hB.output.trans Ic.2.2),by have:=hF.size;omega,λ_ _=>rfl,λk hk h1=>(hF.block k I (λe=>h1 (by rw[e,ht]))).trans ((hB.block k hk).trans (dY k (λe=>h1 (by rw[e,h.raw.tag]))))⟩
   have HLs:Hid (Px wr τ (a.N+1) 1 ⟨.slice (Y ⟨lb,0,F⟩) ln ln,ln,.string x⟩):=⟨by show ln<=_;omega,.inr ⟨Yo,_,rfl⟩,_,_,rfl,λ_=>⟨lb,a.N,rfl,hb.lt,ht,I,λj hj=>hb.cell (HA.out j (by simp only[A0]at hj;omega))⟩⟩
   clear hX dY HA;have hit:wr.ownsRow 0 38 1 (a.v 3) (a.L 1).length ((a.L 1).map LL.v):=E7.raw.row 3 I;have him:wr.ownsRow 0 9 1 (a.v 4) (a.L 1).length ((a.L 1).map LL.m):=E7.raw.row 4 I;obtain⟨av,SS,hiv⟩:=bI hit;obtain⟨mv,mpv,qM⟩:=bI him;clear him;rw[hiv]at hit;have c5:=E7.raw.blk.cell (o:=3) (v:=a.v 3) rfl;rw[hiv]at c5;have f5:=E7.raw.blk.frozen 3;go_wp2_with (at_builtin;first
    |(refine ai4 _ rfl (.tmp 22) (.tmp 24) 81 rfl 0 38 ii _ 1 24 underlying81 mS hi0 hi1 hi2 rfl Yo (.slice av (a.L 1).length SS) (a.L 1).length _ rfl (hit.alloc _) ⟨_,0,F⟩ 1 1 [.slice (Y ⟨lb,0,F⟩) ln ln] rfl rfl (ao9 _ _ _) (by simp[ai9]) (by unfold ae0;omega) I (zbb _) ?_;intro v2 w2 kA jm Ie hA2;rw[<-hiv]at jm hA2;have fG:=E7.raw.after (i:=3) I jm;have Ig:(w2.setCell ⟨wb,3,F⟩ v2).ownsRow 0 9 1 (a.v 4) (a.L 1).length ((a.L 1).map LL.m):=(E7.raw.push (i:=3) I jm hA2 kA).1.row 4 I;rw[qM]at Ig;have d5:=fG.cell (o:=3) (v:=a.v 3) rfl;rw[hiv]at d5;have d6:=fG.cell (o:=4) (v:=a.v 4) rfl;rw[qM]at d6;have g5:=fG.frozen 3;have g6:=fG.frozen 4;obtain⟨q2,cap2,nW,-⟩:=aZ kA I;rw[nW]at Ig⊢)
    |(refine ai4 _ rfl (.tmp 32) (.tmp 34) 38 rfl 0 9 si _ 1 16 underlying38 hsi hs0 hs1 E4 rfl Yo (.slice mv (a.L 1).length mpv) (a.L 1).length _ rfl (Ig.alloc _) ⟨_,0,F⟩ 1 1 [.string x] rfl rfl (wM _ _ _ (by simp[ab1])) (by simp[ai9]) (by unfold ae0;omega) I (zbb _) ?_;intro v4 w4 KL tJ hN4 wH;rw[<-qM]at tJ wH;rw[<-nW]at tJ wH;have e6:=(tJ.block wb (by simp[ab1];have:=fG.lt;omega) (λe=>E7.raw.ne (i:=4) I e.symm rfl)).trans ((fG.set 3 v2).of_eq (za4 _ _ _ (by simp[ab1];exact fG.lt)));have j6:=aT.cell (o:=4) e6 (v:=a.v 4) rfl;rw[qM]at j6;have k6:=aT.frozen e6 4;obtain⟨q4,XP,VY,-⟩:=aZ KL I;rw[VY]))
   go_end0
   obtain⟨r1,r2,-⟩:=vB (q:=1) E7 I (Nat.le_succ _) HLs.out jm hA2 kA tJ wH KL;rw[<-VY];exact⟨rfl,_,_,r1,rfl,rfl,λq=>aj8 yV I,hS.trans r2⟩
end
end
end Go.Proofs.YteoahlieielcdaaGreat
