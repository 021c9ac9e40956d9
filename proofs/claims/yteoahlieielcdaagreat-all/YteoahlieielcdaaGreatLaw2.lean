import Derived.Test.YteoahlieielcdaaGreatPr18
import Derived.Laws.CopyOwn
set_option linter.all false
set_option maxHeartbeats 8000000
set_option maxRecDepth 100000
open Option renaming some->Y,none->F
open Bool renaming true->Z6
open List renaming getElem?_append_left->ag1,getElem?_map->ai8,length_set->am0,length_map->an4,getElem?_toArray->az1,getElem?_append->bg7
open Go renaming info_parts->aj4
open Array renaming getElem?_eq_getElem->ad7,getElem?_setIfInBounds_self_of_lt->ad8
open Go.Value renaming string->aj3
open Nat renaming zero_add->am9
namespace Go.Proofs.YteoahlieielcdaaGreat
open Go.Proofs.Tryz
open Go Go.RowKit
abbrev zcb:=@RowKit.Below.heap_alloc
abbrev zcc:=@Nat.le_refl
abbrev zcd:=@List.getElem?_eq_getElem
abbrev zce:=@World.cell?_of_block
abbrev zcf:=@Array.getElem?_setIfInBounds_ne
abbrev zcg:=@Nat.zero_le
variable{s m':MS}{τ τ' τ2:Nat->Tag}{w w' w2:af}{c:Int}{p b k sb j:Nat}{A As:SA}{L:List ah}{arr:Array aj}{a ia:Option aA}
section
section
variable {w:af}{τ:Nat->Tag}{wb n:Nat}{c:Int}{a:LA}
def cD.rows(h:cD w τ wb n c a)(q:Nat)(hq:q<3):∃b1 p1 b2 p2,w.cell? ⟨wb,2*q+1,F⟩=Y (.slice b1 (a.L q).length p1)/\w.cell? ⟨wb,2*q+2,F⟩=Y (.slice b2 (a.L q).length p2)/\
 ∀i,i< (a.L q).length->∃g1 g2 x,b1=Y ⟨g1,0,F⟩/\b2=Y ⟨g2,0,F⟩/\w.cell? ⟨g1,i,F⟩=Y x.v/\w.cell? ⟨g2,i,F⟩=Y x.m/\Px w τ a.N q x:=by
 have r1:=h.raw.row (2*q+1) I;have r2:=h.raw.row (2*q+2) I;rw[show rN a n (2*q+1)=(a.L q).length by show (a.L (2*q / 2)).length=_;rw[show 2*q / 2=q by omega],show rX a n (2*q+1)=(a.L q).map LL.v by show (a.L (2*q / 2)).map (if 2*q % 2=0 then _ else _)=_;rw[show 2*q / 2=q by omega,if_pos I]]at r1;rw[show rN a n (2*q+2)=(a.L q).length by show (a.L ((2*q+1)/ 2)).length=_;rw[show (2*q+1)/ 2=q by omega],show rX a n (2*q+2)=(a.L q).map LL.m by show (a.L ((2*q+1)/ 2)).map (if (2*q+1)% 2=0 then _ else _)=_;rw[show (2*q+1)/ 2=q by omega,if_neg I]]at r2;obtain⟨b1,p1,e1⟩:=bI r1;obtain⟨b2,p2,e2⟩:=bI r2;have hc:∀i,i<7->w.cell? ⟨wb,i,F⟩=Y (a.v i):=λi hi=>h.raw.blk.cell (o:=i) (by match i,hi with| 0,_| 1,_| 2,_| 3,_| 4,_| 5,_| 6,_=>rfl);refine⟨b1,p1,b2,p2,by rw[hc _ I,e1],by rw[hc _ I,e2],λi hi=>?_⟩;obtain⟨g1,c1,f1,-,-,k1,-⟩:=aZ r1 I;obtain⟨g2,c2,f2,-,-,k2,-⟩:=aZ r2 I;rw[e1]at f1;rw[e2]at f2;cases f1;cases f2;have z1:rSz (2*q+1)=1:=rfl;have z2:rSz (2*q+2)=1:=rfl;refine⟨g1,g2,(a.L q)[i],rfl,rfl,?_,?_,h.ls q hq _ (List.getElem_mem hi)⟩
 ·rw[k1 i (by rw[z1];omega)];simp[hi]
 ·rw[k2 i (by rw[z2];omega)];simp[hi]
def Mb(h:cD w τ wb n c a)(hJ:∀q,(a.L q).length<=5864062014800):
 Calls prog 33 #[ptr wb] w λe w'=>e=.returned (.bool Z6)/\Below w.heap.size w w':=by
 obtain⟨x1,y1,x2,y2,c1,c2,H0⟩:=h.rows 0 I;obtain⟨x3,y3,x4,y4,c3,c4,H1⟩:=h.rows 1 I;obtain⟨x5,y5,x6,y6,c5,c6,H2⟩:=h.rows 2 I;have j0:=hJ 0;have j1:=hJ 1;have j2:=hJ 2;replace H0:Hid _:=H0;replace H1:Hid _:=H1;replace H2:Hid _:=H2;have K:∀{wr:af} {p:aA} {u:aj},Below w.heap.size w wr->w.cell? p=Y u->wr.cell? p=Y u:=λhB hu=>(hB.cell (World.block_lt_of_cell? _ _ hu)).trans hu;replace K:Hid _:=@K;generalize (a.L 0).length=n0 at *;generalize (a.L 1).length=n1 at *;generalize (a.L 2).length=n2 at *;clear h hJ;have hb0:((⟨#[]⟩:ah).toList ==(⟨#[]⟩:ah).toList)=Z6:=fj rfl;simp only[Nat.reduceMul,Nat.reduceAdd]at c1 c2 c3 c4 c5 c6;replace c1:Hid _:=c1;replace c2:Hid _:=c2;replace c3:Hid _:=c3;replace c4:Hid _:=c4;replace c5:Hid _:=c5;replace c6:Hid _:=c6;unfold ptr;go_enter func33,ntmps33;go_wp2_with fail
 go_loopw [3] (λu wr=>∃i:Nat,i<=n0/\u=.int .i64 i/\Below w.heap.size w wr) (λu _=>n0-(intOf u).toNat)
 case atStart=>exact⟨0,zcg _,rfl,Below.refl _ _⟩
 case round=>
  obtain⟨i,hi,rfl,hB⟩:=hrel;have d1:=K.out hB c1.out;by_cases hlt:i<n0
  ·obtain⟨g1,g2,⟨xv,xn,xm⟩,rfl,rfl,e1,e2,hL⟩:=H0.out i hlt;obtain⟨hn,hm,a0,cap,hv,hc⟩:=hL;simp only at hn hm hv hc;obtain⟨z,rfl⟩:∃z:Int,xm=.int .i64 z:=hm.elim (λh=>h.2) λh=>absurd rfl h.1;subst hv;have HC:Hid _:=hc;have E1:Hid _:=e1;have E2:Hid _:=e2;have f1:=K.out hB e1;clear hc e1 e2 hm;go_wp2_with fail
   go_loopw [4] (λu wr=>∃k:Nat,k<=xn/\u=.int .i64 k/\Below w.heap.size w wr) (λu _=>xn-(intOf u).toNat)
   case atStart=>exact⟨0,zcg _,rfl,hB⟩
   case round=>
    clear d1 f1;obtain⟨k,hk,rfl,hB⟩:=hrel;have d1:=K.out hB c1.out;have d2:=K.out hB c2.out;have f1:=K.out hB E1.out;have f2:=K.out hB E2.out;by_cases wN:k<xn
    ·obtain⟨b,g,rfl,-,-,-,hcell⟩:=HC.out I;have p0:=K.out hB (hcell (k*3) (by simp only[A0];omega));have p1:=K.out hB (hcell (k*3+1) (by simp only[A0];omega));have p2:=K.out hB (hcell (k*3+2) (by simp only[A0];omega));simp only[el,show k*3 % 3=0 by omega,show (k*3+1)% 3=1 by omega,show (k*3+2)% 3=2 by omega,if_true,if_false,Nat.reduceEqDiff,Nat.zero_ne_one]at p0 p1 p2;clear hcell HC;have tK:aT (wr.alloc (.cells #[.string ⟨#[]⟩,.int .i64 z,.string ⟨#[]⟩] 62)) wr.heap.size #[.string ⟨#[]⟩,.int .i64 z,.string ⟨#[]⟩] 62:=aT.new _ _ _;have ZE:Below w.heap.size w (wr.alloc (.cells #[.string ⟨#[]⟩,.int .i64 z,.string ⟨#[]⟩] 62)):=hB.alloc hB.size _;have q0:=tK.cell (o:=0) (v:=.string ⟨#[]⟩) rfl;have q1:=tK.cell (o:=1) (v:=.int .i64 z) rfl;have q2:=tK.cell (o:=2) (v:=.string ⟨#[]⟩) rfl;have q3:=K.out ZE c2.out;have q4:=K.out ZE E2.out;go_wp2_with fail
     generalize wr.alloc (.cells #[.string ⟨#[]⟩,.int .i64 z,.string ⟨#[]⟩] 62)=X at *;go_quiet (fail)
     go_wp2_with fail
     go_roundw
     case rel=>exact⟨k+1,I,by go_num,Below.pV ZE _⟩
     case measure=>simp[intOf];omega
    ·go_wp2_with fail
     go_roundw
     case rel=>exact⟨i+1,I,by go_num,hB⟩
     case measure=>simp[intOf];omega
  ·clear H0 c1 c2;go_wp2_with fail
   clear d1;go_loopw [6] (λu wr=>∃i:Nat,i<=n1/\u=.int .i64 i/\Below w.heap.size w wr) (λu _=>n1-(intOf u).toNat)
   case atStart=>exact⟨0,zcg _,rfl,hB⟩
   case round=>
    obtain⟨i,hi,rfl,hB⟩:=hrel;have d1:=K.out hB c3.out;by_cases hlt:i<n1
    ·obtain⟨g1,g2,⟨xv,xn,xm⟩,rfl,rfl,e1,e2,hn,hm,a0,cap,hv,hc⟩:=H1.out i hlt;simp only at hn hm hv hc;obtain⟨t,rfl⟩:∃t,xm=.string t:=hm.elim (λh=>absurd h.1 Yo) λh=>h.2;subst hv;have HC:Hid _:=hc;have E1:Hid _:=e1;have E2:Hid _:=e2;have f1:=K.out hB e1;clear hc e1 e2 hm;go_wp2_with fail
     go_loopw [7] (λu wr=>∃k:Nat,k<=xn/\u=.int .i64 k/\Below w.heap.size w wr) (λu _=>xn-(intOf u).toNat)
     case atStart=>exact⟨0,zcg _,rfl,hB⟩
     case round=>
      clear d1 f1;obtain⟨k,hk,rfl,hB⟩:=hrel;have d1:=K.out hB c3.out;have d2:=K.out hB c4.out;have f1:=K.out hB E1.out;have f2:=K.out hB E2.out;by_cases wN:k<xn
      ·obtain⟨b,g,rfl,-,-,-,hcell⟩:=HC.out I;have p0:=K.out hB (hcell k (by simp only[A0];omega));simp only[el]at p0;have hb:=fj (rfl:t=t);clear hcell HC;go_wp2_with fail
       go_quiet (fail)
       go_wp2_with fail
       go_roundw
       case rel=>exact⟨k+1,I,by go_num,Below.pV hB _⟩
       case measure=>simp[intOf];omega
      ·go_wp2_with fail
       go_roundw
       case rel=>exact⟨i+1,I,by go_num,hB⟩
       case measure=>simp[intOf];omega
    ·clear H1 c3 c4;go_wp2_with fail
     clear d1;go_loopw [8] (λu wr=>∃i:Nat,i<=n2/\u=.int .i64 i/\Below w.heap.size w wr) (λu _=>n2-(intOf u).toNat)
     case atStart=>exact⟨0,zcg _,rfl,hB⟩
     case round=>
      obtain⟨i,hi,rfl,hB⟩:=hrel;have d1:=K.out hB c5.out;by_cases hlt:i<n2
      ·obtain⟨g1,g2,⟨xv,xn,xm⟩,rfl,rfl,e1,e2,hn,hm,a0,cap,hv,hc⟩:=H2.out i hlt;simp only at hn hm hv hc;obtain⟨t,rfl⟩:∃t,xm=.string t:=hm.elim (λh=>absurd h.1 Yo) λh=>h.2;subst hv;have HC:Hid _:=hc;have E1:Hid _:=e1;have E2:Hid _:=e2;have f1:=K.out hB e1;clear hc e1 e2 hm;go_wp2_with fail
       go_loopw [9] (λu wr=>∃k:Nat,k<=xn/\u=.int .i64 k/\Below w.heap.size w wr) (λu _=>xn-(intOf u).toNat)
       case atStart=>exact⟨0,zcg _,rfl,hB⟩
       case round=>
        clear d1 f1;obtain⟨k,hk,rfl,hB⟩:=hrel;have d1:=K.out hB c5.out;have d2:=K.out hB c6.out;have f1:=K.out hB E1.out;have f2:=K.out hB E2.out;by_cases wN:k<xn
        ·obtain⟨b,g,rfl,-,-,-,hcell⟩:=HC.out I;have p0:=K.out hB (hcell (k*2) (by simp only[A0];omega));have p1:=K.out hB (hcell (k*2+1) (by simp only[A0];omega));simp only[el]at p0 p1;have hb:=fj (rfl:t=t);clear hcell HC;go_wp2_with fail
         go_quiet (fail)
         go_wp2_with fail
         go_roundw
         case rel=>exact⟨k+1,I,by go_num,Below.pV hB _⟩
         case measure=>simp[intOf];omega
        ·go_wp2_with fail
         go_roundw
         case rel=>exact⟨i+1,I,by go_num,hB⟩
         case measure=>simp[intOf];omega
      ·go_wp2_with fail
       go_ret;exact⟨rfl,hB⟩
end
end
section
def Mc:(prog.info? 127).map (λi=>(i.zero,i.size,i.bytes))=Y (Y (.agg #[.pointer F,.pointer F]),2,16):=Yl
structure vf(τ:Nat->Tag)(w:af)(τ':Nat->Tag)(w':af):Prop where
 os:w'.os=w.os
 tape:w'.tape=w.tape
 output:w'.output=w.output
 size:w.heap.size<=w'.heap.size
 tag:∀k,k<w.heap.size->τ' k=τ k
 block:∀k,k<w.heap.size->(τ k).1=0->w'.heap[k]?=w.heap[k]?
def vf.refl(τ:Nat->Tag)(w:af):vf τ w τ w:=⟨rfl,rfl,rfl,zcc _,λ_ _=>rfl,λ_ _ _=>rfl⟩
def vf.trans{τ τ1 τ2:Nat->Tag}{w w1 w2:af}(h:vf τ w τ1 w1)(k:vf τ1 w1 τ2 w2):vf τ w τ2 w2:=
 ⟨k.os.trans h.os,k.tape.trans h.tape,k.output.trans h.output,Nat.le_trans h.size k.size,
   λi hi=>(k.tag i (Nat.lt_of_lt_of_le hi h.size)).trans (h.tag i hi),
   λi hi hs=>(k.block i (Nat.lt_of_lt_of_le hi h.size) (by rw[h.tag i hi];exact hs)).trans (h.block i hi hs)⟩
def Stp.kp{s:Nat}(h:Stp s τ w τ' w')(hs:s≠0):vf τ w τ' w':=
 ⟨h.os,h.tape,h.output,h.size,h.tag,λk hk ht=>h.block k hk (by rw[ht];exact λe=>hs e.symm)⟩
def vf.dg(h:Below w.heap.size w w')(ht:∀k,k<w.heap.size->τ' k=τ k):vf τ w τ' w':=
 ⟨h.os,h.tape,h.output,h.size,ht,λk hk _=>h.block k hk⟩
def oh(c:Int)(m:MS):Prop:=(m.rs.length:Int)<=c/\jX m
structure LW(w:af)(τ:Nat->Tag)(wb:Nat)(c:Int)(a:LA)(M:List MS):Prop where
 base:cD w τ wb M.length c a
 st:LS w τ a M M
 ok:∀(i:Nat) (m:MS),M[i]?=Y m->oh c m
 ll:∀q,((a.L q).length:Int)<=4*c
 c0:0<=c
def CV{M:List MS}{c':Int}(h:∀(i:Nat) (m:MS),M[i]?=Y m->oh c m)(hc:c<=c')(hm:oh c' m'):∀(i:Nat) (m:MS),(M.set p m')[i]?=Y m->oh c' m:=by
 intro i m hi;rcases cS hi with⟨_,rfl⟩|⟨_,hi⟩
 ·exact hm
 ·have:=h i m hi;exact⟨by have:=this.1;omega,this.2⟩
def jX.set{s:MS}(h:jX s){i:Nat}{m':MW}(hp:∀q,m'.comm q=Z6->cH s.parts m'=Z6):jX {s with ws:=s.ws.set i m'}:=by
 intro j x q hx hq;rcases cS hx with⟨_,rfl⟩|⟨_,hx⟩
 ·exact hp q hq
 ·exact h j x q hx hq
def jX.om{s:MS}(h:jX s){n:Int}{m':MW}(hp:∀q,m'.comm q=Z6->cH s.parts m'=Z6):jX (om s n m'):=h.set hp
def E9{n:Nat}{m:MW}(h:cH n m=Z6):cH n {m with cC:=put m.cC p}=Z6:=by
 unfold cH at h⊢;rw[List.all_eq_true]at h⊢;intro q hq;have:=h q hq;simp only[Bool.or_eq_true,put]at this⊢;rcases this with e|e
 ·exact .inl e
 ·refine .inr ?_;split<;>first|rfl|exact e
def Fa(s:MS)(n p:Int):(bS s n p).2.rs=s.rs:=by
 unfold bS;split
 ·rfl
 ·split
  ·rfl
  ·split<;>rfl
def Ih(s:MS)(n p:Int):(bN s n p).2.rs=s.rs:=by
 unfold bN;split
 ·rfl
 ·split
  ·rfl
  ·split
   ·rfl
   ·split<;>rfl
def Ii(s:MS)(n:Int):(dz s n).2.rs=s.rs:=by
 unfold dz;split
 ·rfl
 ·split<;>rfl
def Me(s:MS)(l:List KV):(dR s l).2.2.rs=s.rs:=by
 unfold dR;split
 ·rfl
 ·split<;>rfl
def TQ(s:MS)(n:Int)(k:ah):(iP s n k).2.rs.length=s.rs.length:=by
 unfold iP;split
 ·rfl
 ·split
  ·split
   ·rfl
   ·simp[XQ]
  ·rfl
def Pz(s:MS)(l:List ah):(fZ s l).2.2.rs.length<=s.rs.length+1:=by
 unfold fZ;split
 ·simp
 ·split<;>simp
def Fb(h:oh c s)(n p:Int):oh c (bS s n p).2:=by
 refine⟨by rw[Fa];exact h.1,?_⟩;unfold bS;split
 ·exact h.2
 ·rename_i m hm;split
  ·exact h.2
  ·split
   ·exact h.2
   ·exact h.2.om λq hq=>E9 (h.2 _ m q (jQ hm).2.2.1 hq)
def Ij(h:oh c s)(n p:Int):oh c (bN s n p).2:=by
 refine⟨by rw[Ih];exact h.1,?_⟩;unfold bN;split
 ·exact h.2
 ·rename_i m hm;split
  ·exact h.2
  ·split
   ·exact h.2
   ·rename_i ha;split
    ·exact h.2
    ·exact h.2.om λq _=>show cH s.parts m=Z6 by simpa using ha
def Ik(h:oh c s)(n:Int):oh c (dz s n).2:=by
 refine⟨by rw[Ii];exact h.1,?_⟩;unfold dz;split
 ·exact h.2
 ·rename_i m hm;split
  ·exact h.2
  ·exact h.2.om λq hq=>h.2 _ m q (jQ hm).2.2.1 hq
def PD(h:oh c s)(n:Int)(k:ah):oh c (iP s n k).2:=by
 refine⟨by rw[TQ];exact h.1,?_⟩;unfold iP;split
 ·exact h.2
 ·split
  ·split
   ·exact h.2
   ·exact h.2
  ·exact h.2
def PE(h:oh c s)(l:List ah):oh (c+1) (fZ s l).2.2:=by
 refine⟨by have:=Pz s l;have:=h.1;omega,?_⟩;unfold fZ;split
 ·exact h.2
 ·split<;>exact h.2
def Mf(h:oh c s)(l:List KV):oh c (dR s l).2.2:=by
 refine⟨by rw[Me];exact h.1,?_⟩;unfold dR;split
 ·exact h.2
 ·split
  ·exact h.2
  ·intro i m q hm hq;rw[bg7]at hm;split at hm
   ·exact h.2 i m q hm hq
   ·have:=List.mem_of_getElem? hm;rw[List.mem_singleton.1 this]at hq;cases hq
def kq(w:af)(τ:Nat->Tag)(wb:Nat)(c:Int)(w':af):Prop:=
 ∃τ' a' M' c',LW w' τ' wb c' a' M'/\c<=c'/\c'<=c+1/\vf τ w τ' w'
section
variable {w:af}{τ:Nat->Tag}{wb n:Nat}{c:Int}{a:LA}{M:List MS}
def LW.new(h:LW w τ wb c a M)(hb:Below w.heap.size w w')(ht:∀k,k<w.heap.size->τ' k=τ k):LW w' τ' wb c a M:=
 ⟨h.base.frame (λk hk _=>⟨hb.block k hk,ht k hk⟩),⟨λi m hm=>by obtain⟨A,hA⟩:=h.st.s i m hm;exact⟨A,hA.frame (λk hk _=>⟨hb.block k hk,ht k hk⟩)⟩,λi m hm=>by obtain⟨A,hA⟩:=h.st.r i m hm;exact⟨A,hA.frame (λk hk _=>⟨hb.block k hk,ht k hk⟩)⟩⟩,h.ok,h.ll,h.c0⟩
def gY(τ:Nat->Tag)(b:Nat):Nat->Tag:=λk=>if k=b then(0,0,0)else τ k
def jv(h:k≠b):gY τ b k=τ k:=by simp[gY,h]
def m8:(gY τ b b).1=0:=by simp[gY]
def pW(a:LA)(n:Nat)(v:aj)(sb rb:Nat):LA:={a with v:=mK a.v 0 v,sB:=λi=>if i=n then sb else a.sB i,rB:=λi=>if i=n then rb else a.rB i}
def xF(a:LA)(n:Nat)(v:aj)(sb rb:Nat):storeCells (pW a n v sb rb) (n+1)=storeCells a n++ [ptr sb,ptr rb]:=by
 unfold storeCells;rw[List.range_succ,List.flatMap_append];congr 1
 ·simp only[List.flatMap_def];congr 1;refine List.map_congr_left (λj hj=>?_);have:j≠n:=by have:=List.mem_range.1 hj;omega
  simp[pW,this]
 ·simp[pW]
def Il(h:LW w τ wb c a M)(h8:M.length<8){rb:Nat}{m:MS}(hrs:oh c m){B:RA}(hs:bB w τ (2+2*M.length) sb m A)(hr:bh w τ (3+2*M.length) rb m B)
 {o1:Obj} {v2:aj} {w2:af} (jm:(w.alloc o1).grownBy w2 (a.v 0).ownBlock) (hA2:v2.ownBlock=(a.v 0).ownBlock\/v2.ownBlock=Y (w.alloc o1).heap.size)
 (kA:w2.ownsRow 0 127 2 v2 (M.length+1) (storeCells a M.length++ [ptr sb,ptr rb])):
 LW (w2.setCell ⟨wb,0,F⟩ v2) (vA τ 0 v2) wb c (pW a M.length v2 sb rb) (M++ [m])/\Stp 1 τ w (vA τ 0 v2) (w2.setCell ⟨wb,0,F⟩ v2):=by
 obtain⟨r1,hS,k1⟩:=h.base.raw.push (i:=0) I jm hA2 kA;have hlen:(M++ [m]).length=M.length+1:=XI
 have iL:∀i x,(M++ [m])[i]?=Y x->(i=M.length/\x=m)\/(i≠M.length/\M[i]?=Y x):=by
  intro i x hx;rw[bg7]at hx;split at hx
  ·exact Or.inr ⟨I,hx⟩
  ·by_cases e:i=M.length
   ·subst e;simp at hx;exact Or.inl ⟨rfl,hx.symm⟩
   ·rw[List.getElem?_eq_none Yn]at hx;cases hx
 have hL:=h.st.TL hS;refine⟨⟨⟨r1.as λi hi=>?_,λq hq x hx=>(h.base.ls q hq x hx).frame (zcc _) λb g hb ht _=>⟨by have:=hS.size;omega,hS.tag b hb,λj _=>zce (k1 b g hb ht)⟩,I⟩,⟨λi x hx=>?_,λi x hx=>?_⟩,λi x hx=>?_,h.ll,h.c0⟩,hS⟩
 ·cases i with
  |zero=>exact⟨by simp[rN,mK],by show storeCells _ _=_;rw[hlen,xF];rfl⟩
  |succ i=>exact⟨rfl,rfl⟩
 ·rcases iL i x hx with⟨rfl,rfl⟩|⟨e,hx'⟩
  ·simp only[pW,if_true];exact⟨A,hs.frame (λk hk ht=>⟨hS.block k hk (by rw[ht];omega),hS.tag k hk⟩)⟩
  ·simp only[pW,e,if_false];exact hL.s i x hx'
 ·rcases iL i x hx with⟨rfl,rfl⟩|⟨e,hx'⟩
  ·simp only[pW,if_true];exact⟨B,hr.frame (λk hk ht=>⟨hS.block k hk (by rw[ht];omega),hS.tag k hk⟩)⟩
  ·simp only[pW,e,if_false];exact hL.r i x hx'
 ·rcases iL i x hx with⟨rfl,rfl⟩|⟨e,hx'⟩
  ·exact hrs
  ·exact h.ok i x hx'
def PF(parts mode:Int)(w:af)(h:dM parts mode≠0):
 Calls prog 34 #[.int .i64 parts,.int .i64 mode] w λe w'=>e=.returned (.tuple #[.pointer F,.int .i64 (dM parts mode)])/\w'=w:=by
 by_cases hp:parts<1\/4<parts
 ·have:dM parts mode=1:=by unfold dM;rw[if_pos hp]
  rw[this];exact PG parts mode w hp
 ·have hm:mode<1\/3<mode:=by
   unfold dM at h;rw[if_neg hp]at h;by_cases e:mode<1\/3<mode
   ·exact e
   ·rw[if_neg e]at h;exact absurd rfl h
  have:dM parts mode=2:=by unfold dM;rw[if_neg hp,if_pos hm]
  rw[this];exact Mg parts mode w I I (by simp[m9];omega)
end
end
section
section
variable {w:af}{τ:Nat->Tag}{wb n:Nat}{c:Int}{a:LA}{M:List MS}
def dS(kd on A B:Int)(s:ah)(it ks:aj):aj:=.agg #[.int .i64 kd,.int .i64 on,.int .i64 A,.int .i64 B,.string s,it,ks]
def a9(kd on A B:Int)(s:ah)(it ks:aj):Obj:=.cells #[.int .i64 kd,.int .i64 on,.int .i64 A,.int .i64 B,.string s,it,ks] 86
def jf(h:LW w τ wb c a M)(o:Obj):LW (w.alloc o) (gY τ w.heap.size) wb c a M/\vf τ w (gY τ w.heap.size) (w.alloc o):=by have hb:Below w.heap.size w (w.alloc o):=(Below.refl _ _).alloc (zcc _) o;have ht:∀k,k<w.heap.size->gY τ w.heap.size k=τ k:=λk hk=>jv I;exact⟨h.new hb ht,vf.dg hb ht⟩
def Im(h:LW w τ wb c a M)(kd on A B:Int)(s:ah)(it ks:aj)(hq:dM A B≠0):
 Calls prog 56 #[ptr wb,dS kd on A B s it ks] w λe w'=>e=.returned (.bool Z6)/\kq w τ wb c w':=by
 obtain⟨h1,k1⟩:=jf h (a9 kd on A B s it ks);have c1:=PF A B (w.alloc (a9 kd on A B s it ks)) hq;have c2:=PI A B (w.alloc (a9 kd on A B s it ks)) hq;generalize dM A B=q at *;unfold ptr dS;unfold a9 at *;go_enter func56,ntmps56;go_wp2_with first
  |(go_at_call 34;refine c1.mono ?_;rintro e w' ⟨rfl,rfl⟩)
  |(go_at_call 93;refine c2.mono ?_;rintro e w' ⟨rfl,rfl⟩)
 go_ret;exact⟨rfl,_,a,M,c,h1,I,I,k1⟩
def Mh(τ:Nat->Tag)(b aJ:Nat):Nat->Tag:=λk=>if k=b then(aJ,0,0)else τ k
def Fc(h:LW w τ wb c a M){A B:Int}(hq:dM A B=0)(hS:bB w2 τ2 (2+2*M.length) sb {parts:=A.toNat,mode:=B,ws:= [],rs:= []} As)(hB:Below w.heap.size w w2)(ht:∀k,k<w.heap.size->τ2 k=τ k):
 LW (w2.alloc (lE A B)) (Mh τ2 w2.heap.size (3+2*M.length)) wb c a M/\bB (w2.alloc (lE A B)) (Mh τ2 w2.heap.size (3+2*M.length)) (2+2*M.length) sb (dH A B) As/\bh (w2.alloc (lE A B)) (Mh τ2 w2.heap.size (3+2*M.length)) (3+2*M.length) w2.heap.size (dH A B) yj/\vf τ w (Mh τ2 w2.heap.size (3+2*M.length)) (w2.alloc (lE A B)):=by
 have hs:=hB.size;have ht3:∀k,k<w2.heap.size->Mh τ2 w2.heap.size (3+2*M.length) k=τ2 k:=λk hk=>by unfold Mh;rw[if_neg I]
 have lV:Below w.heap.size w (w2.alloc (lE A B)):=hB.alloc I _;refine⟨h.new lV (λk hk=>(ht3 k I).trans (ht k hk)),hS.frame (λk hk _=>⟨zcb _ _ _ hk,ht3 k hk⟩),bh.made hq w2 τ2 _,vf.dg lV (λk hk=>(ht3 k I).trans (ht k hk))⟩
def Fe(h:LW w τ wb c a M)(kd on A B:Int)(s:ah)(it ks:aj)(hq:dM A B=0):
 Calls prog 56 #[ptr wb,dS kd on A B s it ks] w λe w'=>e=.returned (.bool Z6)/\kq w τ wb c w':=by
 obtain⟨h1,k1⟩:=jf h (a9 kd on A B s it ks);obtain⟨g1,g2,g3,g4⟩:=vC hq;obtain⟨si,hsi,hi0,hi1,hi2⟩:=aj4 Mc;have c1:=Mi A B (w.alloc (a9 kd on A B s it ks)) (gY τ w.heap.size) (2+2*M.length) g1 g2 (by simp[m9];omega);have tK:aT (w.alloc (a9 kd on A B s it ks)) w.heap.size #[.int .i64 kd,.int .i64 on,.int .i64 A,.int .i64 B,.string s,it,ks] 86:=aT.new _ _ _;have hn8:=h.base.n8;unfold ptr dS;unfold a9 at *;go_enter func56,ntmps56;by_cases h8:M.length<8
 ·go_wp2_with first
   |(go_at_call 34;refine c1.mono ?_;rintro e w2 ⟨τ2,sb,As,rfl,gN,eH,ZF,hsb⟩;unfold ptr;have fG:=tK.of_eq (eH.block _ XI);have e2:=fG.cell (o:=2) rfl;have e3:=fG.cell (o:=3) rfl;have c2:=BO A B w2 hq;unfold ptr at c2)
   |(go_at_call 93;refine c2.mono ?_;rintro e w3 ⟨rfl,nU⟩;obtain⟨h3,s3,r3,k3⟩:=Fc h1 hq gN eH ZF;rw[<-nU]at h3 s3 r3 k3;clear nU;have hst:w3.ownsRow 0 127 2 (a.v 0) M.length (storeCells a M.length):=h3.base.raw.row 0 I;obtain⟨av,SS,rD⟩:=bI hst;have e0:=h3.base.raw.blk.cell (o:=0) (v:=a.v 0) rfl;have f0:=h3.base.raw.blk.frozen 0;rw[rD]at e0)
   |(at_builtin;(refine wpList_append_own_at _ rfl (.tmp 49) (.tmp 53) 79 rfl 0 127 si _ 2 16 underlying79 hsi hi0 hi1 hi2 rfl Yo (.slice av M.length SS) M.length (storeCells a M.length) rfl (World.ownsRow.alloc (rD▸hst) _) ⟨_,0,F⟩ 1 1 [.pointer (Y ⟨sb,0,F⟩),.pointer (Y ⟨w2.heap.size,0,F⟩)] rfl rfl (cell_two_new _ _ _ _) (by simp[Value.oneCell']) (by unfold maxLen;omega) I (zcg _) ?_;intro v5 w5 hO5 TR hN5 hA5;rw[<-rD]at TR hA5;have hb5:=h3.base.raw.after (i:=0) I TR;have d0:=hb5.cell (o:=0) (v:=a.v 0) rfl;rw[rD]at d0;have j0:=hb5.frozen 0;obtain⟨q5,akM,hv5,-⟩:=aZ hO5 I;rw[hv5]))
  go_ret;obtain⟨h6,k6⟩:=Il h3 h8 ⟨by simpa[dH]using h3.c0,λi m q hm=>by simp[dH]at hm⟩ s3 r3 TR hA5 hO5;rw[<-hv5];exact⟨rfl,_,_,_,c,h6,I,I,k1.trans (k3.trans (k6.kp I))⟩
 ·go_wp2_with first
   |(go_at_call 34;refine c1.mono ?_;rintro e w2 ⟨τ2,sb,As,rfl,gN,eH,ZF,hsb⟩;unfold ptr;have fG:=tK.of_eq (eH.block _ XI);have e2:=fG.cell (o:=2) rfl;have e3:=fG.cell (o:=3) rfl;have c2:=BO A B w2 hq;unfold ptr at c2)
   |(go_at_call 93;refine c2.mono ?_;rintro e w3 ⟨rfl,nU⟩;obtain⟨h3,s3,r3,k3⟩:=Fc h1 hq gN eH ZF;rw[<-nU]at h3 s3 r3 k3;clear nU;have hst:w3.ownsRow 0 127 2 (a.v 0) M.length (storeCells a M.length):=h3.base.raw.row 0 I;obtain⟨av,SS,rD⟩:=bI hst;have e0:=h3.base.raw.blk.cell (o:=0) (v:=a.v 0) rfl;have f0:=h3.base.raw.blk.frozen 0;rw[rD]at e0)
  go_ret;exact⟨rfl,_,a,M,c,h3,I,I,k1.trans k3⟩
def Io(h:LW w τ wb c a M)(kd on A B:Int)(s:ah)(it ks:aj):
 Calls prog 56 #[ptr wb,dS kd on A B s it ks] w λe w'=>e=.returned (.bool Z6)/\kq w τ wb c w':=by
 by_cases hq:dM A B=0
 ·exact Fe h kd on A B s it ks hq
 ·exact Im h kd on A B s it ks hq
end
end
def pX{P:aB}(w:af)(dT sT ty elem:az)(size g dLen dCap:Nat)(sp:Option aA)(sLen sCap:Nat)(cur:Array aj)(t:az)(cs:List aj)
 (hu:P.underlying dT=Y (.slice elem)) (hs:(P.info? elem).map (·.size)=Y size)
 (hg:w.heap[g]?=Y (.cells cur t (0,0))) (hn:cs.length=Nat.min sLen dLen*size)
 (hpos:0<cs.length->∃ad,sp=Y ad/\∀j v,cs[j]?=Y v->w.cell? (ad.add j)=Y v) (hfit:cs.length<=cur.size) (h1:∀v∈cs,v.oneCell'=Z6):
 (Builtin.copy_ #[dT,sT] ty #[.slice (Y ⟨g,0,F⟩) dLen dCap,.slice sp sLen sCap]).run P w=
   .ok (goInt (Nat.min sLen dLen)) (w.setRow g (cs++cur.toList.drop cs.length).toArray):=by
 have hst:=run_storeCells_at P g 0 t cs 0 cur w hg (by simpa using hfit) h1
 simp only[Nat.add_zero,am9,List.take_zero,List.nil_append]at hst
 cases hq:P.info? elem with
 |none=>simp[hq]at hs
 |some i=>
  have hi:i.size=size:=by simpa[hq]using hs
  cases sp with
  |some ad=>
   have hsrc:∀j v,cs[j]?=Y v->w.cell? (ad.add j)=Y v:=by intro j v hj;obtain⟨ad',e,r⟩:=hpos (by have:=(List.getElem?_eq_some_iff.1 hj).1;omega);cases e;exact r j v hj
   have hl:=run_loadCells_list (P:=P) w ad cs hsrc
   simp[Builtin.copy_,run_underlying hu,Builtin.lenOf,Builtin.firstCells,sizeOf,typeInfo,hq,hi,<-hn,hl,hst]
  |none=>
   have h0:cs= []:=by
    apply List.eq_nil_of_length_eq_zero;by_cases e:cs.length=0
    ·exact e
    ·obtain⟨ad',e,r⟩:=hpos I;cases e
   subst h0
   simp only[List.length_nil,List.drop_zero,List.nil_append]at hst⊢
   simp[Builtin.copy_,run_underlying hu,Builtin.lenOf,Builtin.firstCells,sizeOf,typeInfo,hq,hst]
def BP:(prog.info? 70).map (λi=>(i.zero,i.size,i.bytes))=Y (Y (.agg #[.string ByteArray.empty,.string ByteArray.empty]),2,32):=Yl
def PK:(prog.info? 70).map (·.size)=Y 2:=by obtain⟨i,hi,_,h2,_⟩:=aj4 BP;rw[hi];simp[h2]
def Ip(n:Nat)(hn:n<=4398046511104)(W:af):∃M:Array aj,M.size=(n+5)*2/\(Instr.makeSlice 68 (.int .i64 ((n:Int)+5)) (.int .i64 ((n:Int)+5))).run prog W=.ok (.slice (Y ⟨W.heap.size,0,F⟩) (n+5) (n+5)) (W.alloc (.cells M 70)):=by
 obtain⟨i,hi,hz0,Ff,Iq⟩:=aj4 BP;have h:=run_make (P:=prog) W 68 70 i _ underlying68 hi hz0 .i64 .i64 ((n:Int)+5) ((n:Int)+5) I I (by rw[Iq];omega) I;have e:((n:Int)+5).toNat=n+5:=I
 rw[e,Ff]at h;exact⟨_,size_madeCells _ _,h⟩
structure ug(arr:Array aj)(L:List KV)(k5:Nat):Prop where
 size:arr.size=(L.length+5)*2
 head:∀(k:Nat) (x:KV),L[k]?=Y x->arr[k*2]?=Y (.string x.1)/\arr[k*2+1]?=Y (.string x.2)
 tail:∀j,j<k5->arr[(L.length+j)*2]?=Y (.string ⟨#[98,101,104,105,110,100]⟩)/\arr[(L.length+j)*2+1]?=Y (.string ⟨#[105,116]⟩)
def iA(L:List KV):(bl L).length=L.length*2:=by
 induction L with
 |nil=>rfl
 |cons x r ih=>simp[bl]at ih⊢;omega
def wO{L:List KV}{x:KV}(h:L[k]?=Y x):(bl L)[k*2]?=Y (.string x.1)/\(bl L)[k*2+1]?=Y (.string x.2):=by
 induction L generalizing k with
 |nil=>simp at h
 |cons y r ih=>
  cases k with
  |zero=>simp at h;subst h;simp[bl]
  |succ k=>
   have:=ih (k:=k) (by simpa using h);rw[show (k+1)*2=k*2+2 by omega];simpa[bl]using this
def rL{L:List KV}{v:aj}(h:(bl L)[j]?=Y v):∃k x,L[k]?=Y x/\((j=k*2/\v=.string x.1)\/(j=k*2+1/\v=.string x.2)):=by
 have hl:=(List.getElem?_eq_some_iff.1 h).1;rw[iA]at hl;have hx:L[j / 2]?=Y L[j / 2]:=zcd I;obtain⟨c1,c2⟩:=wO hx;refine⟨j / 2,_,hx,?_⟩;by_cases e:j % 2=0
 ·left;have ej:j=j / 2*2:=I
  rw[<-ej,h]at c1;exact⟨ej,by simpa using c1⟩
 ·right;have ej:j=j / 2*2+1:=I
  rw[<-ej,h]at c2;exact⟨ej,by simpa using c2⟩
def ug.start(L:List KV)(cur:Array aj)(hc:cur.size=(L.length+5)*2):ug (bl L++cur.toList.drop (bl L).length).toArray L 0:=by
 refine⟨?_,λk x hx=>?_,λj hj=>I⟩
 ·simp[iA,hc];omega
 ·have hl:=(List.getElem?_eq_some_iff.1 hx).1;obtain⟨c1,c2⟩:=wO hx;constructor
  ·rw[az1,ag1 (by rw[iA];omega)];exact c1
  ·rw[az1,ag1 (by rw[iA];omega)];exact c2
def ug.next{L:List KV}(h:ug arr L k)(hk:k<5):ug ((arr.setIfInBounds ((L.length+k)*2) (.string ⟨#[98,101,104,105,110,100]⟩)).setIfInBounds ((L.length+k)*2+1) (.string ⟨#[105,116]⟩)) L (k+1):=by
 have hs:=h.size;refine⟨by simp[hs],λj x hx=>?_,λj hj=>?_⟩
 ·have hl:=(List.getElem?_eq_some_iff.1 hx).1;obtain⟨c1,c2⟩:=h.head j x hx;constructor
  ·rw[zcf I,zcf I];exact c1
  ·rw[zcf I,zcf I];exact c2
 ·by_cases e:j=k
  ·subst e;constructor
   ·rw[zcf I,ad8 I]
   ·rw[ad8 Yn]
  ·obtain⟨c1,c2⟩:=h.tail j I;constructor
   ·rw[zcf I,zcf I];exact c1
   ·rw[zcf I,zcf I];exact c2
def ug.items{L:List KV}(h:ug arr L k)(hb:aT w b arr 70):fO w (Y ⟨b,0,F⟩) L:=λj x hx=>
 ⟨b,0,rfl,by rw[am9];exact hb.cell (h.head j x hx).1,by rw[am9];exact hb.cell (h.head j x hx).2⟩
def fO.keep{L:List KV}(h:fO w a L)(hk:∀ib io,a=Y ⟨ib,io,F⟩/\L≠ []->w'.heap[ib]?=w.heap[ib]?):fO w' a L:=by intro k x hx;obtain⟨ib,io,e,c1,c2⟩:=h k x hx;have e':=And.intro e (show L≠ []from λh0=>by subst h0;simp at hx);exact⟨ib,io,e,(zce (hk ib io e')).trans c1,(zce (hk ib io e')).trans c2⟩
def LS.congr{a a':LA}{S R:List MS}(h:LS w τ a S R)(h1:a'.sB=a.sB)(h2:a'.rB=a.rB):LS w τ a' S R:=
 ⟨λi m hm=>by rw[h1];exact h.s i m hm,λi m hm=>by rw[h2];exact h.r i m hm⟩
section
section
variable {w:af}{τ:Nat->Tag}{wb:Nat}{c:Int}{a:LA}{M:List MS}{i:Nat}{m:MS}
def yl(τ:Nat->Tag)(b J:Nat):Nat->Tag:=λk=>if k=b then(0,0,0)else if k=b+1 then(0,0,0)else if k=b+2 then(1,8,J)else τ k
def XR(L:List KV):∀v∈bl L,v.oneCell'=Z6:=by intro v hv;obtain⟨j,hj⟩:=List.getElem?_of_mem hv;obtain⟨k,x,_,h⟩:=rL hj;rcases h with⟨_,rfl⟩|⟨_,rfl⟩ <;>rfl
def add_plain(b o j:Nat):(⟨b,o,F⟩:aA).add j=⟨b,o+j,F⟩:=by unfold Addr.add;split<;>simp_all
def Mj{L:List KV}(h:fO w ia L)(hk:∀ib io,ia=Y ⟨ib,io,F⟩/\L≠ []->w'.heap[ib]?=w.heap[ib]?)(hp:0< (bl L).length):∃ad,ia=Y ad/\∀j v,(bl L)[j]?=Y v->w'.cell? (ad.add j)=Y v:=by
 have h':=h.keep hk;rw[iA]at hp;obtain⟨ib,io,rfl,_,_⟩:=h' 0 L[0] (zcd I);refine⟨_,rfl,λj v hj=>?_⟩;obtain⟨k,x,hx,hh⟩:=rL hj;obtain⟨TS,TT,e,c1,c2⟩:=h' k x hx;cases e;rcases hh with⟨rfl,rfl⟩|⟨rfl,rfl⟩
 ·rw[add_plain];exact c1
 ·rw[add_plain,<-Nat.add_assoc];exact c2
def Ir(h:LW w τ wb c a M)(hm:M[i]?=Y m)(kd on A B:Int)(s:ah)(ia:Option aA)(L:List KV)(cap:Nat)(ks:aj)(hL:L.length<=4398046511099)(hz:kS L)(hI:fO w ia L)(hf:∀ib io,ia=Y ⟨ib,io,F⟩/\L≠ []->ib<w.heap.size/\(τ ib).1=0)(h1:c<=1466015503690):
 Calls prog 59 #[ptr wb,.agg #[ptr (a.sB i),ptr (a.rB i)],dS kd on A B s (.slice ia L.length cap) ks] w λe w'=>e=.returned (.bool Z6)/\kq w τ wb c w':=by
 obtain⟨Mk,hMs,hMk⟩:=Ip L.length I ((w.alloc (.cells #[ptr (a.sB i),ptr (a.rB i)] 127)).alloc (a9 kd on A B s (.slice ia L.length cap) ks));have qQ:Below w.heap.size w (((w.alloc (.cells #[ptr (a.sB i),ptr (a.rB i)] 127)).alloc (a9 kd on A B s (.slice ia L.length cap) ks)).alloc (.cells Mk 70)):=(((Below.refl _ _).alloc (zcc _) _).alloc XI _).alloc Yn _;have vg:aT (((w.alloc (.cells #[ptr (a.sB i),ptr (a.rB i)] 127)).alloc (a9 kd on A B s (.slice ia L.length cap) ks)).alloc (.cells Mk 70)) w.heap.size #[ptr (a.sB i),ptr (a.rB i)] 127:=
  ((aT.new w _ _).of_eq (zcb _ _ _ XI)).of_eq (zcb _ _ _ Yn)
 have Ml:aT (((w.alloc (.cells #[ptr (a.sB i),ptr (a.rB i)] 127)).alloc (a9 kd on A B s (.slice ia L.length cap) ks)).alloc (.cells Mk 70)) (w.heap.size+1) #[.int .i64 kd,.int .i64 on,.int .i64 A,.int .i64 B,.string s,.slice ia L.length cap,ks] 86:=by have:=aT.new (w.alloc (.cells #[ptr (a.sB i),ptr (a.rB i)] 127)) #[.int .i64 kd,.int .i64 on,.int .i64 A,.int .i64 B,.string s,.slice ia L.length cap,ks] 86;rw[show (w.alloc (.cells #[ptr (a.sB i),ptr (a.rB i)] 127)).heap.size=w.heap.size+1 by simp]at this;exact this.of_eq (zcb _ _ _ XI)
 have Mm:aT (((w.alloc (.cells #[ptr (a.sB i),ptr (a.rB i)] 127)).alloc (a9 kd on A B s (.slice ia L.length cap) ks)).alloc (.cells Mk 70)) (w.heap.size+1+1) Mk 70:=by have:=aT.new ((w.alloc (.cells #[ptr (a.sB i),ptr (a.rB i)] 127)).alloc (a9 kd on A B s (.slice ia L.length cap) ks)) Mk 70;rwa [show ((w.alloc (.cells #[ptr (a.sB i),ptr (a.rB i)] 127)).alloc (a9 kd on A B s (.slice ia L.length cap) ks)).heap.size=w.heap.size+1+1 by simp]at this
 have hsrc:=Mj hI (λib io e=>qQ.block ib (hf ib io e).1);unfold dS ptr;unfold a9 ptr at *;go_enter func59,ntmps59;go_upto_region 3 with(fail)
 clear hMk;have PL:(((w.alloc (.cells #[.pointer (Y ⟨a.sB i,0,F⟩),.pointer (Y ⟨a.rB i,0,F⟩)] 127)).alloc (.cells #[.int .i64 kd,.int .i64 on,.int .i64 A,.int .i64 B,.string s,.slice ia L.length cap,ks] 86)).alloc (.cells Mk 70)).heap.size=w.heap.size+1+1+1:=XI
 generalize ((w.alloc (.cells #[.pointer (Y ⟨a.sB i,0,F⟩),.pointer (Y ⟨a.rB i,0,F⟩)] 127)).alloc (.cells #[.int .i64 kd,.int .i64 on,.int .i64 A,.int .i64 B,.string s,.slice ia L.length cap,ks] 86)).alloc (.cells Mk 70)=wm at *;have o5:wm.cell? ⟨w.heap.size+1,5,F⟩=Y (.slice ia L.length cap):=Ml.cell (o:=5) rfl;obtain⟨w4,SU,KF,sI⟩:∃w4,(Builtin.copy_ #[68,68] 3 #[.slice (Y ⟨w.heap.size+1+1,0,F⟩) (L.length+5) (L.length+5),.slice ia L.length cap]).run prog wm=.ok (goInt L.length) w4/\aT w4 (w.heap.size+1+1) (bl L++Mk.toList.drop (bl L).length).toArray 70/\Below (w.heap.size+1+1) wm w4:=by have hmin:Nat.min L.length (L.length+5)=L.length:=Nat.min_eq_left I;have e:=pX (P:=prog) wm 68 68 3 70 2 (w.heap.size+1+1) (L.length+5) (L.length+5) ia L.length cap Mk 70 (bl L) underlying68 PK Mm (by rw[iA,hmin]) hsrc (by rw[iA];omega) (XR L);rw[hmin]at e;exact⟨_,e,setRow_heap wm _ _ _ _ _ Mm,rfl,rfl,rfl,by simp[World.setRow],λk hk=>setRow_other wm _ k _ I⟩
 have wH:=ug.start L Mk hMs;generalize (bl L++Mk.toList.drop (bl L).length).toArray=XS at *;have afY:wm.heap.size=w.heap.size+1+1+1:=PL;clear hsrc Mm hMs;go_wp2_with fail
 clear SU;have hn5:L.length+5<=4398046511104:=I
 go_loopw [9] (λu wr=>∃(k:Nat) (arr:Array aj),k<=5/\u=.int .i64 ((L.length:Int)+k)/\aT wr (w.heap.size+1+1) arr 70/\ug arr L k/\Below (w.heap.size+1+1) wm wr) (λu _=>L.length+5-(intOf u).toNat)
 case atStart=>exact⟨0,XS,I,XI,KF,wH,sI⟩
 case round=>
  obtain⟨k,arr,hk,rfl,hb,hA,hB⟩:=hrel;by_cases hlt:k<5
  ·have hs:=hA.size;obtain⟨v0,hv0⟩:∃v,arr[(L.length+k)*2]?=Y v:=⟨_,ad7 I⟩
   obtain⟨v1,xE⟩:∃v,arr[(L.length+k)*2+1]?=Y v:=⟨_,ad7 I⟩
   have d0:=hb.cell hv0;have d1:=hb.cell xE;have f0:=hb.frozen ((L.length+k)*2);have f1:=hb.frozen ((L.length+k)*2+1);have Fg:=hA.next hlt
   clear hv0 xE hA;go_wp2_with fail
   go_roundw
   case rel=>exact⟨k+1,_,I,by go_num,(hb.set ((L.length+k)*2) _).set ((L.length+k)*2+1) _,Fg,(hB.setCell (p:=⟨w.heap.size+1+1,(L.length+k)*2,F⟩) (zcc _) _).setCell (p:=⟨w.heap.size+1+1,(L.length+k)*2+1,F⟩) (zcc _) _⟩
   case measure=>simp[intOf];omega
  ·have XT:k=5:=I
   subst XT;have ym:Below w.heap.size w wr:=qQ.trans (hB.mono I);have hwt:∀k,k<w.heap.size->yl τ w.heap.size a.N k=τ k:=λk hk=>by unfold yl;rw[if_neg I,if_neg I,if_neg I]
   have h5:LW wr (yl τ w.heap.size a.N) wb c a M:=h.new ym hwt;have k5:vf τ w (yl τ w.heap.size a.N) wr:=vf.dg ym hwt;have t0:yl τ w.heap.size a.N w.heap.size=(0,0,0):=by unfold yl;rw[if_pos rfl]
   have t1:yl τ w.heap.size a.N (w.heap.size+1)=(0,0,0):=by unfold yl;rw[if_neg I,if_pos rfl]
   have t2:yl τ w.heap.size a.N (w.heap.size+1+1)=(1,8,a.N):=by unfold yl;rw[if_neg I,if_neg I,if_pos rfl]
   have hI5:fO wr ia L:=hI.keep (λib io e=>ym.block ib (hf ib io e).1);have Mo:∀ib io,ia=Y ⟨ib,io,F⟩/\L≠ []->ib<wr.heap.size/\(yl τ w.heap.size a.N ib).1=0:=λib io e=>⟨by have:=(hf ib io e).1;have:=ym.size;omega,by rw[hwt ib (hf ib io e).1];exact(hf ib io e).2⟩
   have yX:=vg.of_eq (hB.block w.heap.size I);have Iu:=Ml.of_eq (hB.block (w.heap.size+1) I);obtain⟨As,hS⟩:=h5.st.s i m hm;generalize yl τ w.heap.size a.N=τ1 at *;have cw:=XU (w:=wr.drew) (L:=L) (hS.frame (λ_ _ _=>⟨rfl,rfl⟩)) (Y ⟨w.heap.size+1+1,0,F⟩) (L.length+5) (by unfold maxLen;omega) I (by unfold maxLen;omega) hz (hA.items hb) (λib io e=>by cases e;rw[t2];omega);have x0:wr.cell? ⟨w.heap.size,0,F⟩=Y (.pointer (Y ⟨a.sB i,0,F⟩)):=yX.cell (o:=0) rfl;clear hI hf qQ sI vg Ml KF wH o5 hB;unfold ptr at cw;have cr:=fun(τ2:Nat->Tag) (w6:af) (A2:RA) (hR:bh w6 τ2 (3+2*i) (a.rB i) m A2) (PM:fO w6 ia L)=>XV hR ia L cap (by unfold maxLen;omega) hz PM;unfold ptr pY at cr;unfold CW at cw;have hrs:=Mf (h.ok i m hm) L;generalize dR m L=r at *;obtain⟨r1,r2,m'⟩:=r;simp only at cw cr hrs;have hc0:=h.c0;have hrw:=h.ok;have Py:=h.ll;have q1:(0:Int)<=(L.length:Int):=I
   have q2:(L.length:Int)<=((L.length+5:Nat):Int):=I
   have q3:(L.length:Int)<=(L.length:Int)+5:=I
   have q4:L.length<=L.length+5:=I
   have q5:(0:Int)<=(L.length:Int)+5:=I
   go_wp2_with fail
   go_region_held3 (λW=>W.cell? ⟨w.heap.size,0,F⟩=Y (.pointer (Y ⟨a.sB i,0,F⟩))) (simp[*]) ((go_at_call 26;refine cw.mono ?_;rintro e w6 ⟨τ2,A2,rfl,hS6,Fh⟩;have x6:=(zce (a:=⟨w.heap.size,0,F⟩) (Fh.block w.heap.size yX.lt (by rw[t0];omega))).trans x0))
   have jR:Stp (2+2*i) τ1 wr τ2 w6:=⟨Fh.os,Fh.tape,Fh.output,Fh.size,Fh.tag,Fh.block⟩
   have h6b:cD w6 τ2 wb M.length c a:=h5.base.pS jR I;have XW:LS w6 τ2 a (M.set i m') M:=h5.st.KI jR hS6;have k6:=k5.trans (jR.kp I);have PN:=jR.blk yX (by rw[t0];simp;omega);have Iv:=jR.blk Iu (by rw[t1];simp;omega);have XX:=jR.blk hb (by rw[t2];simp;omega);have PM:fO w6 ia L:=hI5.keep (λib io e=>jR.block ib (Mo ib io e).1 (by rw[(Mo ib io e).2];omega));have XY:∀ib io,ia=Y ⟨ib,io,F⟩/\L≠ []->ib<w6.heap.size/\(τ2 ib).1=0:=λib io e=>⟨by have:=(Mo ib io e).1;have:=jR.size;omega,by rw[jR.tag ib (Mo ib io e).1];exact(Mo ib io e).2⟩
   have u0:τ2 w.heap.size=(0,0,0):=(jR.tag _ yX.lt).trans t0;have u1:τ2 (w.heap.size+1)=(0,0,0):=(jR.tag _ Iu.lt).trans t1;have u2:τ2 (w.heap.size+1+1)=(1,8,a.N):=(jR.tag _ hb.lt).trans t2;obtain⟨Bs,hR⟩:=XW.r i m hm;have cr6:=cr τ2 w6 Bs hR PM;have y1:w6.cell? ⟨w.heap.size,1,F⟩=Y (.pointer (Y ⟨a.rB i,0,F⟩)):=PN.cell (o:=1) rfl;have y5:w6.cell? ⟨w.heap.size+1,5,F⟩=Y (.slice ia L.length cap):=Iv.cell (o:=5) rfl;clear cw cr hI5 Mo yX Iu hb h5 k5 t0 t1 t2 Fh jR hS6 hS x0 ym hwt;go_wp2_with fail
   refine cr6.mono ?_;rintro e w7 ⟨τ3,B3,rfl,hR7,Fi⟩;clear cr6;have h7b:cD w7 τ3 wb M.length c a:=h6b.pS Fi I;have h7s:LS w7 τ3 a (M.set i m') (M.set i m'):=XW.KJ Fi hR7;have k7:=k6.trans (Fi.kp I);have XZ:=Fi.blk Iv (by rw[u1];simp;omega);have TU:=Fi.blk XX (by rw[u2];simp;omega);have TV:fO w7 ia L:=PM.keep (λib io e=>Fi.block ib (XY ib io e).1 (by rw[(XY ib io e).2];omega));have v2:τ3 (w.heap.size+1+1)=(1,8,a.N):=(Fi.tag _ XX.lt).trans u2;have z5:w7.cell? ⟨w.heap.size+1,5,F⟩=Y (.slice ia L.length cap):=XZ.cell (o:=5) rfl;clear PM XY PN Iv XX h6b XW k6 u0 u1 u2 Fi hR7 hR y1 y5;go_wp2_with fail
   go_loopw [14,15] (λu14 PO wr=>∃(k nq:Nat),k<=L.length+5/\u14=.bool Z6/\PO=.int .i64 k/\wr=w7.drewN nq) (λ_ PO _=>L.length+5-(intOf PO).toNat)
   case atStart=>exact⟨0,0,zcg _,rfl,rfl,rfl⟩
   case round=>
    obtain⟨k,nq,hk,rfl,rfl,rfl⟩:=hrel;by_cases hlt:k<L.length+5
    ·by_cases hkn:k<L.length
     ·have hx:L[k]?=Y L[k]:=zcd hkn;obtain⟨ib,io,rfl,e1,e2⟩:=TV k _ hx;obtain⟨d1,d2⟩:=hA.head k _ hx;have d1:=TU.cell d1;have d2:=TU.cell d2;generalize L[k]=x at *;obtain⟨xk,xv⟩:=x;simp only at d1 d2 e1 e2;have s1:=fj (rfl:xk=xk);have s2:=fj (rfl:xv=xv);clear TV hx;go_wp2_with fail
      go_quiet (fail)
      go_wp2_with fail
      go_roundw
      case rel=>exact⟨k+1,_,I,rfl,by go_num,rfl⟩
      case measure=>simp[intOf];omega
     ·obtain⟨d1,d2⟩:=hA.tail (k-L.length) I;rw[show L.length+(k-L.length)=k by omega]at d1 d2;have d1:=TU.cell d1;have d2:=TU.cell d2;clear TV;go_wp2_with fail
      go_roundw
      case rel=>exact⟨k+1,_,I,rfl,by go_num,rfl⟩
      case measure=>simp[intOf];omega
    ·clear TV;have XT:k=L.length+5:=I
     subst XT;have ct:=Ib (w:=w7.drewN nq) (h7b.frame (λ_ _ _=>⟨rfl,rfl⟩)) (w.heap.size+1+1) (L.length+5) arr TU hA.size v2 I (by have:=Py 2;omega) hc0 I;unfold ptr at ct;go_wp2_with fail
     refine ct.mono ?_;rintro e w8 ⟨rfl,τ4,a',h8b,e3,e4,e5,Mp⟩;clear ct;go_wp2_with fail
     go_ret;have PR:Stp 1 τ3 w7 τ4 w8:=⟨Mp.os,Mp.tape,Mp.output,Mp.size,Mp.tag,Mp.block⟩
     exact⟨rfl,τ4,a',M.set i m',c+1,⟨by rw[am0];exact h8b,(h7s.TL PR).congr e3 e4,CV hrw I ⟨by have:=hrs.1;omega,hrs.2⟩,λq=>by have:=e5 q;have:=Py q;omega,I⟩,I,I,k7.trans (PR.kp I)⟩
end
end
section
def TW:(prog.info? 9).map (·.size)=Y 1:=by obtain⟨i,hi,_,h2,_⟩:=aj4 uf;rw[hi];simp[h2]
def Iw(n:Nat)(hn:n<=8796093021952)(W:af):∃M:Array aj,M.size=n+5/\(Instr.makeSlice 38 (.int .i64 ((n:Int)+5)) (.int .i64 ((n:Int)+5))).run prog W=.ok (.slice (Y ⟨W.heap.size,0,F⟩) (n+5) (n+5)) (W.alloc (.cells M 9)):=by
 obtain⟨i,hi,hz0,Ff,Iq⟩:=aj4 uf;have h:=run_make (P:=prog) W 38 9 i _ underlying38 hi hz0 .i64 .i64 ((n:Int)+5) ((n:Int)+5) I I (by rw[Iq];omega) I;have e:((n:Int)+5).toNat=n+5:=I
 rw[e,Ff]at h;exact⟨_,(size_madeCells _ _).trans (Nat.mul_one _),h⟩
structure CX(arr:Array aj)(L:List ah)(k5:Nat):Prop where
 size:arr.size=L.length+5
 head:∀(k:Nat) (x:ah),L[k]?=Y x->arr[k]?=Y (.string x)
 tail:∀j,j<k5->arr[L.length+j]?=Y (.string ⟨#[98,101,104,105,110,100]⟩)
def CX.start(L:List ah)(cur:Array aj)(hc:cur.size=L.length+5):CX (L.map aj3++cur.toList.drop (L.map aj3).length).toArray L 0:=by
 refine⟨?_,λk x hx=>?_,λj hj=>I⟩
 ·simp[hc]
 ·have hl:=(List.getElem?_eq_some_iff.1 hx).1;rw[az1,ag1 (by simpa using hl),ai8,hx];rfl
def CX.next(h:CX arr L k)(hk:k<5):CX (arr.setIfInBounds (L.length+k) (.string ⟨#[98,101,104,105,110,100]⟩)) L (k+1):=by
 have hs:=h.size;refine⟨by simp[hs],λj x hx=>?_,λj hj=>?_⟩
 ·have hl:=(List.getElem?_eq_some_iff.1 hx).1;rw[zcf I];exact h.head j x hx
 ·by_cases e:j=k
  ·subst e;rw[ad8 I]
  ·rw[zcf I];exact h.tail j I
def CX.texts(h:CX arr L k)(hb:aT w b arr 9):fo w (Y ⟨b,0,F⟩) L:=λj x hx=>
 ⟨b,0,rfl,by rw[am9];exact hb.cell (h.head j x hx)⟩
def fo.keep(h:fo w a L)(hk:∀ib io,a=Y ⟨ib,io,F⟩/\L≠ []->w'.heap[ib]?=w.heap[ib]?):fo w' a L:=by intro k x hx;obtain⟨ib,io,e,c1⟩:=h k x hx;have e':=And.intro e (show L≠ []from λh0=>by subst h0;simp at hx);exact⟨ib,io,e,(zce (hk ib io e')).trans c1⟩
section
variable {w:af}{τ:Nat->Tag}{wb:Nat}{c:Int}{a:LA}{M:List MS}{i:Nat}{m:MS}
def X0(L:List ah):∀v∈L.map aj3,v.oneCell'=Z6:=by intro v hv;obtain⟨x,_,rfl⟩:=List.mem_map.1 hv;rfl
def Mq(h:fo w ia L)(hk:∀ib io,ia=Y ⟨ib,io,F⟩/\L≠ []->w'.heap[ib]?=w.heap[ib]?)(hp:0< (L.map aj3).length):∃ad,ia=Y ad/\∀j v,(L.map aj3)[j]?=Y v->w'.cell? (ad.add j)=Y v:=by have h':=h.keep hk;simp at hp;have rz:0<L.length:=hp;obtain⟨ib,io,rfl,_⟩:=h' 0 L[0] (zcd rz);refine⟨_,rfl,λj v hj=>?_⟩;rw[ai8]at hj;obtain⟨x,hx,rfl⟩:=Option.map_eq_some_iff.1 hj;obtain⟨TS,TT,e,c1⟩:=h' j x hx;cases e;rw[add_plain];exact c1
def Mr(h:LW w τ wb c a M)(hm:M[i]?=Y m)(kd on A B:Int)(s:ah)(it:aj)(ia:Option aA)(L:List ah)(cap:Nat)(hL:L.length<=8796093021952)(hz:pZ L)(hI:fo w ia L)(hf:∀ib io,ia=Y ⟨ib,io,F⟩/\L≠ []->ib<w.heap.size/\(τ ib).1=0)(h1:c<=1466015503690):
 Calls prog 63 #[ptr wb,.agg #[ptr (a.sB i),ptr (a.rB i)],dS kd on A B s it (.slice ia L.length cap)] w λe w'=>e=.returned (.bool Z6)/\kq w τ wb c w':=by
 obtain⟨Mk,hMs,hMk⟩:=Iw L.length I ((w.alloc (.cells #[ptr (a.sB i),ptr (a.rB i)] 127)).alloc (a9 kd on A B s it (.slice ia L.length cap)));have qQ:Below w.heap.size w (((w.alloc (.cells #[ptr (a.sB i),ptr (a.rB i)] 127)).alloc (a9 kd on A B s it (.slice ia L.length cap))).alloc (.cells Mk 9)):=(((Below.refl _ _).alloc (zcc _) _).alloc XI _).alloc Yn _;have vg:aT (((w.alloc (.cells #[ptr (a.sB i),ptr (a.rB i)] 127)).alloc (a9 kd on A B s it (.slice ia L.length cap))).alloc (.cells Mk 9)) w.heap.size #[ptr (a.sB i),ptr (a.rB i)] 127:=
  ((aT.new w _ _).of_eq (zcb _ _ _ XI)).of_eq (zcb _ _ _ Yn)
 have Ml:aT (((w.alloc (.cells #[ptr (a.sB i),ptr (a.rB i)] 127)).alloc (a9 kd on A B s it (.slice ia L.length cap))).alloc (.cells Mk 9)) (w.heap.size+1) #[.int .i64 kd,.int .i64 on,.int .i64 A,.int .i64 B,.string s,it,.slice ia L.length cap] 86:=by have:=aT.new (w.alloc (.cells #[ptr (a.sB i),ptr (a.rB i)] 127)) #[.int .i64 kd,.int .i64 on,.int .i64 A,.int .i64 B,.string s,it,.slice ia L.length cap] 86;rw[show (w.alloc (.cells #[ptr (a.sB i),ptr (a.rB i)] 127)).heap.size=w.heap.size+1 by simp]at this;exact this.of_eq (zcb _ _ _ XI)
 have Mm:aT (((w.alloc (.cells #[ptr (a.sB i),ptr (a.rB i)] 127)).alloc (a9 kd on A B s it (.slice ia L.length cap))).alloc (.cells Mk 9)) (w.heap.size+1+1) Mk 9:=by have:=aT.new ((w.alloc (.cells #[ptr (a.sB i),ptr (a.rB i)] 127)).alloc (a9 kd on A B s it (.slice ia L.length cap))) Mk 9;rwa [show ((w.alloc (.cells #[ptr (a.sB i),ptr (a.rB i)] 127)).alloc (a9 kd on A B s it (.slice ia L.length cap))).heap.size=w.heap.size+1+1 by simp]at this
 have hsrc:=Mq hI (λib io e=>qQ.block ib (hf ib io e).1);unfold dS ptr;unfold a9 ptr at *;go_enter func63,ntmps63;go_upto_region 3 with(fail)
 clear hMk;have PL:(((w.alloc (.cells #[.pointer (Y ⟨a.sB i,0,F⟩),.pointer (Y ⟨a.rB i,0,F⟩)] 127)).alloc (.cells #[.int .i64 kd,.int .i64 on,.int .i64 A,.int .i64 B,.string s,it,.slice ia L.length cap] 86)).alloc (.cells Mk 9)).heap.size=w.heap.size+1+1+1:=XI
 generalize ((w.alloc (.cells #[.pointer (Y ⟨a.sB i,0,F⟩),.pointer (Y ⟨a.rB i,0,F⟩)] 127)).alloc (.cells #[.int .i64 kd,.int .i64 on,.int .i64 A,.int .i64 B,.string s,it,.slice ia L.length cap] 86)).alloc (.cells Mk 9)=wm at *;have o5:wm.cell? ⟨w.heap.size+1,6,F⟩=Y (.slice ia L.length cap):=Ml.cell (o:=6) rfl;obtain⟨w4,SU,KF,sI⟩:∃w4,(Builtin.copy_ #[38,38] 3 #[.slice (Y ⟨w.heap.size+1+1,0,F⟩) (L.length+5) (L.length+5),.slice ia L.length cap]).run prog wm=.ok (goInt L.length) w4/\aT w4 (w.heap.size+1+1) (L.map aj3++Mk.toList.drop (L.map aj3).length).toArray 9/\Below (w.heap.size+1+1) wm w4:=by have hmin:Nat.min L.length (L.length+5)=L.length:=Nat.min_eq_left I;have e:=pX (P:=prog) wm 38 38 3 9 1 (w.heap.size+1+1) (L.length+5) (L.length+5) ia L.length cap Mk 9 (L.map aj3) underlying38 TW Mm (by rw[an4,hmin,Nat.mul_one]) hsrc (by rw[an4];omega) (X0 L);rw[hmin]at e;exact⟨_,e,setRow_heap wm _ _ _ _ _ Mm,rfl,rfl,rfl,by simp[World.setRow],λk hk=>setRow_other wm _ k _ I⟩
 have wH:=CX.start L Mk hMs;generalize (L.map aj3++Mk.toList.drop (L.map aj3).length).toArray=XS at *;have afY:wm.heap.size=w.heap.size+1+1+1:=PL;clear hsrc Mm hMs;go_wp2_with fail
 clear SU;have hn5:L.length+5<=8796093022208:=I
 go_loopw [9] (λu wr=>∃(k:Nat) (arr:Array aj),k<=5/\u=.int .i64 ((L.length:Int)+k)/\aT wr (w.heap.size+1+1) arr 9/\CX arr L k/\Below (w.heap.size+1+1) wm wr) (λu _=>L.length+5-(intOf u).toNat)
 case atStart=>exact⟨0,XS,I,XI,KF,wH,sI⟩
 case round=>
  obtain⟨k,arr,hk,rfl,hb,hA,hB⟩:=hrel;by_cases hlt:k<5
  ·have hs:=hA.size;obtain⟨v0,hv0⟩:∃v,arr[L.length+k]?=Y v:=⟨_,ad7 I⟩
   have d0:=hb.cell hv0;have f0:=hb.frozen (L.length+k);have Fg:=hA.next hlt
   clear hv0 hA;go_wp2_with fail
   go_roundw
   case rel=>exact⟨k+1,_,I,by go_num,hb.set (L.length+k) _,Fg,hB.setCell (p:=⟨w.heap.size+1+1,L.length+k,F⟩) (zcc _) _⟩
   case measure=>simp[intOf];omega
  ·have XT:k=5:=I
   subst XT;have ym:Below w.heap.size w wr:=qQ.trans (hB.mono I);have hwt:∀k,k<w.heap.size->yl τ w.heap.size a.N k=τ k:=λk hk=>by unfold yl;rw[if_neg I,if_neg I,if_neg I]
   have h5:LW wr (yl τ w.heap.size a.N) wb c a M:=h.new ym hwt;have k5:vf τ w (yl τ w.heap.size a.N) wr:=vf.dg ym hwt;have t0:yl τ w.heap.size a.N w.heap.size=(0,0,0):=by unfold yl;rw[if_pos rfl]
   have t1:yl τ w.heap.size a.N (w.heap.size+1)=(0,0,0):=by unfold yl;rw[if_neg I,if_pos rfl]
   have t2:yl τ w.heap.size a.N (w.heap.size+1+1)=(1,8,a.N):=by unfold yl;rw[if_neg I,if_neg I,if_pos rfl]
   have hI5:fo wr ia L:=hI.keep (λib io e=>ym.block ib (hf ib io e).1);have Mo:∀ib io,ia=Y ⟨ib,io,F⟩/\L≠ []->ib<wr.heap.size/\(yl τ w.heap.size a.N ib).1=0:=λib io e=>⟨by have:=(hf ib io e).1;have:=ym.size;omega,by rw[hwt ib (hf ib io e).1];exact(hf ib io e).2⟩
   have yX:=vg.of_eq (hB.block w.heap.size I);have Iu:=Ml.of_eq (hB.block (w.heap.size+1) I);obtain⟨As,hS⟩:=h5.st.s i m hm;generalize yl τ w.heap.size a.N=τ1 at *;have cw:=abM (w:=wr.drew) (L:=L) (hS.frame (λ_ _ _=>⟨rfl,rfl⟩)) (Y ⟨w.heap.size+1+1,0,F⟩) (L.length+5) (by unfold maxLen;omega) I (by unfold maxLen;omega) hz (hA.texts hb) (λib io e=>by cases e;rw[t2];omega) (by have:=(h.ok i m hm).1;omega);have x0:wr.cell? ⟨w.heap.size,0,F⟩=Y (.pointer (Y ⟨a.sB i,0,F⟩)):=yX.cell (o:=0) rfl;clear hI hf qQ sI vg Ml KF wH o5 hB;unfold ptr at cw;have cr:=fun(τ2:Nat->Tag) (w6:af) (A2:RA) (hR:bh w6 τ2 (3+2*i) (a.rB i) m A2) (PM:fo w6 ia L)=>abN hR ia L cap (by unfold maxLen;omega) hz PM (by have:=(h.ok i m hm).1;omega);unfold ptr pY at cr;unfold CW at cw;have hrs:=PE (h.ok i m hm) L;generalize fZ m L=r at *;obtain⟨r1,r2,m'⟩:=r;simp only at cw cr hrs;have hc0:=h.c0;have hrw:=h.ok;have Py:=h.ll;have q1:(0:Int)<=(L.length:Int):=I
   have q2:(L.length:Int)<=((L.length+5:Nat):Int):=I
   have q3:(L.length:Int)<=(L.length:Int)+5:=I
   have q4:L.length<=L.length+5:=I
   have q5:(0:Int)<=(L.length:Int)+5:=I
   go_wp2_with fail
   go_region_held3 (λW=>W.cell? ⟨w.heap.size,0,F⟩=Y (.pointer (Y ⟨a.sB i,0,F⟩))) (simp[*]) ((go_at_call 21;refine cw.mono ?_;rintro e w6 ⟨τ2,A2,rfl,hS6,Fh⟩;have x6:=(zce (a:=⟨w.heap.size,0,F⟩) (Fh.block w.heap.size yX.lt (by rw[t0];omega))).trans x0))
   have jR:Stp (2+2*i) τ1 wr τ2 w6:=⟨Fh.os,Fh.tape,Fh.output,Fh.size,Fh.tag,Fh.block⟩
   have h6b:cD w6 τ2 wb M.length c a:=h5.base.pS jR I;have XW:LS w6 τ2 a (M.set i m') M:=h5.st.KI jR hS6;have k6:=k5.trans (jR.kp I);have PN:=jR.blk yX (by rw[t0];simp;omega);have Iv:=jR.blk Iu (by rw[t1];simp;omega);have XX:=jR.blk hb (by rw[t2];simp;omega);have PM:fo w6 ia L:=hI5.keep (λib io e=>jR.block ib (Mo ib io e).1 (by rw[(Mo ib io e).2];omega));have XY:∀ib io,ia=Y ⟨ib,io,F⟩/\L≠ []->ib<w6.heap.size/\(τ2 ib).1=0:=λib io e=>⟨by have:=(Mo ib io e).1;have:=jR.size;omega,by rw[jR.tag ib (Mo ib io e).1];exact(Mo ib io e).2⟩
   have u0:τ2 w.heap.size=(0,0,0):=(jR.tag _ yX.lt).trans t0;have u1:τ2 (w.heap.size+1)=(0,0,0):=(jR.tag _ Iu.lt).trans t1;have u2:τ2 (w.heap.size+1+1)=(1,8,a.N):=(jR.tag _ hb.lt).trans t2;obtain⟨Bs,hR⟩:=XW.r i m hm;have cr6:=cr τ2 w6 Bs hR PM;have y1:w6.cell? ⟨w.heap.size,1,F⟩=Y (.pointer (Y ⟨a.rB i,0,F⟩)):=PN.cell (o:=1) rfl;have y5:w6.cell? ⟨w.heap.size+1,6,F⟩=Y (.slice ia L.length cap):=Iv.cell (o:=6) rfl;clear cw cr hI5 Mo yX Iu hb h5 k5 t0 t1 t2 Fh jR hS6 hS x0 ym hwt;go_wp2_with fail
   refine cr6.mono ?_;rintro e w7 ⟨τ3,B3,rfl,hR7,Fi⟩;clear cr6;have h7b:cD w7 τ3 wb M.length c a:=h6b.pS Fi I;have h7s:LS w7 τ3 a (M.set i m') (M.set i m'):=XW.KJ Fi hR7;have k7:=k6.trans (Fi.kp I);have XZ:=Fi.blk Iv (by rw[u1];simp;omega);have TU:=Fi.blk XX (by rw[u2];simp;omega);have TV:fo w7 ia L:=PM.keep (λib io e=>Fi.block ib (XY ib io e).1 (by rw[(XY ib io e).2];omega));have v2:τ3 (w.heap.size+1+1)=(1,8,a.N):=(Fi.tag _ XX.lt).trans u2;have z5:w7.cell? ⟨w.heap.size+1,6,F⟩=Y (.slice ia L.length cap):=XZ.cell (o:=6) rfl;clear PM XY PN Iv XX h6b XW k6 u0 u1 u2 Fi hR7 hR y1 y5;go_wp2_with fail
   go_loopw [14,15] (λu14 PO wr=>∃(k nq:Nat),k<=L.length+5/\u14=.bool Z6/\PO=.int .i64 k/\wr=w7.drewN nq) (λ_ PO _=>L.length+5-(intOf PO).toNat)
   case atStart=>exact⟨0,0,zcg _,rfl,rfl,rfl⟩
   case round=>
    obtain⟨k,nq,hk,rfl,rfl,rfl⟩:=hrel;by_cases hlt:k<L.length+5
    ·by_cases hkn:k<L.length
     ·have hx:L[k]?=Y L[k]:=zcd hkn;obtain⟨ib,io,rfl,e1⟩:=TV k _ hx;have d1:=TU.cell (hA.head k _ hx);generalize L[k]=xk at *;have s1:=fj (rfl:xk=xk);clear TV hx;go_wp2_with fail
      go_quiet (fail)
      go_wp2_with fail
      go_roundw
      case rel=>exact⟨k+1,_,I,rfl,by go_num,rfl⟩
      case measure=>simp[intOf];omega
     ·have d1:=hA.tail (k-L.length) I;rw[show L.length+(k-L.length)=k by omega]at d1;have d1:=TU.cell d1;clear TV;go_wp2_with fail
      go_roundw
      case rel=>exact⟨k+1,_,I,rfl,by go_num,rfl⟩
      case measure=>simp[intOf];omega
    ·clear TV;have XT:k=L.length+5:=I
     subst XT;have ct:=E8 (w:=w7.drewN nq) (h7b.frame (λ_ _ _=>⟨rfl,rfl⟩)) (w.heap.size+1+1) (L.length+5) arr TU hA.size v2 I (by have:=Py 1;omega) hc0 I;unfold ptr at ct;go_wp2_with fail
     refine ct.mono ?_;rintro e w8 ⟨rfl,τ4,a',h8b,e3,e4,e5,Mp⟩;clear ct;go_wp2_with fail
     go_ret;have PR:Stp 1 τ3 w7 τ4 w8:=⟨Mp.os,Mp.tape,Mp.output,Mp.size,Mp.tag,Mp.block⟩
     exact⟨rfl,τ4,a',M.set i m',c+1,⟨by rw[am0];exact h8b,(h7s.TL PR).congr e3 e4,CV hrw I hrs,λq=>by have:=e5 q;have:=Py q;omega,I⟩,I,I,k7.trans (PR.kp I)⟩
end
end
end Go.Proofs.YteoahlieielcdaaGreat
