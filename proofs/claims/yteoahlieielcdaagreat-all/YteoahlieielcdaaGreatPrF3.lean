import Derived.Test.YteoahlieielcdaaGreatPrF2
set_option linter.all false
set_option maxHeartbeats 8000000
set_option maxRecDepth 100000
open Option renaming some->Y,none->F
open Bool renaming false->E,true->Z6
open List renaming length_set->am0,range_succ->ao8,all_eq_true->aq2
open Nat renaming zero_le->ak8
namespace Go.Proofs.YteoahlieielcdaaGreat
open Go.Proofs.Tryz
abbrev zb2:=@Nat.le_refl
abbrev zb3:=@List.getElem?_eq_getElem
abbrev zb4:=@World.block_lt_of_cell?
abbrev zb5:=@List.flatMap_append
variable{rs:List MR}{i B c n:Nat}{r:MR}
section
open Go Go.RowKit Go.MuLone
open Go.Maps (Keyed)
def zc:(prog.info? 62).map (λi=>(i.zero,i.size,i.bytes))=Y (Y (.agg #[.string ByteArray.empty,.int .i64 0,.string ByteArray.empty]),3,40):=Yl
def Qq(n:Nat)(hn:n<=8)(W:af):∃M:Array aj,M.size=n*3/\(Instr.makeSlice 42 (.int .i64 (n:Int)) (.int .i64 (n:Int))).run prog W=.ok (.slice (Y ⟨W.heap.size,0,F⟩) n n) (W.alloc (.cells M 62)):=by obtain⟨i0,hi,hz0,Ff,Iq⟩:=info_parts zc;have h:=run_make (P:=prog) W 42 62 i0 _ underlying42 hi hz0 .i64 .i64 (n:Int) (n:Int) I I (by rw[Iq];omega) I;refine⟨_,?_,by simpa using h⟩;rw[size_madeCells,Ff]
section
variable {w:af}{A:SA}
end
def iO(s:MS)(i:Nat)(r:MR):MS:={s with rs:=s.rs.set i {r with fin:=Z6}}
def rR(hr:rs[i]?=Y r)(hf:r.fin=E):aX (rs.set i {r with fin:=Z6})+1=aX rs:=by
 unfold aX;induction rs generalizing i with
 |nil=>simp at hr
 |cons a l ih=>
  cases i with
  |zero=>
   simp at hr;subst hr;simp[hf]
  |succ i=>
   have:=ih (by simpa using hr);simp only[List.set_cons_succ,List.countP_cons];omega
def Cc(hr:rs[i]?=Y r)(n:Int):gj (rs.set i {r with fin:=Z6}) n=if n=(i:Int)+1 then F else gj rs n:=by
 have hi:=aH hr;unfold gj;simp only[am0];by_cases e:n=(i:Int)+1
 ·subst e;rw[if_pos rfl,if_neg I,show ((i:Int)+1-1).toNat=i from by omega];simp[hi]
 ·rw[if_neg e];split
  ·rfl
  ·rw[List.getElem?_set_ne I]
def Jj{B:SB}(hr:rs[i]?=Y r):dW (rs.set i {r with fin:=Z6}) B=del (dW rs B) (.int .i64 ((i:Int)+1)):=by
 funext kl;by_cases e:kl=.int .i64 ((i:Int)+1)
 ·subst e;rw[nA Z5];simp[dW,Cc hr]
 ·rw[kZ e];cases kl with
  |int k n=>
   cases k<;>try rfl
   have hn:n≠(i:Int)+1:=λe'=>e (by rw[e']);simp only[dW,Cc hr,if_neg hn]
  |_=>rfl
section
variable {w:af}{τ:Nat->Tag}{aJ b:Nat}{s:MS}{A:SA}
def bB.fin(h:bB w τ aJ b s A){i:Nat}{r:MR}(hr:s.rs[i]?=Y r)(iu:r.fin=E){w':af}(hne:∀k,k≠A.R.rm->w'.heap[k]?=w.heap[k]?)
 (hM:aS w' prog 3 A.R.rm (del (dW s.rs A.R) (.int .i64 ((i:Int)+1)))):bB w' τ aJ b (iO s i r) A:=by
 have hi:=aH hr;have dX:∀{q:Nat} {rq:MR},(s.rs.set i {r with fin:=Z6})[q]?=Y rq->rq.fin=E->q≠i/\s.rs[q]?=Y rq:=by
  intro q rq hq hf;rcases cS hq with⟨rfl,rfl⟩|⟨e,hq⟩
  ·cases hf
  ·exact⟨λe'=>e e'.symm,hq⟩
 have hne':∀{k g g':Nat},τ k=(aJ,g,g')->g≠10->w'.heap[k]?=w.heap[k]? :=λht hg=>hne _ (λe=>by rw[e,h.reads.iQ]at ht;simp at ht;omega);have:=h.I6 (w':=w') (τ':=τ) (rs':=s.rs.set i {r with fin:=Z6}) (B':=A.R) (λk hk h1 h2 h3=>⟨hne _ (λe=>by rw[e,h.reads.iQ]at h3;simp at h3),rfl⟩) h.tag
  ⟨h.ok.p1,h.ok.p4,h.ok.len,h.ok.items,λq rq hq=>?_,?_⟩ ⟨h.told.sv,λq rq hq hf=>?_,λq rq j hq ha=>?_,λq rq j x hq hf hx=>?_,λq rq j x hq hf hx hv=>?_,λq rq j x hq hf hx hv=>?_,λq rq j x hq hf hx hv=>?_⟩ ?_ ⟨?_,h.reads.iQ,λq rq hq hf=>?_,λq rq hq hf=>?_,λq rq hq hf=>?_,λq rq hq hf=>?_,λq rq j x hq hf hx=>?_,λq rq j x hq hf hx=>?_,λq rq hq hf=>?_,λq rq k hq hf hk=>?_⟩
 ·exact this
 ·rcases cS hq with⟨rfl,rfl⟩|⟨_,hq⟩
  ·exact h.ok.keys i r hr
  ·exact h.ok.keys q rq hq
 ·have:=rR hr iu;have h50:=h.ok.opn;show aX (s.rs.set i {r with fin:=Z6})<=50;omega
 ·exact h.told.no q rq (dX hq hf).2 hf
 ·rcases cS hq with⟨rfl,rfl⟩|⟨_,hq⟩
  ·exact h.told.un i r j hr ha
  ·exact h.told.un q rq j hq ha
 ·exact h.told.hv q rq j x (dX hq hf).2 hf hx
 ·exact h.told.tv q rq j x (dX hq hf).2 hf hx hv
 ·exact h.told.t0 q rq j x (dX hq hf).2 hf hx hv
 ·exact h.told.fm q rq j x (dX hq hf).2 hf hx hv
 ·simp only[am0];exact h.blk.of_eq (hne' h.tag I)
 ·rw[Jj hr];exact hM
 ·have h1:=(dX hq hf).2;exact(h.reads.rd q rq h1 hf).of_eq (hne' (h.reads.eP q rq h1 hf) I)
 ·exact h.reads.eP q rq (dX hq hf).2 hf
 ·have h1:=(dX hq hf).2;exact(h.reads.xI q rq h1 hf).of_eq (hne' (h.reads.nB q rq h1 hf) I)
 ·exact h.reads.nB q rq (dX hq hf).2 hf
 ·have h1:=(dX hq hf).2;exact(h.reads.q q rq j x h1 hf hx).of_eq (hne' (h.reads.l6 q rq j x h1 hf hx) I)
 ·exact h.reads.l6 q rq j x (dX hq hf).2 hf hx
 ·have h1:=(dX hq hf).2;exact aI (h.reads.ky q rq h1 hf) (λk hk=>hne' (h.reads.dV q rq k h1 hf hk) I)
 ·exact h.reads.dV q rq k (dX hq hf).2 hf hk
def C0(h:bB w τ aJ b s A)(n:Int)(hn: -9223372036854775808<=n)(hn':n<=9223372036854775807)(hf:dQ s n=F):
 Calls prog 23 #[ptr b,.int .i64 n] w λe w'=>e=.returned (.tuple #[.slice F 0 0,.int .i64 0,.int .i64 7])/\bB w' τ aJ b s A/\Stp aJ τ w τ w':=by
 have c:=kT h n hn hn';have hv:eT s A n=(.pointer F,E):=by unfold eT;rw[hf]
 rw[hv]at c;unfold ptr at c⊢;clear hf hv;go_enter func23,ntmps23;go_wp2_with fail
 refine c.mono ?_;rintro e w1 ⟨rfl,hS⟩;go_wp2_with fail
 go_ret3
 exact⟨rfl,h.same hS,hS.pS _ _⟩
def A6(h:bB w τ aJ b s A)(n:Int)(hn: -9223372036854775808<=n)(hn':n<=9223372036854775807)(r:MR)(hf:dQ s n=Y r)(ha:ez r=E):
 Calls prog 23 #[ptr b,.int .i64 n] w λe w'=>e=.returned (.tuple #[.slice F 0 0,.int .i64 0,.int .i64 9])/\bB w' τ aJ b s A/\Stp aJ τ w τ w':=by
 have c:=kT h n hn hn';obtain⟨h1,h2,hr,hc⟩:=gi hf;have hv:eT s A n=(ptr (A.R.pr (n-1).toNat),Z6):=by unfold eT;rw[hf]
 rw[hv]at c;have c2:∀w1,vF w w1->Calls prog 42 #[ptr (A.R.pr (n-1).toNat)] w1 λe w'=>e=.returned (.bool E)/\Below w1.heap.size w1 w':=λw1 hS=>by have:=qi (h.same hS) hr hc;rw[ha]at this;exact this
 generalize (n-1).toNat=j at c c2;unfold ptr at c c2⊢;clear hf hv ha;go_enter func23,ntmps23;go_wp2_with fail
 refine c.mono ?_;rintro e w1 ⟨rfl,hS⟩;have c3:=c2 w1 hS;clear c c2;go_wp2_with fail
 refine c3.mono ?_;rintro e w2 ⟨rfl,hB⟩;clear c3;go_wp2_with fail
 go_ret3
 exact⟨rfl,(h.same hS).below hB,(hS.pS _ _).trans (lf hB)⟩
def IL{l:List KV}{x v:ah}(hg:∀y∈l,eD y=Z6)(h:gT l x=Y v):v.size<=64:=by unfold gT at h;obtain⟨y,hy,rfl⟩:=Option.map_eq_some_iff.1 h;exact(gl (hg y (List.mem_of_find?_eq_some hy))).2.2
end
end
section
open Go Go.RowKit
def oF{fn:Func}{t u v x:Tmp}(h:fn.results=#[.tmp t,.tmp u,.tmp v,.tmp x])(tmps:Array aj)(P:aB)(w:af):
 (results fn tmps).run P w=.ok (.tuple #[tmps.getD t undef,tmps.getD u undef,tmps.getD v undef,tmps.getD x undef]) w:=by simp[results,h]
def jK(r:MR)(j:Nat):ah:=r.keys.getD j ⟨#[]⟩
noncomputable def BF(s:MS)(r:MR)(j:Nat):Nat:=wF s.ws r.found (jK r j) (r.found j) r.keys.length
noncomputable def iZ(s:MS)(r:MR):Nat->Nat
 | 0=>0
 |k+1=>if BF s r k=r.found k then iZ s r k else iZ s r k+1
def ij(r:MR):Nat->Nat
 | 0=>0
 |k+1=>if 0<r.found k/\1<r.keys.length then r.keys.length else ij r k
noncomputable def UX(s:MS)(r:MR)(j:Nat):List aj:= [.string (jK r j),.int .i64 (BF s r j),.string (P5 s.ws (BF s r j) (jK r j))]
noncomputable def M7(s:MS)(r:MR)(k:Nat):List aj:=(List.range k).flatMap (UX s r)
def CY{f:Nat->List aj}(hf:∀j,(f j).length=c){j t:Nat}(hj:j<n)(ht:t<c):((List.range n).flatMap f)[j*c+t]?=(f j)[t]? :=by
 have hl:∀n,((List.range n).flatMap f).length=n*c:=λn=>by
  induction n with
  |zero=>simp
  |succ n ih=>rw[ao8,zb5,List.length_append,ih,Nat.add_mul];simp[hf]
 induction n with
 |zero=>omega
 |succ n ih=>
  rw[ao8,zb5];by_cases e:j=n
  ·subst e;rw[List.getElem?_append_right (by rw[hl];omega),hl];simp[show j*c+t-j*c=t by omega]
  ·have:j*c+c<=n*c:=by rw[<-Nat.succ_mul];exact Nat.mul_le_mul_right _ I
   rw[List.getElem?_append_left (by rw[hl];omega)];exact ih I
def p9(w:af)(x y z:aj)(t:az):∀j u, [x,y,z][j]?=Y u->(w.alloc (.cells #[x,y,z] t)).cell? ((⟨w.heap.size,0,F⟩:aA).add j)=Y u:=by
 intro j u hj;match j,hj with
 | 0,hj| 1,hj| 2,hj=>simp at hj;subst hj;simp[Addr.add]
def Below.grown{w1 w w2:af}{o:Obj}{row:Option Nat}(h:Below B w1 w)(hB:B<=w.heap.size)(hG:((w.drewN n).alloc o).grownBy w2 row)(hr:∀k,row=Y k->B<=k):Below B w1 w2:=
 ⟨hG.os.trans h.os,hG.tape.trans h.tape,hG.output.trans h.output,Nat.le_trans h.size (by have:=hG.size;simp at this;omega),λi hi=>(hG.block i Yn (λe=>by have:=hr i e.symm;omega)).trans ((Below.heap_alloc (w.drewN n) _ _ Yn).trans (h.block i hi))⟩
def Wu(s:MS)(r:MR):∀k,iZ s r k<=k/\ij r k<=r.keys.length
 | 0=>⟨zb2 _,ak8 _⟩
 |k+1=>by have:=Wu s r k;simp only[iZ,ij];constructor<;>split<;>omega
section
variable {w:af}{τ:Nat->Tag}{aJ b:Nat}{s:MS}{A:RA}{r:MR}{i:Nat}
def CZ{ws:List MW}{f:Nat->Nat}{x:ah}{b:Nat}(hb:b≠0->∃m,ws[b-1]?=Y m/\aN m.items x=Z6):∀k,wF ws f x b k≠0->∃m,ws[wF ws f x b k-1]?=Y m/\aN m.items x=Z6
 | 0,h=>hb h
 |k+1,h=>by
  unfold wF at h⊢;split at h
  ·rename_i e;rw[if_pos e];exact e.2
  ·rename_i e;rw[if_neg e];exact CZ hb k h
def bh.YV(h:bh w τ aJ b s A)(hr:s.rs[i]?=Y r)(hf:r.fin=E):bh (w.setCell ⟨A.B.rb i,3,F⟩ (.bool Z6)) τ aJ b (iO s i r) A/\Stp aJ τ w τ (w.setCell ⟨A.B.rb i,3,F⟩ (.bool Z6)):=by
 have hi:=aH hr;have ht:=h.reads.eP i hi;have hne:∀k,τ k≠(aJ,5,i)->(w.setCell ⟨A.B.rb i,3,F⟩ (.bool Z6)).heap[k]?=w.heap[k]? :=λk hk=>Below.heap_setCell _ _ _ _ λe=>hk (by rw[show k=A.B.rb i from e];exact ht);have hrow:∀{e:az} {sz:Nat} {x:aj} {n:Nat} {xs:List aj} {g:Nat×Nat},w.ownsRow 0 e sz x n xs->(∀k,x.ownBlock=Y k->τ k=(aJ,g))->g.1≠5->(w.setCell ⟨A.B.rb i,3,F⟩ (.bool Z6)).ownsRow 0 e sz x n xs:=λho hv g5=>
  aI ho λk hk=>hne k (by rw[hv k hk];intro e;cases e;exact g5 rfl)
 have fV:∀{k:Nat} {c:Array aj} {t:az} {g:Nat×Nat},aT w k c t->τ k=(aJ,g)->g≠(5,i)->aT (w.setCell ⟨A.B.rb i,3,F⟩ (.bool Z6)) k c t:=λhb hv g5=>hb.of_eq (hne _ (by rw[hv];intro e;cases e;exact g5 rfl));have hold:∀{q:Nat} {rq:MR},(s.rs.set i {r with fin:=Z6})[q]?=Y rq->∃ro,s.rs[q]?=Y ro/\rq.keys=ro.keys/\rq.asked=ro.asked/\rq.found=ro.found:=fun{q rq} hq=>by
  rcases cS hq with⟨rfl,rfl⟩|⟨_,hq⟩
  ·exact⟨r,hr,rfl,rfl,rfl⟩
  ·exact⟨rq,hq,rfl,rfl,rfl⟩
 refine⟨⟨⟨h.ok.p1,h.ok.p4,h.ok.len,h.ok.items,λq rq hq=>?_,?_⟩,fV h.blk h.tag XI,h.tag,hrow h.arr h.dc XI,h.dc,λq m hm=>fV (h.wr q m hm) (h.cM q (aH hm)) XI,h.cM,λq m hm=>hrow (h.it q m hm) (λk=>h.cY q k (aH hm)) XI,h.cY,
  ⟨?_,h.reads.dc,λq rq hq=>?_,by simpa[iO]using h.reads.eP,λq rq hq=>?_,by simpa[iO]using h.reads.w9,λq rq hq=>?_,by simpa[iO]using h.reads.oU,λq rq hq=>?_,by simpa[iO]using h.reads.oV⟩⟩,(Stp.refl aJ τ w).setCell (a:=⟨A.B.rb i,3,F⟩) (by rw[ht]) _⟩
 ·obtain⟨ro,ho,e,_⟩:=hold hq;rw[e];exact h.ok.keys q ro ho
 ·have:=rR hr hf;have:=h.ok.opn;show aX (s.rs.set i {r with fin:=Z6})<=50;omega
 ·simp only[iO,am0];exact hrow h.reads.arr h.reads.dc XI
 ·rcases cS hq with⟨rfl,rfl⟩|⟨e,hq⟩
  ·exact(h.reads.rd i r hr).set 3 _
  ·exact fV (h.reads.rd q rq hq) (h.reads.eP q (aH hq)) Yn
 ·obtain⟨ro,ho,e,_⟩:=hold hq;rw[e];exact hrow (h.reads.ks q ro ho) (λk=>h.reads.w9 q k (aH ho)) XI
 ·obtain⟨ro,ho,e,e1,_⟩:=hold hq;rw[e,e1];exact hrow (h.reads.aq q ro ho) (λk=>h.reads.oU q k (aH ho)) XI
 ·obtain⟨ro,ho,e,_,e1⟩:=hold hq;rw[e,e1];exact hrow (h.reads.fs q ro ho) (λk=>h.reads.oV q k (aH ho)) XI
def C2(h:bh w τ aJ b s A)(n:Int)(hn: -9223372036854775808<=n)(hn':n<=9223372036854775807)(hf:dQ s n=F):
 Calls prog 104 #[ptr b,.int .i64 n] w λe w'=>e=.returned (.tuple #[.slice F 0 0,.int .i64 0,.int .i64 0,.int .i64 7])/\w'=w:=by
 have c:=zM h n hn hn' hf;unfold ptr at c⊢;clear hf;go_enter func104,ntmps104;go_wp2_with fail
 refine c.mono ?_;rintro e w' ⟨rfl,rfl⟩;clear c;go_wp2_with fail
 refine bodyPost_ret (oF rfl _ _ _) rfl ?_;exact⟨rfl,rfl⟩
def A7(h:bh w τ aJ b s A)(n:Int)(hf:dQ s n=Y r)(ha:ez r=E):
 Calls prog 104 #[ptr b,.int .i64 n] w λe w'=>e=.returned (.tuple #[.slice F 0 0,.int .i64 0,.int .i64 0,.int .i64 9])/\w'=w:=by
 obtain⟨h1,h2,hr,hc⟩:=gi hf;have c:=sQ h n r hf;obtain⟨i,hi⟩:∃i,(n-1).toNat=i:=⟨_,rfl⟩
 rw[hi]at c hr;obtain⟨k1,k8,kg,-⟩:=h.ok.keys i r hr;obtain⟨gk,ck,ga,ca,gf,cf,c0,c1,c2,-,-,hcell,-,-⟩:=h.Rs hr;have HA:Hid (¬∀j,j<r.keys.length->r.asked j=Z6):=λe=>by
  have:ez r=Z6:=by unfold ez;rw[aq2];exact λj hj=>e j (List.mem_range.1 hj)
  rw[this]at ha;cases ha
 unfold ptr at c⊢;clear hf hc ha;go_enter func104,ntmps104;go_wp2_with fail
 refine c.mono ?_;rintro e w' ⟨rfl,rfl⟩;clear c;go_wp2_with fail
 go_loop [9] (λu=>∃k:Nat,k<=r.keys.length/\u=.int .i64 k/\Hid (∀j,j<k->r.asked j=Z6)) (λu=>r.keys.length-(intOf u).toNat)
 case atStart=>exact⟨0,ak8 _,rfl,λj hj=>I⟩
 case round=>
  obtain⟨k,hk,rfl,HO⟩:=hrel;by_cases hlt:k<r.keys.length
  ·obtain⟨-,d1,-⟩:=hcell k _ (zb3 hlt);cases ha:r.asked k with
   |true=>
    rw[ha]at d1;have yO:Hid (∀j,j<k+1->r.asked j=Z6):=λj hj=>by
     by_cases e:j=k
     ·rw[e];exact ha
     ·exact HO.out j I
    clear hcell ha;go_wp2_with fail
    go_round
    case rel=>exact⟨k+1,I,by go_num,yO⟩
    case measure=>simp[intOf];omega
   |false=>
    rw[ha]at d1;clear hcell ha;go_wp2_with fail
    refine bodyPost_ret (oF rfl _ _ _) rfl ?_;exact⟨rfl,rfl⟩
  ·exact absurd (λj hj=>HO.out j I) HA.out
def Rt(w:af)(s:MS)(r:MR)(g:Nat):Prop:=∀j,j<r.keys.length->w.cell? ⟨g,j*3,F⟩=Y (.string (jK r j))/\w.cell? ⟨g,j*3+1,F⟩=Y (.int .i64 (BF s r j))/\w.cell? ⟨g,j*3+2,F⟩=Y (.string (P5 s.ws (BF s r j) (jK r j)))
def ahz(w:af)(τ:Nat->Tag)(aJ b:Nat)(s:MS)(A:RA)(r:MR)(i:Nat)(e:Ending)(w':af):Prop:=
 ∃g cap,e=.returned (.tuple #[.slice (Y ⟨g,0,F⟩) r.keys.length cap,.int .i64 (if s.mode=2 then ij r r.keys.length else iZ s r r.keys.length:Nat),.int .i64 (if s.mode=1 then iZ s r r.keys.length else ij r r.keys.length:Nat),.int .i64 0])/\bh w' τ aJ b (iO s i r) A/\Stp aJ τ w τ w'/\Rt w' s r g
def IC(h:bh w τ aJ b s A)(n:Int)(hf:dQ s n=Y r)(ha:ez r=Z6)(hw:l7 s r):
 Calls prog 104 #[ptr b,.int .i64 n] w (ahz w τ aJ b s A r (n-1).toNat):=by
 obtain⟨h1,h2,hr,hc⟩:=gi hf;have c:=sQ h n r hf;obtain⟨i,hi⟩:∃i,(n-1).toNat=i:=⟨_,rfl⟩
 rw[hi]at c hr⊢;obtain⟨k1,k8,kg,-⟩:=h.ok.keys i r hr;obtain⟨gk,ck,ga,ca,gf,cf,c0,c1,c2,-,-,hcell,-,-⟩:=h.Rs hr;have HA:Hid (∀j,j<r.keys.length->r.asked j=Z6):=λj hj=>by unfold ez at ha;rw[aq2]at ha;exact ha j (List.mem_range.2 hj)
 obtain⟨hF,sF⟩:=h.YV hr hc;have c3:=h.UU hr;have f3:=(h.reads.rd i r hr).frozen 3;obtain⟨ii,mS,hi0,hi1,hi2⟩:=info_parts zc;have CO:(iO s i r).rs[i]?=Y {r with fin:=Z6}:=by simp[iO,aH hr]
 have hlen:=h.ok.len;unfold ptr at c⊢;clear hf ha;go_enter func104,ntmps104;go_wp2_with fail
 refine c.mono ?_;rintro e w' ⟨rfl,rfl⟩;clear c;go_wp2_with fail
 go_loop [9] (λu=>∃k:Nat,k<=r.keys.length/\u=.int .i64 k) (λu=>r.keys.length-(intOf u).toNat)
 case atStart=>exact⟨0,ak8 _,rfl⟩
 case round=>
  obtain⟨k,hk,rfl⟩:=hrel;by_cases hlt:k<r.keys.length
  ·obtain⟨-,d1,-⟩:=hcell k _ (zb3 hlt);rw[HA.out k hlt]at d1;clear hcell;go_wp2_with fail
   go_round
   case rel=>exact⟨k+1,I,by go_num⟩
   case measure=>simp[intOf];omega
  ·clear hcell c1 HA;have HF:Hid (bh (w'.setCell ⟨A.B.rb i,3,F⟩ (.bool Z6)) τ aJ b (iO s i r) A):=hF;have HS:Hid (Stp aJ τ w' τ (w'.setCell ⟨A.B.rb i,3,F⟩ (.bool Z6))):=sF;clear hF sF h;go_wp2_with fail
   generalize w'.setCell ⟨A.B.rb i,3,F⟩ (.bool Z6)=w1 at *;obtain⟨gk,ck,ga,ca,gf,cf,c0,-,c2,-,-,hcell,-,-⟩:=HF.out.Rs CO;simp only at c0 c2 hcell;go_loopw [10,11,12,13] (λu10 u11 u12 u13 wr=>∃(k:Nat),k<=r.keys.length/\u11=.int .i64 (iZ s r k:Nat)/\u12=.int .i64 (ij r k:Nat)/\u13=.int .i64 k/\Below w1.heap.size w1 wr/\wr.ownsRow w1.heap.size 62 3 u10 k (M7 s r k)) (λ_ _ _ u13 _=>r.keys.length-(intOf u13).toNat)
   case atStart=>exact⟨0,ak8 _,rfl,rfl,rfl,Below.refl _ _,World.ownsRow_nil _ _ _ _⟩
   case round=>
    obtain⟨k,hk,rfl,rfl,rfl,hB,hO⟩:=hrel;have hsz:=hB.size;by_cases hlt:k<r.keys.length
    ·have hx:r.keys[k]?=Y (jK r k):=by rw[jK,List.getD_eq_getElem?_getD,zb3 hlt];rfl
     obtain⟨d0,-,d2⟩:=hcell k _ hx;have e0:=(hB.cell (zb4 _ _ d0)).trans d0;have e2:=(hB.cell (zb4 _ _ d2)).trans d2;have g0:=(hB.cell (zb4 _ _ c0)).trans c0;have g2:=(hB.cell (zb4 _ _ c2)).trans c2;have cc:∀W,Below w1.heap.size w1 W->Calls prog 133 #[.pointer (Y ⟨b,0,F⟩),.pointer (Y ⟨A.B.rb i,0,F⟩),.int .i64 k] W λe w'=>e=.returned (.int .i64 (BF s r k:Nat))/\∃n,w'=W.drewN n:=λW hW=>Jy (r:={r with fin:=Z6}) (HF.out.below hW) CO hx (show l7 (iO s i r) {r with fin:=Z6}from hw);have hN:BF s r k<=s.ws.length:=Jx (uI hw hx) hw _ (zb2 _);have HV:Hid (BF s r k≠0->∃m,s.ws[BF s r k-1]?=Y m/\aN m.items (jK r k)=Z6):=λh0=>CZ (hw k _ hx) _ h0;have hfk:=uI hw hx;obtain⟨N,hJ⟩:∃N,BF s r k=N:=⟨_,rfl⟩
     obtain⟨kk,hkk⟩:∃y,jK r k=y:=⟨_,rfl⟩
     rw[hJ]at cc hN HV;rw[hkk]at HV e0;have HJ:Hid (BF s r k=N/\jK r k=kk):=⟨hJ,hkk⟩
     clear hJ hkk d0 d2 hx hcell c0 c2;go_upto_if 64 with(go_at_call 133;refine(cc _ (hB.alloc hsz _)).mono ?_;rintro e w2 ⟨rfl,nn,rfl⟩)
     have hnb:aT (((wr.alloc (.cells #[.string kk,.int .i64 0,.string ⟨#[]⟩] 62)).drewN nn).setCell ⟨wr.heap.size,1,F⟩ (.int .i64 N)) wr.heap.size #[.string kk,.int .i64 N,.string ⟨#[]⟩] 62:=(aT.new wr _ _).set 1 _;have YW:Below wr.heap.size wr (((wr.alloc (.cells #[.string kk,.int .i64 0,.string ⟨#[]⟩] 62)).drewN nn).setCell ⟨wr.heap.size,1,F⟩ (.int .i64 N)):=(Below.pV ((Below.refl _ _).alloc (zb2 _) _) nn).setCell (p:=⟨wr.heap.size,1,F⟩) (zb2 _) _;generalize ((wr.alloc (.cells #[.string kk,.int .i64 0,.string ⟨#[]⟩] 62)).drewN nn).setCell ⟨wr.heap.size,1,F⟩ (.int .i64 N)=X at *;go_cut [] (λwx=>aT wx wr.heap.size #[.string kk,.int .i64 N,.string (P5 s.ws N kk)] 62/\Below wr.heap.size wr wx)
     case first=>
      by_cases h0:N=0
      ·subst h0;go_wp2_with fail
       go_meet
       case rel=>exact⟨hnb,YW⟩
      ·obtain⟨q,rfl⟩:∃q,N=q+1:=⟨N-1,I⟩
       obtain⟨m,hm,hk⟩:=HV.out h0;rw[show q+1-1=q by omega]at hm;have cv:∀W,Below w1.heap.size w1 W->Calls prog 132 #[.pointer (Y ⟨A.wb q,0,F⟩),.string kk] W λe w'=>e=.returned (.tuple #[.string (valueOf m.items kk),.bool Z6])/\w'=W:=λW hW=>by rw[<-hk];exact vM (HF.out.below hW) hm kk
       have HC:Hid (P5 s.ws (q+1) kk=valueOf m.items kk):=by unfold Hid P5;rw[if_neg h0,show q+1-1=q by omega,hm]
       obtain⟨g,cap,b2,bq⟩:=(HF.out.below (hB.trans (YW.mono hsz))).cAt hm;have hgv:A.arr=.slice (Y ⟨g,0,F⟩) s.ws.length cap:=Option.some.inj (((HF.out.below (hB.trans (YW.mono hsz))).blk.cell (o:=2) (v:=A.arr) rfl).symm.trans b2);replace b2:X.cell? ⟨b,2,F⟩=Y (.slice (Y ⟨g,0,F⟩) s.ws.length cap):=b2;have x0:X.cell? ⟨wr.heap.size,0,F⟩=Y (.string kk):=hnb.cell (o:=0) rfl;have x1:X.cell? ⟨wr.heap.size,1,F⟩=Y (.int .i64 ((q:Int)+1)):=hnb.cell (o:=1) rfl;have x2:X.cell? ⟨wr.heap.size,2,F⟩=Y (.string ⟨#[]⟩):=hnb.cell (o:=2) rfl;have xf:=hnb.frozen 2;have V5:(q:Int)< (s.ws.length:Int):=I
       have hwq:IntKind.i64.wrap (q:Int)=(q:Int):=IntWalk.i64_in _ I;have cvX:=cv X.drew (hB.trans (YW.mono hsz)).drew;have HX:Hid (∀v,aT (X.setCell ⟨wr.heap.size,2,F⟩ (.string v)) wr.heap.size #[.string kk,.int .i64 (q+1:Nat),.string v] 62/\Below wr.heap.size wr (X.setCell ⟨wr.heap.size,2,F⟩ (.string v))):=λv=>⟨hnb.set 2 _,YW.setCell (p:=⟨wr.heap.size,2,F⟩) (zb2 _) _⟩
       have hbz:=zb4 _ _ b2;have hne:∀{c o:Nat} {u:aj} (_:X.cell? ⟨c,o,F⟩=Y u) (_:c≠wr.heap.size) v,(X.setCell ⟨wr.heap.size,2,F⟩ v).cell? ⟨c,o,F⟩=Y u:=λhu hc v=>(World.cell?_of_block (w:=X) (Below.heap_setCell _ _ _ _ hc)).trans hu;have z1:=hne b2 (λe=>by have:=HF.out.blk.lt;omega);have z2:=hne bq (λe=>by have:=(aQ HF.out.arr g (by rw[hgv];rfl)).2;omega);have z3:∀v,(X.setCell ⟨wr.heap.size,2,F⟩ v).cell? ⟨wr.heap.size,0,F⟩=Y (.string kk):=λv=>(hnb.set 2 v).cell (o:=0) rfl;have z4:∀v,(X.setCell ⟨wr.heap.size,2,F⟩ v).cell? ⟨wr.heap.size,1,F⟩=Y (.int .i64 ((q:Int)+1)):=λv=>(hnb.set 2 v).cell (o:=1) rfl;clear hne hgv;clear hnb YW cc cv HV hm hk e0 e2 g0 g2 hO h0;generalize valueOf m.items kk=vv at *;go_wp2_with fail
       go_region_held3 (λW=>W.cell? ⟨b,2,F⟩=Y (.slice (Y ⟨g,0,F⟩) s.ws.length cap)/\W.cell? ⟨g,q,F⟩=Y (.pointer (Y ⟨A.wb q,0,F⟩))/\W.cell? ⟨wr.heap.size,0,F⟩=Y (.string kk)/\W.cell? ⟨wr.heap.size,1,F⟩=Y (.int .i64 ((q:Int)+1))) (first|(simp[*];done)|(go_keep;done)) ((go_at_call 132;refine cvX.mono ?_;rintro e w2 ⟨rfl,rfl⟩))
       all_goals
        go_wp2_with fail
        go_meet
        case rel=>rw[HC.out];exact⟨(HX.out _).1,(HX.out _).2.drew⟩
     case rest=>
      obtain⟨hb,vg⟩:=hcut;have y:=hb.cell (o:=0) rfl;have y1:=hb.cell (o:=1) rfl;have y2:=hb.cell (o:=2) rfl;have e3:=(vg.cell (zb4 _ _ e2)).trans e2;have g3:=(vg.cell (zb4 _ _ g0)).trans g0;have g4:=(vg.cell (zb4 _ _ g2)).trans g2;have HS3:Hid (ij r (k+1)=if 0<r.found k/\1<r.keys.length then r.keys.length else ij r k):=rfl;obtain⟨d,eb,HS4⟩:∃d:Bool,((N:Int)!=(r.found k:Int))=d/\Hid (iZ s r (k+1)=iZ s r k+if d then 1 else 0):=by
       have e0:iZ s r (k+1)=if N=r.found k then iZ s r k else iZ s r k+1:=by rw[<-HJ.out.1];rfl
       by_cases e:N=r.found k
       ·exact⟨E,by simp[e],e0.trans (by simp[e])⟩
       ·exact⟨Z6,by simp;omega,e0.trans (by simp[e])⟩
      have HS5:Hid (M7 s r (k+1)=M7 s r k++ [.string kk,.int .i64 N,.string (P5 s.ws N kk)]):=by unfold Hid M7;rw[ao8,zb5];simp only[List.flatMap_cons,List.flatMap_nil,List.append_nil,UX,HJ.out.1,HJ.out.2]
      have hfs:=Wu s r k;obtain⟨av,SS,hiv⟩:=bI hO;have KO:wc.ownsRow w1.heap.size 62 3 (.slice av k SS) k (M7 s r k):=by rw[<-hiv];exact aI hO λq hq=>vg.block q (aQ hO q hq).2
      rw[hiv];clear hnb YW cc HV e0 e2 g0 g2 hiv;have hn1:(k:Int)< (r.keys.length:Int):=I
      generalize P5 s.ws N kk=V at *;cases d<;>by_cases p:0<r.found k<;>by_cases l:1<r.keys.length;all_goals
       go_wp2_with fail
       go_quiet (fail)
       go_wp2_with (at_builtin;refine wpList_append_own_at _ rfl (.tmp 114) (.tmp 116) 42 rfl w1.heap.size 62 ii _ 3 40 underlying42 mS hi0 hi1 hi2 rfl Yo (.slice av k SS) k (M7 s r k) rfl (World.ownsRow.alloc (w:=wc.drewN _) KO _) ⟨_,0,F⟩ 1 1 [.string kk,.int .i64 N,.string V] rfl rfl (p9 _ _ _ _ _) (by simp[Value.oneCell']) (by unfold maxLen;omega) I (by have:=vg.size;simp;omega) ?_;intro v2 w2 kA jm Ie hA2)
       go_roundw
       case rel=>exact⟨k+1,I,by rw[HS4.out];simp,by rw[HS3.out];simp[p,l],by go_num,Below.grown (hB.trans (vg.mono hsz)) (by have:=vg.size;omega) jm (λq hq=>(aQ KO q hq).1),by rw[HS5.out];exact kA⟩
       case measure=>simp[intOf];omega
    ·have ID:k=r.keys.length:=I
     subst ID;have hR:=HF.out.below hB;have g0:=(hB.cell (zb4 _ _ c0)).trans c0;have cm:wr.cell? ⟨b,1,F⟩=Y (.int .i64 s.mode):=hR.blk.cell (o:=1) rfl;obtain⟨g,cap,rfl,-,-,qO,-⟩:=aZ hO I;have HD:Hid (Rt wr s r g):=λj hj=>by
      have hq:∀t u,t<3->(UX s r j)[t]?=Y u->wr.cell? ⟨g,j*3+t,F⟩=Y u:=λt u ht hu=>by rw[qO _ I];exact(CY (f:=UX s r) (c:=3) (λ_=>rfl) hj ht).trans hu
      exact⟨hq 0 _ I rfl,hq 1 _ I rfl,hq 2 _ I rfl⟩
     have HE:Hid (Stp aJ τ w' τ wr):=HS.out.trans (lf hB);clear qO hO hcell;obtain⟨f1,hf1⟩:∃f1,iZ s r r.keys.length=f1:=⟨_,rfl⟩
     obtain⟨f2,TZ⟩:∃f2,ij r r.keys.length=f2:=⟨_,rfl⟩
     rw[hf1,TZ];have HM:Hid (iZ s r r.keys.length=f1/\ij r r.keys.length=f2):=⟨hf1,TZ⟩
     clear hf1 TZ;rcases(by omega:s.mode=1\/s.mode=2\/(s.mode≠1/\s.mode≠2))with m1|m1|⟨m1,m2⟩
     all_goals
      go_wp2_with fail
      try simp only[Exit.inBlock,Exit.then]
      refine bodyPost_ret (oF rfl _ _ _) rfl ?_
      refine⟨g,cap,?_,hR,HE.out,HD.out⟩
      rw[HM.out.1,HM.out.2]
      simp[*]
end
end
section
open Go Go.RowKit Go.MuLone
section
variable {w:af}
def kK:ah:=⟨#[107]⟩
def kV:ah:=⟨#[118]⟩
def t0:MS:={parts:=1,mode:=1,ws:= [],rs:= []}
def t1:MS:=(dR t0 [(kK,kV)]).2.2
def t2:MS:=(bS t1 1 0).2
def t3:MS:=(bN t2 1 0).2
def t4:MS:=(fZ t3 [kK]).2.2
def t5:MS:=(iP t4 1 kK).2
end
def vv:ah:=⟨#[118]⟩
section
variable {P:Nat}{M:Int}{L:List ah}{pf:Nat->Bool}{rs:List MR}
end
def fresh(τ:Nat->Tag)(n:Nat):Nat->Tag:=λk=>if n<=k then(0,0,0)else τ k
section
variable {w1 w w':af}{τ τ':Nat->Tag}{sb:Nat}{s s':MS}{A A':SA}{L:List ah}{ig onb:Nat}{f:Nat->Bool}
end
end
end Go.Proofs.YteoahlieielcdaaGreat
