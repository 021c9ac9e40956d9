import Derived.Test.YteoahlieielcdaaGreatPr21
set_option linter.all false
set_option maxHeartbeats 40000000
set_option maxRecDepth 100000
namespace Go.Proofs.YteoahlieielcdaaGreat
open Go Go.RowKit Go.MuLone
abbrev zce:=@RowKit.Below.heap_setCell
abbrev zcf:=@List.getElem?_eq_getElem
abbrev zcg:=@List.take_succ_eq_append_getElem
variable{s p b j q:Nat}{n:Int}{kv v:Value}{f cm:Nat->Bool}{m:MW}{lv:Nat->Nat}
section
theorem Stp.Oe{w0 w w2:World}{τ0 τ:Nat->Tag}{o:Obj}{rb:Option Nat}(h:Stp s τ0 w0 τ w)(hG:(w.alloc o).grownBy w2 rb)(hrb:∀k,rb=some k->w0.heap.size<=k):Stp s τ0 w0 (fresh τ w.heap.size) w2:=by
 have Og:w.heap.size<w2.heap.size:=by have:=hG.size;simp at this;omega
 refine⟨hG.os.trans h.os,hG.tape.trans h.tape,hG.output.trans h.output,by have:=h.size;omega,fun k hk=>?_,fun k hk hs=>?_⟩
 ·unfold fresh;rw[if_neg (by have:=h.size;omega)];exact h.tag k hk
 ·exact(hG.block k (by have:=h.size;simp;omega) (fun e=>by have:=hrb k e.symm;omega)).trans ((Below.heap_alloc _ _ _ (by have:=h.size;omega)).trans (h.block k hk hs))
theorem Stp.box{w0 w:World}{τ0 τ:Nat->Tag}(h:Stp s τ0 w0 τ w)(o:Obj):Stp s τ0 w0 (retag τ w.heap.size) (w.alloc o):=by
 refine⟨h.os,h.tape,h.output,by have:=h.size;simp;omega,fun k hk=>?_,fun k hk hs=>?_⟩
 ·unfold retag;rw[if_neg (by have:=h.size;omega)];exact h.tag k hk
 ·exact(Below.heap_alloc _ _ _ (by have:=h.size;omega)).trans (h.block k hk hs)
theorem AB(L:List ByteArray)(x:ByteArray):eB (L++ [x])=eB L++ [(x,EP)]:=by simp[eB]
def dU(L:List ByteArray)(n j:Nat):List KV:=aS (L.take j) n++eB (L.drop j)
theorem CI(L:List ByteArray)(n j:Nat):(dU L n j).length=L.length:=by simp[dU,aS,eB];omega
theorem AD(L:List ByteArray)(n:Nat):dU L n 0=eB L:=by simp[dU,aS]
theorem CJ(L:List ByteArray)(n:Nat):dU L n L.length=aS L n:=by simp[dU,eB]
theorem vU(a b:List KV):aY (a++b)=aY a++aY b:=by simp[aY]
theorem AE(L:List ByteArray)(n j:Nat)(x:ByteArray)(h:L[j]?=some x):(aY (dU L n j)).set (j*2+1) (.string (x++oM n))=aY (dU L n (j+1)):=by
 obtain⟨hj,rfl⟩:=List.getElem?_eq_some_iff.1 h;unfold dU;rw[zcg hj,ru,List.drop_eq_getElem_cons hj,List.append_assoc,vU,vU];have hl:(aY (aS (L.take j) n)).length=j*2:=by rw[pF];simp[aS];omega
 have e:aY (eB (L[j] :: L.drop (j+1)))=.string L[j] :: .string EP :: aY (eB (L.drop (j+1))):=rfl;rw[e,List.set_append_right _ _ (by rw[hl];omega),hl,show j*2+1-j*2=1 from by omega];simp[aY]
structure Ra(w0:World)(τ0:Nat->Tag)(w:World)(τ:Nat->Tag)(sb:Nat)(s:MS)(A:SA):Prop where
 rep:aW w τ 2 sb s A
 nG:Stp 2 τ0 w0 τ w
section
variable {w:World}{τ:Nat->Tag}{sb:Nat}{s:MS}{A:SA}{L:List ByteArray}
theorem yz{w w':World}{base:Nat}{e:TypeId}{size:Nat}{g n cap:Nat}{xs:List Value}(h:w.ownsRow base e size (.slice (some ⟨g,0,none⟩) n cap) n xs)(hb:w'.heap[g]?=w.heap[g]?):w'.ownsRow base e size (.slice (some ⟨g,0,none⟩) n cap) n xs:=
 ak h (fun k hk=>by cases hk;exact hb)
theorem Lm(hR:aW w τ 2 sb s A)(kg bC:Nat)(KQ:1<=L.length)(Hz:L.length<=8)(hnd:L.Nodup)(hg:∀x∈L,bK x=true)
 (hkc:∀(j:Nat) (x:ByteArray),L[j]?=some x->w.cell? ⟨kg,j,none⟩=some (.string x)) (tu:kg<w.heap.size) (Ej:(τ kg).1=0) (hlen:s.ws.length+2<=200):
 Calls Tryz.prog 19 #[ptr sb,.slice (some ⟨kg,0,none⟩) L.length bC] w fun e w'=>∃τ' A',e=.returned (.int .i64 ((s.ws.length:Int)+2))/\aW w' τ' 2 sb (Ei s L (dS s.parts L)) A'/\Stp 2 τ w τ' w':=by
 have HG:Hid (∀x∈L,bK x=true):=hg;have Zu:Hid (∀(j:Nat) (x:ByteArray),L[j]?=some x->w.cell? ⟨kg,j,none⟩=some (.string x)):=hkc;have HV:Hid (eC (aS L (s.ws.length+2))=0):=VD _ hnd hg KQ Hz;have HW:Hid (Ra w τ w τ sb s A):=⟨hR,Stp.refl _ _ _⟩
 have HP:Hid (1<=s.parts/\s.parts<=4):=⟨hR.ok.p1,hR.ok.p4⟩
 have HJ:Hid (∀(τr:Nat->Tag) (wr:World),Stp 2 τ w τr wr->∀(j:Nat) (x:ByteArray),L[j]?=some x->wr.cell? ⟨kg,j,none⟩=some (.string x)):=fun τr wr hs j x hx=>
  (World.cell?_of_block (w:=w) (a:=⟨kg,j,none⟩) (hs.block kg tu (by rw[Ej];decide))).trans (hkc j x hx)
 unfold ptr;clear hg hkc hR hnd Ej;obtain⟨ii,oG,Zv,Zw,Zx⟩:=info_parts J0;go_enter Tryz.func19,Tryz.ntmps19;go_wp2_with fail
 go_loopw [5,6] (fun s5 u wr=>∃(j:Nat) (τr:Nat->Tag),j<=L.length/\u=.int .i64 j/\wr.ownsRow w.heap.size 70 2 s5 j (aY (eB (L.take j)))/\Hid (∀k,s5.ownBlock=some k->τr k=(0,0,0))/\Hid (Ra w τ wr τr sb s A)) (fun _ u _=>L.length-(intOf u).toNat)
 case atStart=>exact⟨0,τ,Nat.zero_le _,rfl,World.ownsRow_nil _ _ _ _,(fun k e=>(by cases e)),HW⟩
 case round=>
  obtain⟨j,τr,hj,rfl,hrow,HT,HR⟩:=hrel;by_cases hlt:j<L.length
  ·have hx:L[j]?=some L[j]:=zcf hlt;have Rb:Hid (eB (L.take (j+1))=eB (L.take j)++ [(L[j],EP)]):=by unfold Hid;rw[zcg hlt,AB]
   have ck:=HJ.out τr wr HR.out.nG j _ hx;generalize L[j]=x at *;obtain⟨av,jS,hv⟩:=gH hrow;have adQ:=HR.out.nG.size;have HX:Hid (∀(w2:World) (v2:Value) (o:Obj),w2.ownsRow w.heap.size 70 2 v2 (j+1) (aY (eB (L.take j))++ [.string x,.string ⟨#[]⟩])->(wr.alloc o).grownBy w2 (Value.slice av j jS).ownBlock->(v2.ownBlock=(Value.slice av j jS).ownBlock\/v2.ownBlock=some (wr.alloc o).heap.size)->
    w2.ownsRow w.heap.size 70 2 v2 (j+1) (aY (eB (L.take (j+1))))/\(∀k,v2.ownBlock=some k->fresh τr wr.heap.size k=(0,0,0))/\Ra w τ w2 (fresh τr wr.heap.size) sb s A):=fun w2 v2 o a1 a2 a3=>by
    rw[hv]at hrow HT;refine⟨by rw[Rb.out,tA];exact a1,fun k hk=>?_,HR.out.rep.grown a2 HT.out (by decide),HR.out.nG.Oe a2 (fun k hk=>(aR hrow k hk).1)⟩;rcases a3 with e|e
    ·rw[hk]at e;have:=HT.out k e.symm;unfold fresh;split
     ·rfl
     ·exact this
    ·rw[hk]at e;have:=Option.some.inj e;simp at this;unfold fresh;rw[if_pos (by omega)]
   generalize aY (eB (L.take j))=xs at *;subst hv;clear Rb hx;go_wp2_with (at_builtin;refine wpList_append_own_at _ rfl (.tmp 23) (.tmp 29) 68 rfl w.heap.size 70 ii _ 2 32 Tryz.underlying68 oG Zv Zw Zx rfl (by decide) (.slice av j jS) j xs rfl (hrow.alloc _) ⟨_,0,none⟩ 1 1 [.string x,.string ⟨#[]⟩] rfl rfl (cell_two_new _ _ _ _) (by simp[Value.oneCell']) (by unfold maxLen;omega) (by omega) (by simp;omega) ?_;intro v2 w2 AA qO Oc hA2)
   obtain⟨r1,r2,r3⟩:=HX.out w2 v2 _ AA qO hA2;have R2:Hid _:=r2;have R3:Hid _:=r3;clear r2 r3 AA qO Oc hA2 HX;go_wp2_with fail
   go_roundw
   case rel=>exact⟨j+1,_,by omega,by go_num,r1,R2,R3⟩
   case measure=>simp[intOf];omega
  ·have XA:j=L.length:=by omega
   rw[XA,List.take_length]at hrow;clear XA;obtain⟨ig,Oh,hv,hi1,hi2,VF,-⟩:=dJ hrow (by omega);subst hv;have adR:ig<wr.heap.size:=(aR hrow ig rfl).2;have adS:w.heap.size<=ig:=(aR hrow ig rfl).1;have Zy:τr ig=(0,0,0):=HT.out ig rfl;have ES:Hid (wr.ownsRow w.heap.size 70 2 (.slice (some ⟨ig,0,none⟩) L.length Oh) L.length (aY (dU L (s.ws.length+2) 0))):=by rw[AD];exact hrow
   have c5:=Hy (HR.out.rep.box (.cells #[.string kx,.string EP] 70)) (some ⟨wr.heap.size,0,none⟩) 1 (L:= [(kx,EP)]) (by decide) (by decide) (by decide) (fun x hx=>by simp at hx;subst hx;decide) (EM (kx,EP)) (fun ib io e=>by cases e;rw[rW];decide);have HS5:Hid (Stp 2 τ w (retag τr wr.heap.size) (wr.alloc (.cells #[.string kx,.string EP] 70))):=HR.out.nG.box _;have HG5:Hid (retag τr wr.heap.size ig=(0,0,0)):=by unfold Hid retag;rw[if_neg (by omega)];exact Zy
   have Oi:Hid ((wr.alloc (.cells #[.string kx,.string EP] 70)).ownsRow w.heap.size 70 2 (.slice (some ⟨ig,0,none⟩) L.length Oh) L.length (aY (dU L (s.ws.length+2) 0))):=ES.out.alloc _;have Oj:ig< (wr.alloc (.cells #[.string kx,.string EP] 70)).heap.size:=by simp;omega
   obtain⟨m,hm⟩:∃m:Nat,(s.ws.length:Int)+1=(m:Int):=⟨s.ws.length+1,by omega⟩
   rw[adP (by omega),hm]at c5;unfold ptr at c5;have Zz:kx=⟨#[120]⟩:=rfl;have VG:EP=⟨#[]⟩:=rfl;rw[Zz,VG]at c5 HS5 Oi Oj;clear hrow VF ES;go_wp2_with fail
   refine c5.mono ?_;rintro e wb ⟨τb,B,rfl,ZA,hPb⟩;clear c5;have T5:Hid _:=yz (w':=wb) Oi.out (hPb.block ig Oj (by rw[HG5.out];decide));have HG6:Hid (τb ig=(0,0,0)):=(hPb.tag ig Oj).trans HG5.out;have VH:ig<wb.heap.size:=Nat.lt_of_lt_of_le Oj hPb.size;have HS6:Hid (Stp 2 τ w τb wb):=HS5.out.trans hPb;clear hPb HS5 HG5 Oi Oj Zy adR HR HT;have c6:=RV ZA ((s.ws.length:Int)+1) (by omega) (by omega);rw[Ll,hm]at c6;unfold ptr at c6;clear ZA;go_wp2_with fail
   refine c6.mono ?_;rintro e wc ⟨C,rfl,ZB,Nb⟩;clear c6;have T6:Hid _:=yz (w':=wc) T5.out (Nb.block ig VH (by rw[HG6.out];decide));have HG7:Hid (τb ig=(0,0,0)):=HG6;have adW:ig<wc.heap.size:=Nat.lt_of_lt_of_le VH Nb.size;have HS7:Hid (Ra w τ wc τb sb (xS s) C):=⟨ZB,HS6.out.trans Nb⟩
   clear Nb ZB HS6 T5 HG6 VH;go_wp2_with fail
   go_loopw [10] (fun u wr=>∃(j:Nat),j<=L.length/\u=.int .i64 j/\Hid (wr.ownsRow w.heap.size 70 2 (.slice (some ⟨ig,0,none⟩) L.length Oh) L.length (aY (dU L (s.ws.length+2) j)))/\ig<wr.heap.size/\Hid (Ra w τ wr τb sb (xS s) C)) (fun u _=>L.length-(intOf u).toNat)
   case atStart=>exact⟨0,Nat.zero_le _,rfl,T6,adW,HS7⟩
   case round=>
    rename World=>Rc
    obtain⟨j,hj,rfl,ES,adX,HR⟩:=hrel;by_cases hlt:j<L.length
    ·have hx:L[j]?=some L[j]:=zcf hlt;have HST:Hid _:=AE L (s.ws.length+2) j _ hx;have ck:=HJ.out τb Rc HR.out.nG j _ hx;have hxz:=dG (HG.out _ (List.getElem_mem hlt));have yc:kg<Rc.heap.size:=Nat.lt_of_lt_of_le tu HR.out.nG.size;generalize L[j]=x at *;have q0:(j:Int)< (L.length:Int):=by omega
     have q1:(0:Int)<=(j:Int):=by omega
     have q2:j<L.length:=hlt;have cd:=yx (w:=Rc.drew) (s.ws.length+2) (by omega) (by omega);rw[show ((s.ws.length+2:Nat):Int)=(m:Int)+1 from by omega,<-IntWalk.i64_in ((m:Int)+1) (by omega)]at cd;have hdz:=uW (s.ws.length+2);generalize oM (s.ws.length+2)=dg at *;have fz:=ES.out.frozenAt (j*2+1);clear hx;go_wp2_with fail
     have hxd:x.size+dg.size<=9223372036854775807:=by omega
     have yA:∀W:World,(Op.stringOp BinOp.add x dg).run Tryz.prog W=.ok (.string (x++dg)) W:=by intro W;go_simp
     have hmid:(aY (dU L (s.ws.length+2) j)).length=L.length*2:=by rw[pF,CI]
     obtain⟨old,hold⟩:∃old,(aY (dU L (s.ws.length+2) j))[j*2+1]?=some old:=⟨_,zcf (by rw[hmid];omega)⟩
     have ad0:Hid ((aY (dU L (s.ws.length+2) j))[j*2+1]?=some old):=hold;clear hmid hold;go_region_held3 (fun W=>W.cell? ⟨kg,j,none⟩=some (.string x)) (first|(simp[*];done)|(rw[fM (by simp only;omega)];assumption)) ((go_at_call 25;refine cd.mono ?_;rintro e w6 ⟨rfl,BH⟩;have x6:=(BH.cell (p:=⟨kg,j,none⟩) yc).trans ck;have HR6:=yz (w':=w6) ES.out (BH.block ig adX);have fz6:=HR6.frozenAt (j*2+1);have y6:=(HR6.cellAt (j*2+1) (by omega)).trans ad0.out))
     have ZC:Hid ((w6.setCell ⟨ig,j*2+1,none⟩ (.string (x++dg))).ownsRow w.heap.size 70 2 (.slice (some ⟨ig,0,none⟩) L.length Oh) L.length (aY (dU L (s.ws.length+2) (j+1)))):=by have:=(HR6.stored (j*2+1) (.string (x++dg))).1;rw[HST.out]at this;exact this
     have HE':Hid (Ra w τ (w6.setCell ⟨ig,j*2+1,none⟩ (.string (x++dg))) τb sb (xS s) C):=by
      have ZD:Below Rc.heap.size Rc w6:=⟨BH.os,BH.tape,BH.output,BH.size,BH.block⟩
      refine⟨(HR.out.rep.below ZD).frame (fun k hk e=>⟨zce _ _ _ _ (fun e'=>?_),rfl⟩),(HR.out.nG.trans (iw ZD)).UM (a:=⟨ig,j*2+1,none⟩) adS _⟩;have e'':k=ig:=e';rw[e'',HG7.out]at e;exact absurd e (by decide)
     have ad1:ig< (w6.setCell ⟨ig,j*2+1,none⟩ (.string (x++dg))).heap.size:=by have:=BH.size;have h2:Rc.drew.heap.size=Rc.heap.size:=rfl;simp[World.setCell];omega
     clear yA HR6 fz6 y6 x6 BH ES HR HST cd fz;go_wp2_with fail
     go_roundw
     case rel=>exact⟨j+1,by omega,by go_num,ZC,ad1,HE'⟩
     case measure=>simp[intOf];omega
    ·have XA:j=L.length:=by omega
     subst XA;have J1:(aS L (s.ws.length+2)).length=L.length:=by simp[aS]
     have HIt:Hid (xH Rc (some ⟨ig,0,none⟩) (aS L (s.ws.length+2))):=fun k x hx=>by
      have hr:=ES.out;rw[CJ]at hr;obtain⟨e1,e2⟩:=nT _ k x hx;have hk:=aE hx;rw[J1]at hk;refine⟨ig,0,rfl,?_,?_⟩
      ·rw[show 0+k*2=k*2 from by omega,hr.cellAt (k*2) (by omega),e1]
      ·rw[show 0+k*2+1=k*2+1 from by omega,hr.cellAt (k*2+1) (by omega),e2]
     have ZE:xI (aS L (s.ws.length+2)):=fun x hx=>by have:=gO ((vV HV.out).2.2 x hx);exact⟨by unfold maxLen;omega,by unfold maxLen;omega⟩
     have c4:=Hy HR.out.rep (some ⟨ig,0,none⟩) Oh (L:=aS L (s.ws.length+2)) (by rw[J1];unfold maxLen;omega) (by rw[J1];exact hi1) hi2 ZE HIt.out (fun ib io e=>by cases e;rw[HG7.out];decide);rw[J1,Od (by omega) HV.out,show (s.ws.length:Int)+2=(m:Int)+1 from by omega]at c4;unfold ptr at c4;clear ZE ES;go_wp2_with fail
     refine c4.mono ?_;rintro e wd ⟨τd,D,rfl,ZF,Q9⟩;clear c4;have HD:Hid (Ra w τ wd τd sb (Ei s L (fun _=>false)) D):=⟨ZF,HR.out.nG.trans Q9⟩
     clear ZF Q9 HR HIt T6 HS7;go_wp2_with fail
     go_loopw [13] (fun u wr=>∃(j:Nat) (A':SA),j<=L.length/\u=.int .i64 j/\Hid (Ra w τ wr τd sb (Ei s L (dS s.parts (L.take j))) A')) (fun u _=>L.length-(intOf u).toNat)
     case atStart=>exact⟨0,D,Nat.zero_le _,rfl,by rw[List.take_zero,uU];exact HD⟩
     case round=>
      rename World=>XB
      obtain⟨j,A3,hj,rfl,HR⟩:=hrel;by_cases hlt:j<L.length
      ·have hx:L[j]?=some L[j]:=zcf hlt;have Rb:Hid (L.take (j+1)=L.take j++ [L[j]]):=zcg hlt;have HM:Hid (L[j]∈L):=List.getElem_mem hlt;have ck:=HJ.out τd XB HR.out.nG j _ hx;have yB:=HG.out _ (List.getElem_mem hlt);have hxz:=dG yB;generalize L[j]=x at *;have cp:=T7 HR.out.rep x (by unfold maxLen;omega);rw[yB]at cp;obtain⟨hp1,HY⟩:=HP.out;obtain⟨q1,q2⟩:=eM (s.parts:Int) x (by omega);obtain⟨p,hp⟩:∃p:Nat,partOf (s.parts:Int) x=p:=⟨(partOf (s.parts:Int) x).toNat,by omega⟩
       have hpP:p<4:=by omega
       simp only[if_true]at cp;rw[show (Ei s L (dS s.parts (L.take j))).parts=s.parts from rfl,hp]at cp;have HON:Hid (dS s.parts (L.take (j+1))=put (dS s.parts (L.take j)) p):=by unfold Hid;rw[Rb.out];exact rX hp
       have HPr:Hid _:=RU (s:=s) (L:=L) (pf:=dS s.parts (L.take j)) hlen HM.out hp;unfold ptr at cp;clear hp q1 q2 hx hp1 HY;go_wp2_with fail
       refine cp.mono ?_;rintro e we ⟨rfl,hBe⟩;clear cp;have hRe:=HR.out.rep.below hBe;have HSe:Hid (Stp 2 τ w τd we):=HR.out.nG.trans (iw hBe);have cq:=EN hRe ((s.ws.length:Int)+2) p (by omega) (by omega) (by omega) (by omega);rw[HPr.out,<-HON.out,show (s.ws.length:Int)+2=(m:Int)+1 from by omega]at cq;unfold ptr at cq;clear HR hBe hRe HPr ck;cases hc:dS s.parts (L.take j) p with
       |true=>
        rw[hc]at cq;simp only[if_true]at cq;clear hc;go_wp2_with fail
        refine cq.mono ?_;rintro e wf ⟨F,rfl,ZG,RP⟩;clear cq;have HF:Hid (Ra w τ wf τd sb (Ei s L (dS s.parts (L.take (j+1)))) F):=⟨ZG,HSe.out.trans RP⟩
        clear ZG RP;go_wp2_with fail
        go_roundw
        case rel=>exact⟨j+1,F,by omega,by go_num,HF⟩
        case measure=>simp[intOf];omega
       |false=>
        rw[hc]at cq;simp only[Bool.false_eq_true,if_false]at cq;clear hc;go_wp2_with fail
        refine cq.mono ?_;rintro e wf ⟨F,rfl,ZG,RP⟩;clear cq;have HF:Hid (Ra w τ wf τd sb (Ei s L (dS s.parts (L.take (j+1)))) F):=⟨ZG,HSe.out.trans RP⟩
        clear ZG RP;go_wp2_with fail
        go_roundw
        case rel=>exact⟨j+1,F,by omega,by go_num,HF⟩
        case measure=>simp[intOf];omega
      ·have XA:j=L.length:=by omega
       rw[XA,List.take_length]at HR;go_wp2_with fail
       go_ret;exact⟨τd,A3,iu (by omega),HR.out.rep,HR.out.nG⟩
end
end
section
def iy(n:Int)(kv:Value)(f:Nat->Bool):Array Value:=#[.int .i64 n,kv,.bool (f 0),.bool (f 1),.bool (f 2),.bool (f 3)]
theorem yC(hp:p<4):(iy n kv f)[2+p]?=some (.bool (f p)):=by
 match p,hp with
 | 0,_=>rfl
 | 1,_=>rfl
 | 2,_=>rfl
 | 3,_=>rfl
theorem ET(hp:p<4):(iy n kv f).setIfInBounds (2+p) (.bool true)=iy n kv (put f p):=by
 match p,hp with
 | 0,_=>simp[iy,put]
 | 1,_=>simp[iy,put]
 | 2,_=>simp[iy,put]
 | 3,_=>simp[iy,put]
def Re(s:MS)(n:Int)(m:MW)(p:Nat):MS:=wY s n {m with comm:=put m.comm p}
theorem Lp{s:MS}(h:bF s n=some m):s.ws[(n-1).toNat]?=some m/\m.ed=false/\1<=n/\n<=s.ws.length:=by
 unfold bF at h;split at h
 ·cases h
 ·rename_i hb;split at h
  ·rename_i m' hm;split at h
   ·cases h
   ·rename_i hc;cases h;exact⟨hm,by simpa using hc,by omega,by omega⟩
  ·cases h
theorem Lq{s:MS}(hf:bF s n=some m)(ho:az s.parts m.items p=true)(ha:je s.parts m=true):eH s n p=(if m.comm p then 10 else 0,Re s n m p):=by
 unfold eH;rw[hf];simp only[ho,ha,Bool.true_eq_false,if_false,Int.toNat_natCast];cases hc:m.comm p with
 |true=>
  have e1:put m.comm p=m.comm:=by funext q;unfold put;split<;>simp_all
  have:Re s n m p=s:=by
   unfold Re wY;rw[e1];have:=(Lp hf).1;obtain⟨hk,hm⟩:=List.getElem?_eq_some_iff.1 this;have e2:s.ws.set (n-1).toNat m=s.ws:=by rw[<-hm];simp
   show {s with ws:=s.ws.set (n-1).toNat m}=s;rw[e2]
  simp[this]
 |false=>simp[Re]
section
variable {w:World}{τ:Nat->Tag}{sb:Nat}{s:MS}{A:SA}
theorem EU(hR:aW w τ 2 sb s A)(xb kb:Nat)(X:Array Value)(hX:aT w xb X 32)(hX0:X[0]?=some (ptr sb))(hxt:(τ xb).1≠2)(n:Nat)(hn:n<=1000)(kv:Value)(f:Nat->Bool)(hK:aT w kb (iy n kv f) 48)(Ej:(τ kb).1≠2)
 (key:ByteArray) (hg:bK key=true) (p:Nat) (hp:partOf s.parts key=p) {m:MW} (hf:bF s n=some m) (ho:az s.parts m.items p=true) (ha:je s.parts m=true) (Rz:m.comm p=f p):
 Calls Tryz.prog 20 #[ptr xb,ptr kb,.string key] w fun e w'=>∃A' w1,e=.returned (.bool true)/\aW w1 τ 2 sb (Re s n m p) A'/\Stp 2 τ w τ w1/\w'=w1.setCell ⟨kb,2+p,none⟩ (.bool true):=by
 have hp1:=hR.ok.p1;have HY:=hR.ok.p4;obtain⟨q1,q2⟩:=eM (s.parts:Int) key (by omega);have hpP:p<4:=by omega
 have hkz:=dG hg;have cp:=T7 hR key (by unfold maxLen;omega);rw[hg,hp]at cp;simp only[if_true]at cp;have hCM:=Lq hf ho ha;rw[Rz]at hCM;have HCM:Hid (eH s n p=(if f p then 10 else 0,Re s n m p)):=hCM;have HR:Hid (aW w τ 2 sb s A):=hR;have HX:Hid (aT w xb X 32):=hX;have HK:Hid (aT w kb (iy n kv f) 48):=hK;have x0:w.cell? ⟨xb,0,none⟩=some (.pointer (some ⟨sb,0,none⟩)):=hX.cell hX0;have HX0:Hid (X[0]?=some (.pointer (some ⟨sb,0,none⟩))):=hX0;unfold ptr at cp⊢;clear hR hf ho ha Rz hCM hp q1 q2 hg hX hK hX0;go_enter Tryz.func20,Tryz.ntmps20;go_wp2_with fail
 refine cp.mono ?_;rintro e w1 ⟨rfl,iM⟩;clear cp x0;have hR1:=HR.out.below iM;have oN:Stp 2 τ w τ w1:=iw iM;have hx1:aT w1 xb X 32:=HX.out.of_eq (iM.block xb HX.out.lt);have hk1:aT w1 kb (iy n kv f) 48:=HK.out.of_eq (iM.block kb HK.out.lt);have x1:w1.cell? ⟨xb,0,none⟩=some (.pointer (some ⟨sb,0,none⟩)):=hx1.cell HX0.out;have k1:w1.cell? ⟨kb,0,none⟩=some (.int .i64 (n:Int)):=hk1.cell (o:=0) rfl;have ZH:aW w1.drew τ 2 sb s A:=hR1.below ((Below.refl w1.heap.size w1).drew);have c2:=JZ ZH (n:Int) (p:Int) (by omega) (by omega) (by omega) (by omega);rw[HCM.out]at c2;unfold ptr at c2;have HS1:Hid (Stp 2 τ w τ w1):=oN;have HX1:Hid (aT w1 xb X 32):=hx1;have XC:Hid (aT w1 kb (iy n kv f) 48):=hk1;have hxl:=hx1.lt;have tu:=hk1.lt;clear hR1 ZH oN hx1 hk1 iM;cases Na:f p with
 |true=>
  rw[Na]at c2;simp only[if_true]at c2;have HFP:Hid (f p=true):=Na;clear Na;go_wp2_with fail
  go_region_held3 (fun W=>W.cell? ⟨xb,0,none⟩=some (.pointer (some ⟨sb,0,none⟩))/\W.cell? ⟨kb,0,none⟩=some (.int .i64 (n:Int))) (simp[*]) ((go_at_call 28;refine c2.mono ?_;rintro e w3 ⟨A3,rfl,RY,CK⟩;have RK:=HX1.out.of_eq (CK.block xb hxl hxt);have RZ:=XC.out.of_eq (CK.block kb tu Ej);have y1:=RK.cell HX0.out;have y2:=RZ.cell (o:=0) (v:=.int .i64 (n:Int)) rfl))
  have on3:=RZ.cell (yC hpP);have fz3:=RZ.frozen (2+p);rw[HFP.out]at on3;have HR3:Hid (aW w3 τ 2 sb (Re s n m p) A3):=RY;have HS3:Hid (Stp 2 τ w τ w3):=HS1.out.trans ⟨CK.os,CK.tape,CK.output,CK.size,CK.tag,CK.block⟩;have g2:(p:Int)<4:=by omega
  clear RY CK RK RZ y1 y2 c2;go_wp2_with fail
  go_ret;exact⟨A3,w3,rfl,HR3.out,HS3.out,rfl⟩
 |false=>
  rw[Na]at c2;simp only[Bool.false_eq_true,if_false]at c2;have HFP:Hid (f p=false):=Na;clear Na;go_wp2_with fail
  go_region_held3 (fun W=>W.cell? ⟨xb,0,none⟩=some (.pointer (some ⟨sb,0,none⟩))/\W.cell? ⟨kb,0,none⟩=some (.int .i64 (n:Int))) (simp[*]) ((go_at_call 28;refine c2.mono ?_;rintro e w3 ⟨A3,rfl,RY,CK⟩;have RK:=HX1.out.of_eq (CK.block xb hxl hxt);have RZ:=XC.out.of_eq (CK.block kb tu Ej);have y1:=RK.cell HX0.out;have y2:=RZ.cell (o:=0) (v:=.int .i64 (n:Int)) rfl))
  have on3:=RZ.cell (yC hpP);have fz3:=RZ.frozen (2+p);rw[HFP.out]at on3;have HR3:Hid (aW w3 τ 2 sb (Re s n m p) A3):=RY;have HS3:Hid (Stp 2 τ w τ w3):=HS1.out.trans ⟨CK.os,CK.tape,CK.output,CK.size,CK.tag,CK.block⟩;have g2:(p:Int)<4:=by omega
  clear RY CK RK RZ y1 y2 c2;go_wp2_with fail
  go_ret;exact⟨A3,w3,rfl,HR3.out,HS3.out,rfl⟩
end
end
section
def El(P b n:Nat):MW:={items:=aS (aA b) n,dL:=dS P (aA b),comm:=dS P (aA b),ed:=false}
def uZ(P:Nat)(bf:Nat->Nat):Nat->List MW
 | 0=> []
 |k+1=>uZ P bf k++ [xW,El P (bf k) (2*k+2)]
def nJ(P:Nat)(M:Int)(bf:Nat->Nat)(k:Nat)(rs:List MR):MS:={parts:=P,mode:=M,ws:=uZ P bf k,rs:=rs}
def lQ(bf:Nat->Nat)(x:ByteArray):Nat->Nat
 | 0=>0
 |k+1=>if dX (aA (bf k)) x=true then 2*k+2 else lQ bf x k
def wZ(bf:Nat->Nat)(j:Nat):Nat->Nat
 | 0=>0
 |k+1=>if jv (bf k) j=true then 2*k+2 else wZ bf j k
def Nd(P:Nat)(M:Int)(bf:Nat->Nat)(k j:Nat):MS:={parts:=P,mode:=M,ws:=uZ P bf k++ [xW,{El P (bf k) (2*k+2)with comm:=dS P ((aA (bf k)).take j)}],rs:= []}
section
variable {P:Nat}{M:Int}{bf:Nat->Nat}{k:Nat}{rs:List MR}
theorem gT:∀k,(uZ P bf k).length=2*k
 | 0=>rfl
 |k+1=>by simp[uZ,gT k];omega
theorem tF:(nJ P M bf k rs).ws.length=2*k:=gT k
theorem xJ:∀{k j:Nat},j<k->(uZ P bf k)[2*j]?=some xW/\(uZ P bf k)[2*j+1]?=some (El P (bf j) (2*j+2))
 | 0,j,h=>by omega
 |k+1,j,h=>by
  unfold uZ;by_cases e:j=k
  ·subst e;rw[List.getElem?_append_right (by rw[gT];omega),List.getElem?_append_right (by rw[gT];omega),gT];simp
  ·obtain⟨h1,h2⟩:=xJ (show j<k by omega);rw[List.getElem?_append_left (by rw[gT];omega),List.getElem?_append_left (by rw[gT];omega)];exact⟨h1,h2⟩
theorem OE:Ei (nJ P M bf k []) (aA (bf k)) (dS P (aA (bf k)))=Nd P M bf k 0:=by unfold Ei Nd;rw[tF];simp[nJ,T4,El,uU]
theorem So:Nd P M bf k (aA (bf k)).length=nJ P M bf (k+1) []:=by show ({parts:=P,mode:=M,ws:=uZ P bf k++ [xW,{El P (bf k) (2*k+2)with comm:=dS P ((aA (bf k)).take (aA (bf k)).length)}],rs:= []}:MS)=_;rw[List.take_length];rfl
theorem Sp(j:Nat):bF (Nd P M bf k j) ((2*k+2:Nat):Int)=some {El P (bf k) (2*k+2)with comm:=dS P ((aA (bf k)).take j)}:=by
 have:=jW (s:=Nd P M bf k j) (i:=2*k+1) (m:={El P (bf k) (2*k+2)with comm:=dS P ((aA (bf k)).take j)}) (by show (uZ P bf k++_)[2*k+1]?=_;rw[List.getElem?_append_right (by rw[gT];omega),gT,show 2*k+1-2*k=1 by omega];rfl) rfl
 rw[show ((2*k+2:Nat):Int)=((2*k+1:Nat):Int)+1 by omega];exact this
theorem Z8{n:Nat}{x:ByteArray}(hx:x∈aA b)(hp:partOf P x=p):az P (El P b n).items p=true:=by show az P (aS (aA b) n) p=true;rw[rZ,List.any_eq_true];exact⟨x,hx,by simpa using hp⟩
theorem VV{n:Nat}:je P {El P b n with comm:=cm}=true:=by simp only[je,List.all_eq_true,List.mem_range];intro p _;show (!az P (aS (aA b) n) p || dS P (aA b) p)=true;rw[rZ,yy];cases (aA b).any fun x=>decide (partOf P x=(p:Int)) <;>rfl
theorem LH{x:ByteArray}(hx:(aA (bf k))[j]?=some x)(hp:partOf P x=p):Re (Nd P M bf k j) ((2*k+2:Nat):Int) {El P (bf k) (2*k+2)with comm:=dS P ((aA (bf k)).take j)} p=Nd P M bf k (j+1):=by obtain⟨hj,rfl⟩:=List.getElem?_eq_some_iff.1 hx;unfold Re;rw[C1,show (((2*k+2:Nat):Int)-1).toNat=2*k+1 by omega];unfold setAt Nd;simp only;rw[List.set_append_right _ _ (by rw[gT];omega),gT,show 2*k+1-2*k=1 by omega,zcg hj,rX hp];rfl
theorem Ka{x:ByteArray}(hP:0<P)(hx:x∈aA b):dS P (aA b) (partOf (P:Int) x).toNat=true:=by rw[yy,List.any_eq_true];refine⟨x,hx,?_⟩;have:=eM (P:Int) x (by omega);simp only[decide_eq_true_eq];omega
theorem OG(hP:0<P){x:ByteArray}(hx:x≠kx):∀n,n<=k->pJ P (uZ P bf k) x (2*n)=lQ bf x n:=by
 intro n;induction n with
 |zero=>intro _;rfl
 |succ n ih=>
  intro hn;obtain⟨h1,h2⟩:=xJ (P:=P) (bf:=bf) (show n<k by omega);rw[show 2*(n+1)=2*n+1+1 from by omega];have hx0:aH xW.items x=false:=by show aH [(kx,EP)] x=false;simp[aH,Ne.symm hx]
  have hy:aH (El P (bf n) (2*n+2)).items x=dX (aA (bf n)) x:=rY _ _ _;simp only[pJ,h1,h2,hx0,hy,Bool.false_and,Bool.false_eq_true,if_false,lQ];cases hk:dX (aA (bf n)) x with
  |false=>simp only[Bool.false_and,Bool.false_eq_true,if_false];exact ih (by omega)
  |true=>
   have:(El P (bf n) (2*n+2)).comm (partOf (P:Int) x).toNat=true:=Ka hP (jE.1 hk);simp only[this,Bool.and_self,if_true]
theorem Im(hP:0<P){x:ByteArray}(hx:x≠kx):aU (nJ P M bf k rs) x=lQ bf x k:=by unfold aU;rw[tF];exact OG hP hx k (Nat.le_refl _)
theorem pK(x:ByteArray):∀k,lQ bf x k≠0->∃j,j<k/\lQ bf x k=2*j+2/\x∈aA (bf j)
 | 0,h=>absurd rfl h
 |k+1,h=>by
  unfold lQ at h⊢;by_cases e:dX (aA (bf k)) x=true
  ·rw[if_pos e];exact⟨k,by omega,rfl,jE.1 e⟩
  ·rw[if_neg e]at h⊢;obtain⟨j,h1,h2,h3⟩:=pK x k h;exact⟨j,by omega,h2,h3⟩
theorem Kb{x:ByteArray}:∀{k j:Nat},j<k->x∈aA (bf j)->2*j+2<=lQ bf x k
 | 0,j,h,_=>by omega
 |k+1,j,h,hx=>by
  unfold lQ;by_cases e:dX (aA (bf k)) x=true
  ·rw[if_pos e];omega
  ·rw[if_neg e];have:j≠k:=fun e'=>by subst e';exact e (jE.2 hx)
   exact Kb (by omega) hx
theorem Ov(x:ByteArray):∀k,lQ bf x k<=2*k
 | 0=>Nat.le_refl _
 |k+1=>by
  unfold lQ;split
  ·omega
  ·have:=Ov x k;omega
end
end
section
def AF(lv:Nat->Nat):Array Value:=#[.int .i64 (lv 0),.int .i64 (lv 1),.int .i64 (lv 2),.int .i64 (lv 3),.int .i64 (lv 4),.int .i64 (lv 5)]
theorem J7(hj:j<6):(AF lv)[j]?=some (.int .i64 (lv j)):=by
 match j,hj with
 | 0,_| 1,_| 2,_| 3,_| 4,_| 5,_=>rfl
theorem OH{n:Nat}(hj:j<6):(AF lv).setIfInBounds j (.int .i64 n)=AF (fun i=>if i=j then n else lv i):=by
 match j,hj with
 | 0,_| 1,_| 2,_| 3,_| 4,_| 5,_=>rfl
structure su(w0 w:World)(τ:Nat->Tag)(sb xb lb:Nat)(s:MS)(A:SA)(lv:Nat->Nat):Prop where
 rep:aW w τ 2 sb s A
 env:Env w0 w τ
 x:aT w xb #[ptr sb,dV,dV] 32
 C2:τ xb=(1,21,0)
 last:aT w lb (AF lv) 64
 jH:τ lb=(1,23,0)
structure LI(w0 w:World)(τ:Nat->Tag)(sb xb lb:Nat)(s:MS)(A:SA)(lv:Nat->Nat)(kb n:Nat)(kv:Value)(f:Nat->Bool):Prop extends su w0 w τ sb xb lb s A lv where
 kn:aT w kb (iy (n:Int) kv f) 48
 vZ:τ kb=(1,20,0)
section
variable {w0 w w':World}{τ τ':Nat->Tag}{sb xb lb kb n:Nat}{s s':MS}{A A':SA}{lv:Nat->Nat}{kv:Value}{f:Nat->Bool}
theorem su.frame(h:su w0 w τ sb xb lb s A lv)(hR:aW w' τ' 2 sb s' A')(hE:Env w0 w' τ')(hb:∀q,q<w.heap.size->(τ q).1=1->w'.heap[q]?=w.heap[q]? /\τ' q=τ q):su w0 w' τ' sb xb lb s' A' lv:=
 ⟨hR,hE,h.x.of_eq (hb xb h.x.lt (by rw[h.C2])).1,by rw[(hb xb h.x.lt (by rw[h.C2])).2,h.C2],h.last.of_eq (hb lb h.last.lt (by rw[h.jH])).1,by rw[(hb lb h.last.lt (by rw[h.jH])).2,h.jH]⟩
theorem LI.frame(h:LI w0 w τ sb xb lb s A lv kb n kv f)(hR:aW w' τ' 2 sb s' A')(hE:Env w0 w' τ')(hb:∀q,q<w.heap.size->(τ q).1=1->w'.heap[q]?=w.heap[q]? /\τ' q=τ q):LI w0 w' τ' sb xb lb s' A' lv kb n kv f:=
 ⟨h.tosu.frame hR hE hb,h.kn.of_eq (hb kb h.kn.lt (by rw[h.vZ])).1,by rw[(hb kb h.kn.lt (by rw[h.vZ])).2,h.vZ]⟩
theorem su.step(h:su w0 w τ sb xb lb s A lv)(hR:aW w' τ' 2 sb s' A')(hs:Stp 2 τ w τ' w'):su w0 w' τ' sb xb lb s' A' lv:=
 h.frame hR (h.env.nG hs (by decide)) (fun q hq e=>⟨hs.block q hq (by rw[e];decide),hs.tag q hq⟩)
theorem LI.step(h:LI w0 w τ sb xb lb s A lv kb n kv f)(hR:aW w' τ' 2 sb s' A')(hs:Stp 2 τ w τ' w'):LI w0 w' τ' sb xb lb s' A' lv kb n kv f:=
 h.frame hR (h.env.nG hs (by decide)) (fun q hq e=>⟨hs.block q hq (by rw[e];decide),hs.tag q hq⟩)
theorem su.fresh(h:su w0 w τ sb xb lb s A lv)(hB:Below w.heap.size w w'):su w0 w' (fresh τ w.heap.size) sb xb lb s A lv:=by
 have hf:∀q,q<w.heap.size->Go.Proofs.YteoahlieielcdaaGreat.fresh τ w.heap.size q=τ q:=fun q hq=>by unfold Go.Proofs.YteoahlieielcdaaGreat.fresh;rw[if_neg (by omega)]
 refine h.frame (h.rep.frame (fun q hq _=>⟨hB.block q hq,hf q hq⟩)) ⟨h.env.below.trans (hB.mono h.env.below.size),fun q hq=>?_⟩ (fun q hq _=>⟨hB.block q hq,hf q hq⟩);have:=h.env.below.size;rw[hf q (by omega)];exact h.env.yt q hq
theorem VW(hE:Env w0 w τ)(ht:(τ q).1=1):w0.heap.size<=q:=by
 rcases Nat.lt_or_ge q w0.heap.size with e|e
 ·rw[hE.yt q e]at ht;cases ht
 ·exact e
theorem su.OI(h:su w0 w τ sb xb lb s A lv){o:Nat}(hq:(τ q).1=1):aW (w.setCell ⟨q,o,none⟩ v) τ 2 sb s A/\Env w0 (w.setCell ⟨q,o,none⟩ v) τ:=by refine⟨h.rep.frame (fun k hk e=>⟨zce _ _ _ _ (fun e'=>?_),rfl⟩),⟨h.env.below.setCell (p:=⟨q,o,none⟩) (VW h.env hq) _,h.env.yt⟩⟩;have e1:k=q:=e';rw[e1,hq]at e;cases e
theorem LI.known(h:LI w0 w τ sb xb lb s A lv kb n kv f)(hp:p<4):LI w0 (w.setCell ⟨kb,2+p,none⟩ (.bool true)) τ sb xb lb s A lv kb n kv (put f p):=by
 obtain⟨h1,h2⟩:=h.tosu.OI (o:=2+p) (v:=.bool true) (q:=kb) (by rw[h.vZ]);have hne:∀{q:Nat} {g:Tag},τ q=g->g≠(1,20,0)->(w.setCell ⟨kb,2+p,none⟩ (.bool true)).heap[q]?=w.heap[q]? :=fun{q g} ht hg=>zce _ _ _ _ (fun e=>hg (by have e':q=kb:=e;rw[<-ht,e',h.vZ]))
 refine⟨⟨h1,h2,h.x.of_eq (hne h.C2 (by simp)),h.C2,h.last.of_eq (hne h.jH (by simp)),h.jH⟩,?_,h.vZ⟩;have:=h.kn.set (2+p) (.bool true);rw[ET hp]at this;exact this
theorem su.put(h:su w0 w τ sb xb lb s A lv){m:Nat}(hj:j<6):su w0 (w.setCell ⟨lb,j,none⟩ (.int .i64 m)) τ sb xb lb s A (fun i=>if i=j then m else lv i):=by
 obtain⟨h1,h2⟩:=h.OI (o:=j) (v:=.int .i64 m) (q:=lb) (by rw[h.jH]);have hne:(w.setCell ⟨lb,j,none⟩ (.int .i64 m)).heap[xb]?=w.heap[xb]? :=zce _ _ _ _ (fun e=>by have e':xb=lb:=e;have:=h.C2;rw[e',h.jH]at this;cases this)
 refine⟨h1,h2,h.x.of_eq hne,h.C2,?_,h.jH⟩;have:=h.last.set j (.int .i64 m);rw[OH hj]at this;exact this
end
end
section
theorem LJ:∀b,b<64->∀x∈aA b,x≠kx:=by decide+kernel
def gR(L:List ByteArray)(v:ByteArray->Nat)(m:Nat):MR:={keys:=L,asked:=fun q=>decide (m<=q)&& decide (q<L.length),found:=fun q=>if m<=q/\q<L.length then v (L.getD q ⟨#[]⟩)else 0,fin:=false}
section
variable {P:Nat}{M:Int}{bf:Nat->Nat}{k:Nat}{L:List ByteArray}{v:ByteArray->Nat}
theorem OJ:gq L=gR L v L.length:=by
 unfold gq gR;congr 1
 ·funext q;by_cases h:L.length<=q
  ·simp[Nat.not_lt.2 h]
  ·simp[h]
 ·funext q;rw[if_neg (by omega)]
theorem Sq(hm:iH L=0):py (nJ P M bf k []) L=(1,0,nJ P M bf k [gR L v L.length]):=by unfold py;rw[hm];rw[<-OJ];rfl
theorem VX{m:Nat}{x:ByteArray}(hnd:L.Nodup)(hx:L[m]?=some x)(hv:aU (nJ P M bf k [gR L v (m+1)]) x=v x):lT (nJ P M bf k [gR L v (m+1)]) 1 x=(0,nJ P M bf k [gR L v m]):=by
 have hj:=aE hx;have hkx:bM L x=m:=lz hnd hx;have hf:gN (nJ P M bf k [gR L v (m+1)]) 1=some (gR L v (m+1)):=rfl;have e1:(gR L v (m+1)).keys=L:=rfl;have e2:(gR L v (m+1)).asked m=false:=by show (decide (m+1<=m)&& _)=false;rw[decide_eq_false (by omega)];rfl
 unfold lT;rw[hf];simp only[e1,hkx,hj,if_true,e2,Bool.false_eq_true,if_false];have e3:J4 (nJ P M bf k [gR L v (m+1)]) (gR L v (m+1)) m x=gR L v m:=by
  unfold J4 gR;simp only;congr 1
  ·funext q;simp only[put];by_cases h:q=m
   ·subst h;simp[hj]
   ·rw[if_neg h];congr 1;simp only[decide_eq_decide];omega
  ·funext q;by_cases h:q=m
   ·subst h;have hg:L.getD q ⟨#[]⟩=x:=by simp[List.getD,hx]
    rw[if_pos rfl,if_pos ⟨Nat.le_refl _,hj⟩,hg];exact hv
   ·rw[if_neg h];by_cases h2:m+1<=q/\q<L.length
    ·rw[if_pos h2,if_pos ⟨by omega,h2.2⟩]
    ·rw[if_neg h2,if_neg (by omega)]
 rw[e3];rfl
theorem OK:iG (gR L v 0)=true:=by unfold iG;simp only[List.all_eq_true,List.mem_range];intro j hj;show (decide (0<=j)&& decide (j<L.length))=true;have:j<L.length:=hj;simp[this]
theorem sj{x:ByteArray}(hx:L[j]?=some x):(gR L v 0).found j=v x:=by have hj:=aE hx;show (if 0<=j/\j<L.length then v (L.getD j ⟨#[]⟩)else 0)=v x;rw[if_pos ⟨Nat.zero_le _,hj⟩];simp[List.getD,hx]
end
end
end Go.Proofs.YteoahlieielcdaaGreat
