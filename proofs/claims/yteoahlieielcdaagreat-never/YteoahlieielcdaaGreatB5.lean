import Derived.Test.YteoahlieielcdaaGreatY9
import Derived.Test.YteoahlieielcdaaGreatL7
set_option linter.all false
set_option maxHeartbeats 40000000
set_option maxRecDepth 100000
namespace Go.Proofs.YteoahlieielcdaaGreat
open Go.Proofs.Tryz
open Go Go.RowKit Go.MuLone Go.Conc
abbrev zcy:=@RowKit.Below.heap_alloc
abbrev zcz:=@List.getElem?_eq_getElem
abbrev zc0:=@World.cell?_of_block
abbrev zc1:=@List.getElem_mem
variable{n q i:Nat}{τ:Nat->Tag}{d:mY}
section
def NvP(Z:Nat->Prop)(w0:af)(sb xb m:Nat)(w:af):Prop:=∃τ s A wv rv D RL,eG Z w0 w τ sb xb s A wv rv D RL/\oq s D RL/\s.rs.length<=m/\∀R∈RL,R.left≠ []
def I9:(prog.info? 57).map (fun i=>(i.zero,i.size,i.bytes))=some (some (.pointer none),1,8):=by kernel_rfl
def VF.UJ{w:af}{g cap:Nat}{L:List ah}(h:VF w n g cap L)(ht:τ g=(0,0,0)):FW w τ (some ⟨g,0,none⟩) L:=⟨fun j x hx=>⟨g,rfl,h.hi,ht,h.cell j x hx⟩⟩
def FW.cell{w:af}{τ:Nat->Tag}{g:Nat}{L:List ah}(h:FW w τ (some ⟨g,0,none⟩) L)(j:Nat)(x:ah)(hx:L[j]?=some x):w.cell? ⟨g,j,none⟩=some (.string x):=by obtain⟨g',e,_,_,hc⟩:=h.at_ j x hx;cases e;exact hc
def lZ(h:n<=q):fresh τ n q=(0,0,0):=by unfold fresh;rw[if_pos h]
def sG(h:q<n):fresh τ n q=τ q:=by unfold fresh;rw[if_neg (by omega)]
section
variable {Z:Nat->Prop}{w0 w:af}{τ:Nat->Tag}{sb xb:Nat}{s:MS}{A:SA}{wv rv:aj}{D:List mY}{RL:List jX}
def xl(h:eG Z w0 w τ sb xb s A wv rv D RL)(hI:oq s D RL)(hd:D[i]?=some d){x:ah}(hx:x∈d.k.ks):
 Calls prog 20 #[ptr xb,ptr d.k.kb,.string x] w fun e w'=>e=.returned (.bool true)/\∃A' s',eG Z w0 w' τ sb xb s' A' wv rv (D.set i (xh d (partOf (s.parts:Int) x).toNat)) RL/\oq s' (D.set i (xh d (partOf (s.parts:Int) x).toNat)) RL/\s'.rs=s.rs/\s'.parts=s.parts/\(∀q,q<w.heap.size->(τ q).1=0->w'.heap[q]?=w.heap[q]?)/\w.heap.size<=w'.heap.size:=by
 have hk:=h.kn i d hd;obtain⟨w1,w2,w3,w4⟩:=hI.ws.w i d hd;have hl:=(List.getElem?_eq_some_iff.1 hd).1;have hf:=hI.BI;have NP:=h.rep.ok.p1;have MM:=h.rep.ok.p4;have hb:=dW (s.parts:Int) x (by omega);have hp:partOf (s.parts:Int) x=(((partOf (s.parts:Int) x).toNat:Nat):Int):=by omega
 refine(DT h.rep xb d.k.kb _ h.x rfl (by rw[h.iO];decide) d.k.n (by omega) _ d.on hk.blk (by rw[hk.tag];show (1:Nat)≠2;decide) x (w4.ok.2.1 x hx) _ hp (hI.find hd) (UC hx hp) M9 rfl).mono ?_;rintro e w' ⟨A',wd,rfl,hR,hS,rfl⟩;have m:=(h.step hR hS).xj hd (p:=(partOf (s.parts:Int) x).toNat) (by omega);refine⟨rfl,A',_,m,hI.xj hd _,rfl,rfl,fun q hq ht=>?_,by have:=hS.size;simp[World.setCell];omega⟩;rw[Below.heap_setCell _ _ _ _ (fun e=>?_),hS.block q hq (by rw[ht];decide)];have e':q=d.k.kb:=e;rw[e',hk.tag]at ht;cases ht
structure UK(Z:Nat->Prop)(w0 w:af)(τ:Nat->Tag)(sb xb:Nat)(s:MS)(A:SA)(wv rv:aj)(D:List mY)(RL:List jX)(pb kg cap:Nat)(kind a b:Int)(L:List ah):Prop extends eG Z w0 w τ sb xb s A wv rv D RL where
 box:bg w pb #[.int .i64 kind,.int .i64 a,.int .i64 b] 35
 BP:τ pb=(0,0,0)
 UJ:FW w τ (some ⟨kg,0,none⟩) L
 kgL:kg<w.heap.size
 ZB:τ kg=(0,0,0)
 cap:L.length<=cap/\cap<=maxLen
 I5:BH L
def UK.step{w':af}{τ':Nat->Tag}{s':MS}{A':SA}{pb kg cap:Nat}{kind a b:Int}{L:List ah}(h:UK Z w0 w τ sb xb s A wv rv D RL pb kg cap kind a b L)(hR:a9 w' τ' 2 sb s' A')(hs:Stp 2 τ w τ' w'):UK Z w0 w' τ' sb xb s' A' wv rv D RL pb kg cap kind a b L:=by
 have hs1:sF (fun t=>t.1≠2) τ τ' w w':=fun q hq e=>⟨hs.block q hq e,hs.tag q hq⟩
 obtain⟨e1,e2⟩:=hs1 pb h.box.lt (by rw[h.BP];decide);obtain⟨e3,e4⟩:=hs1 kg h.kgL (by rw[h.ZB];decide);exact⟨h.toeG.step hR hs,h.box.of_eq e1,e2.trans h.BP,h.UJ.same hs1 (by decide),BL h.kgL e3,e4.trans h.ZB,h.cap,h.I5⟩
def UK.below{w':af}{pb kg cap:Nat}{kind a b:Int}{L:List ah}(h:UK Z w0 w τ sb xb s A wv rv D RL pb kg cap kind a b L)(hB:Below w.heap.size w w'):UK Z w0 w' τ sb xb s A wv rv D RL pb kg cap kind a b L:=
 ⟨h.toeG.below hB,h.box.of_eq (hB.block _ h.box.lt),h.BP,h.UJ.same (G:=fun _=>True) (fun q hq _=>⟨hB.block q hq,rfl⟩) trivial,Nat.lt_of_lt_of_le h.kgL hB.size,h.ZB,h.cap,h.I5⟩
def Ns(hM:eG Z w0 w τ sb xb s A wv rv D RL)(hI:oq s D RL)(kind a b:Int)(h1: -9223372036854775808<=a)(h2:a<=9223372036854775807)(h3: -9223372036854775808<=b)(h4:b<=9223372036854775807)(h5:kind=5->RL= [])(hrs:s.rs.length<8796093022208)(hne:∀R∈RL,R.left≠ []):
 Calls prog 15 #[ptr xb,.agg #[.int .i64 kind,.int .i64 a,.int .i64 b]] w fun e w'=>e=.returned (.bool true)/\NvP Z w0 sb xb (s.rs.length+1) w':=by
 obtain⟨pi,hpi,Zj,Zk,Zl⟩:=info_parts NQ;obtain⟨ri,Sg,rz0,rz1,rz2⟩:=info_parts I9;obtain⟨B0,sK,e0⟩:=l9 a 63 (by omega);rw[show ((63:Nat):Int)=63 from rfl]at e0;have c0:∀W,_:=fun W=>jr a 63 W h1 h2 (by omega) (by omega);rw[e0]at c0;have k0:∀W:af,Calls prog 17 #[.int .i64 (1+(B0:Int))] W _:=fun W=>by have:=I4 (w:=W) (B0+1) (by omega) (by omega);rw[show ((B0+1:Nat):Int)=1+(B0:Int)from by omega]at this;exact this
 have HI:Hid (oq s D RL):=hI;have HM:Hid (eG Z w0 w τ sb xb s A wv rv D RL):=hM;have I6:Hid (∀R∈RL,R.left≠ []):=hne;have zF:=hI.BI;have hfr:=hI.Ga;clear e0 hI hM hne;unfold ptr;go_enter func15,ntmps15;go_wp2_with fail
 refine(c0 _).mono ?_;rintro e w1 ⟨rfl,rfl⟩;clear c0;go_wp2_with fail
 refine(k0 _).mono ?_;rintro e w2 ⟨kg,bX,rfl,KA,bB⟩;clear k0;have HS:Hid (UK Z w0 w2 (fresh (fresh τ w.heap.size) (w.heap.size+1)) sb xb s A wv rv D RL w.heap.size kg bX kind a b (iM (B0+1))):=by
  have iz:Below w.heap.size w (w.alloc (.cells #[.int .i64 kind,.int .i64 a,.int .i64 b] 35)):=(Below.refl _ _).alloc (Nat.le_refl _) _;have hz:(w.alloc (.cells #[.int .i64 kind,.int .i64 a,.int .i64 b] 35)).heap.size=w.heap.size+1:=by simp
  have m1:=HM.out.fresh iz;have m2:=m1.fresh bB;rw[hz]at m2 bB KA;have BQ:fresh (fresh τ w.heap.size) (w.heap.size+1) kg=(0,0,0):=lZ KA.lo;exact⟨m2,(bg.new w _ _).of_eq (bB.block _ (by omega)),by rw[sG (by omega),lZ (Nat.le_refl _)],KA.UJ BQ,KA.hi,BQ,⟨KA.c1,KA.c2⟩,⟨B0+1,by omega,by omega,rfl⟩⟩
 generalize fresh (fresh τ w.heap.size) (w.heap.size+1)=τ2 at HS;generalize w.heap.size=pb at *;obtain⟨l1,l2,l3,l4,l5,l6⟩:=HS.out.I5.ok;generalize iM (B0+1)=L at *;have HL1:Hid _:=l1;have HL2:Hid _:=l2;clear KA bB l1 l2 l5 l6 HM sK;have p0:=HS.out.box.cell (o:=0) (v:=.int .i64 kind) rfl;by_cases hk1:kind=1
 ·subst hk1;have y1:=HS.out.x.cell (o:=1) (v:=wv) rfl;obtain⟨bv,cv,Si⟩:=cy HS.out.row;subst Si;by_cases h60:60<=D.length
  ·have q0:(60:Int)<=(D.length:Int):=by omega
   go_wp2_with fail
   go_ret;exact⟨rfl,_,_,_,_,_,_,_,HS.out.toeG,HI.out,by omega,I6.out⟩
  ·have q0:¬((60:Int)<=(D.length:Int)):=by omega
   have x0:=HS.out.x.cell (o:=0) (v:=.pointer (some ⟨sb,0,none⟩)) rfl;have cw:=Kt HS.out.rep kg bX (L:=L) l3 (by omega) HL1.out HL2.out HS.out.UJ.cell HS.out.kgL (by rw[HS.out.ZB]) (by rw[HI.out.ws.len];omega);unfold ptr at cw;go_wp2_with fail
   refine cw.mono ?_;rintro e w3 ⟨τ3,A3,rfl,DU,vS⟩;clear cw y1 x0 p0;have BR:Hid _:=HS.out.step DU vS;clear HS DU vS;have y1:=BR.out.x.cell (o:=1) (v:=.slice bv D.length cv) rfl;have f1:=BR.out.x.frozen 1;have DV:=BR.out.row;have aeh:=BR.out.x.lt;have Wc:=BR.out.env.below.size;obtain⟨nn,hnn⟩:∃nn:Int,(s.ws.length:Int)+2=nn:=⟨_,rfl⟩
   have NR:((s.ws.length+2:Nat):Int)=nn:=by omega
   have hn0:(0:Int)<nn:=by omega
   have HG:Hid (∀(w4:af) (v4:aj) (o:Obj),((w3.alloc (.cells #[.int .i64 nn,.slice (some ⟨kg,0,none⟩) L.length bX,.bool false,.bool false,.bool false,.bool false] 48)).alloc o).grownBy w4 (Value.slice bv D.length cv).ownBlock->w4.ownsRow w0.heap.size 45 1 v4 (D.length+1) ((D.map fun d=>ptr d.k.kb)++ [ptr w3.heap.size])->(v4.ownBlock=(Value.slice bv D.length cv).ownBlock\/v4.ownBlock=some (w3.heap.size+2))->
    w4.cell? ⟨xb,1,none⟩=some (.slice bv D.length cv)/\w4.frozen? ⟨xb,1,none⟩=false/\NvP Z w0 sb xb (s.rs.length+1) (w4.setCell ⟨xb,1,none⟩ v4)):=fun w4 v4 o a1 a2 a3=>by have hm:=BR.out;have UL:bg w4 xb _ _:=hm.x.of_eq ((a1.block xb (by have:=hm.x.lt;simp;omega) (fun e=>by have:=hm.dw xb e.symm;rw[hm.iO]at this;cases this)).trans ((zcy _ _ _ (by have:=hm.x.lt;simp;omega)).trans (zcy _ _ _ hm.x.lt)));rw[<-NR]at a1;obtain⟨τ4,h4⟩:=hm.toeG.ZA (n:=s.ws.length+2) hm.UJ a1 a2 a3;exact⟨UL.cell (o:=1) rfl,UL.frozen 1,τ4,_,A3,v4,rv,_,RL,h4,HI.out.write hm.I5 (by omega) (by show s.ws.length+2=_;rw[HI.out.ws.len]) rfl,Nat.le_succ _,I6.out⟩
   rw[hnn];clear hnn NR;go_wp2_with (at_builtin;refine wpList_append_own_at _ rfl (.tmp 40) (.tmp 45) 29 rfl w0.heap.size 45 pi _ 1 8 underlying29 hpi Zj Zk Zl rfl (by decide) (.slice bv D.length cv) D.length _ rfl ((DV.alloc _).alloc _) ⟨_,0,none⟩ 1 1 [.pointer (some ⟨w3.heap.size,0,none⟩)] rfl rfl (by first|exact cell_one_new _ _ _|(simpa using cell_one_new (w3.alloc _) (.pointer (some ⟨w3.heap.size,0,none⟩)) 45)) (by simp[Value.oneCell']) (by unfold maxLen;omega) (by omega) (by simp;omega) ?_;intro v4 w4 Ku Kv YG Je;clear YG;obtain⟨b4,d4,We⟩:=cy Ku;subst We;obtain⟨y4,f4,Sj⟩:=HG.out w4 _ _ Kv Ku (by simpa using Je);clear Kv Ku Je)
   have ZC:Hid _:=Sj;clear Sj y4 f4 HG BR DV y1 f1;go_ret;exact⟨rfl,ZC.out⟩
 by_cases hk4:kind=4
 ·subst hk4;have y2:=HS.out.x.cell (o:=2) (v:=rv) rfl;obtain⟨bv,cv,Si⟩:=cy HS.out.lJ;subst Si;by_cases UM:20<=RL.length
  ·have q0:(20:Int)<=(RL.length:Int):=by omega
   go_wp2_with fail
   go_ret;exact⟨rfl,_,_,_,_,_,_,_,HS.out.toeG,HI.out,by omega,I6.out⟩
  ·have q0:¬((20:Int)<=(RL.length:Int)):=by omega
   have x0:=HS.out.x.cell (o:=0) (v:=.pointer (some ⟨sb,0,none⟩)) rfl;obtain⟨er,HIr⟩:=HI.out.read HS.out.I5 (by omega);have cw:=UN HS.out.rep (some ⟨kg,0,none⟩) bX (L:=L) (by unfold maxLen;omega) HS.out.cap.1 HS.out.cap.2 (fun x hx=>by have:=(cZ (HL2.out x hx)).2;unfold maxLen;omega) (fun j x hx=>⟨kg,0,rfl,by rw[Nat.zero_add];exact HS.out.UJ.cell j x hx⟩) (fun ib io e=>by cases e;rw[HS.out.ZB];decide) hrs;rw[er]at cw;unfold ptr at cw;go_wp2_with fail
   refine cw.mono ?_;rintro e w3 ⟨τ3,A3,rfl,DU,vS⟩;clear cw y2 x0 p0 er;have BR:Hid _:=HS.out.step DU vS;clear HS DU vS;have y2:=BR.out.x.cell (o:=2) (v:=.slice bv RL.length cv) rfl;have f2:=BR.out.x.frozen 2;have DV:=BR.out.lJ;have aeh:=BR.out.x.lt;have Wc:=BR.out.env.below.size;obtain⟨nn,hnn⟩:∃nn:Int,(s.rs.length:Int)+1=nn:=⟨_,rfl⟩
   have NR:((s.rs.length+1:Nat):Int)=nn:=by omega
   have HG:Hid (∀(w4:af) (v4:aj) (o:Obj),((w3.alloc (.cells #[.int .i64 nn,.slice (some ⟨kg,0,none⟩) L.length bX,.slice (some ⟨kg,0,none⟩) L.length bX,.slice none 0 0] 60)).alloc o).grownBy w4 (Value.slice bv RL.length cv).ownBlock->w4.ownsRow w0.heap.size 57 1 v4 (RL.length+1) ((RL.map fun R=>ptr R.rb)++ [ptr w3.heap.size])->(v4.ownBlock=(Value.slice bv RL.length cv).ownBlock\/v4.ownBlock=some (w3.heap.size+2))->
    w4.cell? ⟨xb,2,none⟩=some (.slice bv RL.length cv)/\w4.frozen? ⟨xb,2,none⟩=false/\NvP Z w0 sb xb (s.rs.length+1) (w4.setCell ⟨xb,2,none⟩ v4)):=fun w4 v4 o a1 a2 a3=>by
    have hm:=BR.out;have UL:bg w4 xb _ _:=hm.x.of_eq ((a1.block xb (by have:=hm.x.lt;simp;omega) (fun e=>by have:=hm.gB xb e.symm;rw[hm.iO]at this;cases this)).trans ((zcy _ _ _ (by have:=hm.x.lt;simp;omega)).trans (zcy _ _ _ hm.x.lt)));rw[<-NR]at a1;obtain⟨τ4,h4⟩:=hm.toeG.NN (n:=s.rs.length+1) hm.UJ hm.cap a1 a2 a3;exact⟨UL.cell (o:=2) rfl,UL.frozen 2,τ4,_,A3,wv,v4,D,_,h4,HIr _ _ _,by simp,fun R hR=>by
     rcases List.mem_append.1 hR with hR|hR
     ·exact I6.out R hR
     ·obtain rfl:=List.mem_singleton.1 hR;exact List.ne_nil_of_length_pos l3⟩
   rw[hnn];clear hnn NR HIr;go_wp2_with (at_builtin;refine wpList_append_own_at _ rfl (.tmp 72) (.tmp 78) 30 rfl w0.heap.size 57 ri _ 1 8 underlying30 Sg rz0 rz1 rz2 rfl (by decide) (.slice bv RL.length cv) RL.length _ rfl ((DV.alloc _).alloc _) ⟨_,0,none⟩ 1 1 [.pointer (some ⟨w3.heap.size,0,none⟩)] rfl rfl (by first|exact cell_one_new _ _ _|(simpa using cell_one_new (w3.alloc _) (.pointer (some ⟨w3.heap.size,0,none⟩)) 57)) (by simp[Value.oneCell']) (by unfold maxLen;omega) (by omega) (by simp;omega) ?_;intro v4 w4 Ku Kv YG Je;clear YG;obtain⟨b4,d4,We⟩:=cy Ku;subst We;obtain⟨y4,f4,Sj⟩:=HG.out w4 _ _ Kv Ku (by simpa using Je);clear Kv Ku Je)
   have ZC:Hid _:=Sj;clear Sj y4 f4 HG BR DV y2 f2;go_ret;exact⟨rfl,ZC.out⟩
 by_cases Sk:kind=5
 ·subst Sk;have hRL:=h5 rfl;subst hRL;have y2:=HS.out.x.cell (o:=2) (v:=rv) rfl;obtain⟨bv,cv,Si⟩:=cy HS.out.lJ;subst Si;go_wp2_with fail
  go_ret;exact⟨rfl,_,_,_,_,_,_,_,HS.out.toeG,HI.out,by omega,I6.out⟩
 have y1:=HS.out.x.cell (o:=1) (v:=wv) rfl;obtain⟨bv,cv,Si⟩:=cy HS.out.row;subst Si;have b1:(kind == 1)=false:=by simpa using hk1
 have b4:(kind == 4)=false:=by simpa using hk4
 have b5:(kind == 5)=false:=by simpa using Sk
 clear hk1 hk4 Sk h5;by_cases h0:D.length=0
 ·obtain rfl:=List.length_eq_zero_iff.1 h0;go_wp2_with fail
  go_ret;exact⟨rfl,_,_,_,_,_,_,_,HS.out.toeG,HI.out,by omega,I6.out⟩
 obtain⟨i,hi,ei⟩:=l9 a D.length (by omega);have cpk:∀W,_:=fun W=>jr a D.length W h1 h2 (by omega) (by omega);rw[ei]at cpk;have hd:D[i]?=some D[i]:=zcz hi;obtain⟨g,cap,e,hc⟩:=HS.out.at_ hd;cases e;generalize D[i]=d at *;have HD:Hid (D[i]?=some d):=hd;have p1:=HS.out.box.cell (o:=1) (v:=.int .i64 a) rfl;have q0:((D.length:Int)== 0)=false:=by rw[beq_eq_false_iff_ne];omega
 have q1:(i:Int)< (D.length:Int):=by omega
 clear hd ei h0;go_wp2_with fail
 go_region_held3 (fun W=>W.cell? ⟨xb,1,none⟩=some (.slice (some ⟨g,0,none⟩) D.length cv)/\W.cell? ⟨pb,1,none⟩=some (.int .i64 a)/\W.cell? ⟨g,i,none⟩=some (.pointer (some ⟨d.k.kb,0,none⟩))) (simp[*]) ((go_at_call 18;refine(cpk _).mono ?_;rintro e we ⟨rfl,rfl⟩))
 have xm:Hid (UK Z w0 w2.drew τ2 sb xb s A (.slice (some ⟨g,0,none⟩) D.length cv) rv D RL pb kg bX kind a b L):=HS.out.below (Below.refl _ _).drew;clear HS y1 p0 p1 hc cpk q0 q1;generalize w2.drew=w3 at *;obtain⟨v1,v2,v3,v4⟩:=HI.out.ws.w i d HD.out;obtain⟨u1,u2,u3,u4,u5,u6⟩:=v4.ok;have YH:Hid (∀x∈d.k.ks,bK x=true):=u2;clear u1 u2 u5 u6 v1 v2 v3;have p0:=xm.out.box.cell (o:=0) (v:=.int .i64 kind) rfl;have k1:=(xm.out.kn i d HD.out).blk.cell (o:=1) (v:=.slice (some ⟨d.k.kg,0,none⟩) d.k.ks.length d.k.cap) rfl;by_cases hk2:kind=2
 ·subst hk2;obtain⟨j,hj,ej⟩:=l9 b d.k.ks.length (by omega);have cpb:∀W,_:=fun W=>jr b d.k.ks.length W h3 h4 (by omega) (by omega);rw[ej]at cpb;have hx:d.k.ks[j]?=some d.k.ks[j]:=zcz hj;have DW:d.k.ks[j]∈d.k.ks:=zc1 _;generalize d.k.ks[j]=x at *;have HX:Hid (d.k.ks[j]?=some x):=hx;have UO:=xl xm.out.toeG.drew HI.out HD.out DW;unfold ptr at UO;have p2:=xm.out.box.cell (o:=2) (v:=.int .i64 b) rfl;have kc:=(xm.out.kn i d HD.out).keys.cell j x hx;have HF:Hid (∀we:af,(∀q,q<w3.drew.heap.size->(τ2 q).1=0->we.heap[q]?=w3.drew.heap[q]?)->∀(A5:SA) (s5:MS) (D5:List mY),eG Z w0 we τ2 sb xb s5 A5 (.slice (some ⟨g,0,none⟩) D.length cv) rv (D.set i (xh d (partOf (s.parts:Int) x).toNat)) RL->we.cell? ⟨d.k.kb,1,none⟩=some (.slice (some ⟨d.k.kg,0,none⟩) d.k.ks.length d.k.cap)/\we.cell? ⟨pb,2,none⟩=some (.int .i64 b)/\we.cell? ⟨d.k.kg,j,none⟩=some (.string x)):=fun we hk A5 s5 D5 h5=>by obtain⟨g',e',g1,g2,g3⟩:=(xm.out.kn i d HD.out).keys.at_ j x HX.out;cases e';refine⟨(h5.kn i (xh d _) (List.getElem?_set_self (List.getElem?_eq_some_iff.1 HD.out).1)).blk.cell (o:=1) rfl,(zc0 (w:=w3) (a:=⟨pb,2,none⟩) (hk pb xm.out.box.lt (by rw[xm.out.BP]))).trans (xm.out.box.cell (o:=2) rfl),(zc0 (w:=w3) (a:=⟨d.k.kg,j,none⟩) (hk _ g1 (by rw[g2]))).trans g3⟩
  have q2:(j:Int)< (d.k.ks.length:Int):=by omega
  clear hx DW ej;go_wp2_with fail
  go_region_held3 (fun W=>W.cell? ⟨d.k.kb,1,none⟩=some (.slice (some ⟨d.k.kg,0,none⟩) d.k.ks.length d.k.cap)/\W.cell? ⟨pb,2,none⟩=some (.int .i64 b)/\W.cell? ⟨d.k.kg,j,none⟩=some (.string x)) (simp[*]) (first|(go_at_call 18;refine(cpb _).mono ?_;rintro e we ⟨rfl,rfl⟩)|(go_at_call 20;refine UO.mono ?_;rintro e we ⟨rfl,A5,s5,Jf,ZD,UP,hp5,Sk,hz5⟩;obtain⟨m1,m2,m3⟩:=HF.out we Sk A5 s5 D Jf))
  have HM5:Hid _:=Jf;have HI5:Hid _:=ZD;have HR5:Hid (s5.rs=s.rs):=UP;clear Jf ZD UP hp5 Sk hz5 m1 m2 m3 HF UO cpb;go_wp2_with fail
  go_ret;exact⟨rfl,_,_,_,_,_,_,_,HM5.out,HI5.out,by rw[HR5.out];omega,I6.out⟩
 have b2:(kind == 2)=false:=by simpa using hk2
 clear hk2;by_cases Kw:kind=3
 ·subst Kw;clear b1 b2 b4 b5;have HKC:Hid (∀(j:Nat) (x:ah),d.k.ks[j]?=some x->d.k.kg<w3.heap.size/\(τ2 d.k.kg).1=0/\w3.cell? ⟨d.k.kg,j,none⟩=some (.string x)):=fun j x hx=>by obtain⟨g',e',g1,g2,g3⟩:=(xm.out.kn i d HD.out).keys.at_ j x hx;cases e';exact⟨g1,by rw[g2],g3⟩
  go_wp2_with fail
  go_loopw [10] (fun u wr=>∃j:Nat,j<=d.k.ks.length/\u=.int .i64 j/\Hid (w3.heap.size<=wr.heap.size/\∃(A':SA) (s':MS) (D':List mY) (d':mY),eG Z w0 wr τ2 sb xb s' A' (.slice (some ⟨g,0,none⟩) D.length cv) rv D' RL/\oq s' D' RL/\D'[i]?=some d'/\d'.k=d.k/\s'.rs=s.rs/\∀q,q<w3.heap.size->(τ2 q).1=0->wr.heap[q]?=w3.heap[q]?)) (fun u _=>d.k.ks.length-(intOf u).toNat)
  case atStart=>exact⟨0,Nat.zero_le _,rfl,Nat.le_refl _,A,s,D,d,xm.out.toeG,HI.out,HD.out,rfl,rfl,fun _ _ _=>rfl⟩
  case round=>
   obtain⟨j,hj,rfl,HR⟩:=hrel;obtain⟨hz,A',s',D',d',sw,Az,sJ,ek,er,hst⟩:=HR.out;have HZ:Hid _:=hz;have HM':Hid _:=sw;have HI':Hid _:=Az;have HD':Hid (D'[i]?=some d'):=sJ;have HEK:Hid (d'.k=d.k):=ek;have HER:Hid (s'.rs=s.rs):=er;have HSt:Hid _:=hst;have YI:=(sw.kn i d' sJ).blk.cell (o:=1) (v:=.slice (some ⟨d'.k.kg,0,none⟩) d'.k.ks.length d'.k.cap) rfl;rw[ek]at YI;clear sw Az sJ ek er hst hz HR;by_cases hjl:j<d.k.ks.length
   ·have hx:d.k.ks[j]?=some d.k.ks[j]:=zcz hjl;have DW:d.k.ks[j]∈d.k.ks:=zc1 _;generalize d.k.ks[j]=x at *;obtain⟨g1,g2,g3⟩:=HKC.out j x hx;have kc:=(zc0 (w:=w3) (a:=⟨d.k.kg,j,none⟩) (HSt.out _ g1 g2)).trans g3;have UO:=xl HM'.out HI'.out HD'.out (x:=x) (by rw[HEK.out];exact DW);rw[HEK.out]at UO;unfold ptr at UO;have q2:(j:Int)< (d.k.ks.length:Int):=by omega
    clear hx DW g1 g2 g3;go_wp2_with fail
    refine UO.mono ?_;rintro e we ⟨rfl,A5,s5,Jf,ZD,UP,hp5,Sk,hz5⟩;clear UO;have hlt:=(List.getElem?_eq_some_iff.1 HD'.out).1;have HN:Hid (w3.heap.size<=we.heap.size/\∃(A':SA) (s':MS) (D':List mY) (d':mY),eG Z w0 we τ2 sb xb s' A' (.slice (some ⟨g,0,none⟩) D.length cv) rv D' RL/\oq s' D' RL/\D'[i]?=some d'/\d'.k=d.k/\s'.rs=s.rs/\∀q,q<w3.heap.size->(τ2 q).1=0->we.heap[q]?=w3.heap[q]?):=by exact⟨Nat.le_trans HZ.out hz5,A5,s5,_,xh d' _,Jf,ZD,List.getElem?_set_self hlt,HEK.out,UP.trans HER.out,fun q hq ht=>(Sk q (Nat.lt_of_lt_of_le hq HZ.out) ht).trans (HSt.out q hq ht)⟩
    clear Jf ZD UP hp5 Sk hz5 hlt kc YI;go_wp2_with fail
    go_roundw
    case rel=>exact⟨j+1,by omega,by go_num,HN⟩
    case measure=>simp[intOf];omega
   ·have hjn:j=d.k.ks.length:=by omega
    subst hjn;go_wp2_with fail
    go_ret;exact⟨rfl,_,_,_,_,_,_,_,HM'.out,HI'.out,by rw[HER.out];omega,I6.out⟩
 have b3:(kind == 3)=false:=by simpa using Kw
 clear Kw;by_cases ZE:kind=6
 ·subst ZE;have hx:d.k.ks[0]?=some d.k.ks[0]:=zcz (by omega);have DW:d.k.ks[0]∈d.k.ks:=zc1 _;generalize d.k.ks[0]=x at *;have hg:=YH.out x DW;have hz:=(cZ hg).2;have NP:=xm.out.rep.ok.p1;have hb:=dW (s.parts:Int) x (by omega);obtain⟨p,hp⟩:∃p:Nat,partOf (s.parts:Int) x=p:=⟨(partOf (s.parts:Int) x).toNat,by omega⟩
  have cp:=Jg xm.out.toeG.drew.rep x (by unfold maxLen;omega);rw[hg,hp]at cp;simp only[if_true]at cp;have HPR:Hid (dI s (d.k.n:Int) (p:Int)=(10,s)):=by
   unfold Hid dI;rw[HI.out.find HD.out];have h1:aJ (s.parts:Int) (J9 s.parts d.k.ks (2*i+2) d.on).items (p:Int)=true:=UC DW hp;have h2:(J9 s.parts d.k.ks (2*i+2) d.on).dH ((p:Int)).toNat=true:=by show iE s.parts d.k.ks ((p:Int)).toNat=true;rw[Int.toNat_natCast,wY,List.any_eq_true];exact⟨x,DW,by simpa using hp⟩
   simp only[h1,h2,Bool.true_eq_false,if_false,if_true]
  have hn:d.k.n<=1000:=by rw[(HI.out.ws.w i d HD.out).2.2.1];omega
  have x0:=xm.out.x.cell (o:=0) (v:=.pointer (some ⟨sb,0,none⟩)) rfl;have kc:=(xm.out.kn i d HD.out).keys.cell 0 x hx;have k00:=(xm.out.kn i d HD.out).blk.cell (o:=0) (v:=.int .i64 d.k.n) rfl;obtain⟨ln,hln⟩:∃ln,d.k.ks.length=ln+1:=⟨d.k.ks.length-1,by omega⟩
  rw[hln]at k1;have FX:(p:Int)<=1000:=by have:=xm.out.rep.ok.p4;omega
  unfold ptr at cp;clear hx DW hg hb hp NP hln u3 u4;go_wp2_with fail
  go_region_held3 (fun W=>W.cell? ⟨xb,0,none⟩=some (.pointer (some ⟨sb,0,none⟩))/\W.cell? ⟨d.k.kb,1,none⟩=some (.slice (some ⟨d.k.kg,0,none⟩) (ln+1) d.k.cap)/\W.cell? ⟨d.k.kg,0,none⟩=some (.string x)) (simp[*]) ((go_at_call 27;refine cp.mono ?_;rintro e we ⟨rfl,AF⟩;have m1:=aW AF (p:=⟨xb,0,none⟩) x0;have m2:=aW AF (p:=⟨d.k.kb,1,none⟩) k1;have m3:=aW AF (p:=⟨d.k.kg,0,none⟩) kc))
  have NS:Hid _:=(xm.out.below (Below.refl _ _).drew).below AF;clear AF m1 m2 m3 x0 kc k1 p0 cp xm;have y0:=NS.out.x.cell (o:=0) (v:=.pointer (some ⟨sb,0,none⟩)) rfl;have y1:=(NS.out.kn i d HD.out).blk.cell (o:=0) (v:=.int .i64 d.k.n) rfl;have cq:=xp NS.out.toeG.drew.rep (d.k.n:Int) (p:Int) (by omega) (by omega) (by omega) (by omega);rw[HPR.out]at cq;unfold ptr at cq;clear k00;go_wp2_with fail
  go_region_held3 (fun W=>W.cell? ⟨xb,0,none⟩=some (.pointer (some ⟨sb,0,none⟩))/\W.cell? ⟨d.k.kb,0,none⟩=some (.int .i64 (d.k.n:Int))) (simp[*]) ((go_at_call 29;refine cq.mono ?_;rintro e wf ⟨A6,rfl,hR6,hP6⟩;have n1:=(NS.out.toeG.drew.step hR6 hP6).x.cell (o:=0) (v:=.pointer (some ⟨sb,0,none⟩)) rfl;have n2:=((NS.out.toeG.drew.step hR6 hP6).kn i d HD.out).blk.cell (o:=0) (v:=.int .i64 (d.k.n:Int)) rfl))
  have HM6:Hid _:=NS.out.toeG.drew.step hR6 hP6;clear hR6 hP6 n1 n2 y0 y1 cq NS;go_wp2_with fail
  go_ret;exact⟨rfl,_,_,_,_,_,_,_,HM6.out,HI.out,by omega,I6.out⟩
 have b6:(kind == 6)=false:=by simpa using ZE
 clear ZE;go_wp2_with fail
 go_ret;exact⟨rfl,_,_,_,_,_,_,_,xm.out.toeG,HI.out,by omega,I6.out⟩
end
end
section
section
variable {Z:Nat->Prop}{w0 w:af}{τ:Nat->Tag}{sb xb:Nat}{s:MS}{A:SA}{wv rv:aj}{D:List mY}{RL:List jX}
def Ky(h:eG Z w0 w τ sb xb s A wv rv D RL)(hI:FR s D)(hd:D[i]?=some d):
 Calls prog 35 #[ptr xb,ptr d.k.kb] w fun e w'=>e=.returned (.bool (oI s.parts d))/\Below w.heap.size w w':=by
 have HM:Hid (eG Z w0 w τ sb xb s A wv rv D RL):=h;have HD:Hid (D[i]?=some d):=hd;obtain⟨v1,v2,v3,v4⟩:=hI.w i d hd;obtain⟨u1,u2,u3,u4,u5,u6⟩:=v4.ok;have YH:Hid (∀x∈d.k.ks,bK x=true):=u2;have NP:=h.rep.ok.p1;have MM:=h.rep.ok.p4;clear h hI hd u1 u2 u5 u6 v1 v2 v3;unfold ptr;go_enter func35,ntmps35;go_wp2_with fail
 go_loopw [5] (fun u wr=>∃j:Nat,j<=d.k.ks.length/\u=.int .i64 j/\Below w.heap.size w wr/\Hid (∀x∈d.k.ks.take j,d.on (partOf (s.parts:Int) x).toNat=true)) (fun u _=>d.k.ks.length-(intOf u).toNat)
 case atStart=>exact⟨0,Nat.zero_le _,rfl,Below.refl _ _,fun x hx=>by simp at hx⟩
 case round=>
  obtain⟨j,hj,rfl,hB,HN⟩:=hrel;have YJ:Hid _:=HM.out.below hB;have k1:=(YJ.out.kn i d HD.out).blk.cell (o:=1) (v:=.slice (some ⟨d.k.kg,0,none⟩) d.k.ks.length d.k.cap) rfl;by_cases hlt:j<d.k.ks.length
  ·have hx:d.k.ks[j]?=some d.k.ks[j]:=zcz hlt;have DW:d.k.ks[j]∈d.k.ks:=zc1 _;have HT:Hid (d.k.ks.take (j+1)=d.k.ks.take j++ [d.k.ks[j]]):=List.take_succ_eq_append_getElem _;generalize d.k.ks[j]=x at *;have hg:=YH.out x DW;have hz:=(cZ hg).2;have hb:=dW (s.parts:Int) x (by omega);obtain⟨p,hp⟩:∃p:Nat,partOf (s.parts:Int) x=p:=⟨(partOf (s.parts:Int) x).toNat,by omega⟩
   have FX:p<4:=by omega
   have cp:=Jg YJ.out.drew.rep x (by unfold maxLen;omega);rw[hg,hp]at cp;simp only[if_true]at cp;unfold ptr at cp;have HP:Hid (partOf (s.parts:Int) x=p):=hp;have HXM:Hid (x∈d.k.ks):=DW;have x0:=YJ.out.x.cell (o:=0) (v:=.pointer (some ⟨sb,0,none⟩)) rfl;have kc:=(YJ.out.kn i d HD.out).keys.cell j x hx;have on:=(YJ.out.kn i d HD.out).blk.cell (qX FX);have q1:(j:Int)< (d.k.ks.length:Int):=by omega
   have q3:¬((3:Int)< (p:Int)):=by omega
   have q4:(p:Int)<4:=by omega
   clear hx DW hg hb hp;go_wp2_with fail
   go_region_held3 (fun W=>W.cell? ⟨xb,0,none⟩=some (.pointer (some ⟨sb,0,none⟩))/\W.cell? ⟨d.k.kb,1,none⟩=some (.slice (some ⟨d.k.kg,0,none⟩) d.k.ks.length d.k.cap)/\W.cell? ⟨d.k.kg,j,none⟩=some (.string x)) (simp[*]) ((go_at_call 27;refine cp.mono ?_;rintro e we ⟨rfl,AF⟩;have m1:=aW AF (p:=⟨xb,0,none⟩) x0;have m2:=aW AF (p:=⟨d.k.kb,1,none⟩) k1;have m3:=aW AF (p:=⟨d.k.kg,j,none⟩) kc))
   have on2:=aW AF (p:=⟨d.k.kb,2+p,none⟩) on;have dQ:Below w.heap.size w we:=hB.drew.trans (AF.mono hB.drew.size);clear AF m1 m2 m3 x0 kc k1 on cp hB YJ;cases ho:d.on p with
   |true=>
    rw[ho]at on2;have Wf:Hid (∀x∈d.k.ks.take (j+1),d.on (partOf (s.parts:Int) x).toNat=true):=fun y hy=>by
     rw[HT.out]at hy;rcases List.mem_append.1 hy with hy|hy
     ·exact HN.out y hy
     ·simp at hy;subst hy;rw[HP.out,Int.toNat_natCast];exact ho
    clear ho HN HT HP HXM;go_wp2_with fail
    go_roundw
    case rel=>exact⟨j+1,by omega,by go_num,dQ,Wf⟩
    case measure=>simp[intOf];omega
   |false=>
    rw[ho]at on2;have HF:Hid (oI s.parts d=false):=by unfold Hid;rw[Bool.eq_false_iff];intro hw;have:=qW.1 hw x HXM.out;rw[HP.out,Int.toNat_natCast,ho]at this;cases this
    clear ho HN HT HP HXM;go_wp2_with fail
    go_ret;exact⟨cL (by rw[HF.out]),dQ⟩
  ·have hjn:j=d.k.ks.length:=by omega
   subst hjn;have HF:Hid (oI s.parts d=true):=qW.2 fun x hx=>HN.out x (by rw[List.take_length];exact hx);clear HN;go_wp2_with fail
   go_ret;exact⟨cL (by rw[HF.out]),hB⟩
end
end
end Go.Proofs.YteoahlieielcdaaGreat
