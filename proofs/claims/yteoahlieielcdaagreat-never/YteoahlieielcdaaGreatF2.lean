import Derived.Test.YteoahlieielcdaaGreatPrF3
import Derived.Conc.CompanyMem
set_option linter.all false
set_option maxHeartbeats 4000000
set_option maxRecDepth 100000
namespace Go.Proofs.YteoahlieielcdaaGreat
open Go.Proofs.Tryz
open Go Go.RowKit Go.MuLone
abbrev zcj:=@List.getElem?_eq_getElem
abbrev zck:=@World.block_lt_of_cell?
structure RtD where
 ks:List ah
 kg:Nat
 bX:Nat
 sure:List Nat
 sa:Option aA
 DN:Nat
 ab:Nat
 iP:Nat
 wn:Nat->Nat
 vl:Nat->ah
structure Kj(w:af)(xb rb xa:Nat)(a:Option aA)(D:List FQ)(R:RtD):Prop where
 xw:w.cell? ⟨xb,1,none⟩=some (.slice a D.length xa)
 VN:sL w a D
 rk:w.cell? ⟨rb,1,none⟩=some (.slice (some ⟨R.kg,0,none⟩) R.ks.length R.bX)
 rs:w.cell? ⟨rb,3,none⟩=some (.slice R.sa R.sure.length R.DN)
 key:∀(j:Nat) (x:ah),R.ks[j]?=some x->w.cell? ⟨R.kg,j,none⟩=some (.string x)/\x.size<=1000
 sure:∀(j m:Nat),R.sure[j]?=some m->m<=1000/\∃b,R.sa=some ⟨b,0,none⟩/\w.cell? ⟨b,j,none⟩=some (.int .i64 m)
 AA:∀(j:Nat) (x:ah),R.ks[j]?=some x->R.wn j<=1000/\w.cell? ⟨R.ab,j*3,none⟩=some (.string x)/\w.cell? ⟨R.ab,j*3+1,none⟩=some (.int .i64 (R.wn j))/\w.cell? ⟨R.ab,j*3+2,none⟩=some (.string (R.vl j))
 FT:R.ks.length<=8
 WA:R.sure.length<=1000
structure RB(D:List FQ)(ks:List ah)(sure:List Nat)(wn:Nat->Nat)(vl:Nat->ah):Prop where
 zero:∀(j:Nat) (x:ah),ks[j]?=some x->wn j=0->vl j=⟨#[]⟩
 wrt:∀(i:Nat) (x:ah),ks[i]?=some x->wn i≠0->∃d,Kg D (wn i)=some d/\cg d.ks x=true/\vl i=x++q9 d.n/\∀(j:Nat) (y:ah),ks[j]?=some y->cg d.ks y=true->d.n<=wn j
 sure:∀(j m:Nat),sure[j]?=some m->∃d,Kg D m=some d/\∀(i:Nat) (x:ah),ks[i]?=some x->cg d.ks x=true->d.n<=wn i
section
variable {w w':af}{D:List FQ}{a:Option aA}{R:RtD}{xb rb xa:Nat}
def aW(hB:Below w.heap.size w w'){p:aA}{v:aj}(h:w.cell? p=some v):w'.cell? p=some v:=(hB.cell (p:=p) (zck w _ h)).trans h
def Kj.below(h:Kj w xb rb xa a D R)(hB:Below w.heap.size w w'):Kj w' xb rb xa a D R:=
 ⟨aW hB h.xw,h.VN.below hB,aW hB h.rk,aW hB h.rs,fun j x hx=>⟨aW hB (h.key j x hx).1,(h.key j x hx).2⟩,fun j m hm=>by
   obtain⟨h1,b,e,hc⟩:=h.sure j m hm;exact⟨h1,b,e,aW hB hc⟩,fun j x hx=>by obtain⟨h1,h2,h3,h4⟩:=h.AA j x hx;exact⟨h1,aW hB h2,aW hB h3,aW hB h4⟩,h.FT,h.WA⟩
def sL.of(h:sL w a D){n:Nat}{d:FQ}(hd:Kg D n=some d):BM w d:=by obtain⟨i,hi⟩:=List.getElem?_of_mem (SD hd).1;exact h.kn i d hi
def Kk(h:Kj w xb rb xa a D R)(ho:RB D R.ks R.sure R.wn R.vl):Calls prog 24 #[ptr xb,ptr rb,.slice (some ⟨R.ab,0,none⟩) R.ks.length R.iP] w fun e w'=>e=.returned (.bool true)/\Below w.heap.size w w':=by
 obtain⟨ks,kg,bX,sure,sa,DN,ab,iP,wn,vl⟩:=R;have H:Hid (Kj w xb rb xa a D ⟨ks,kg,bX,sure,sa,DN,ab,iP,wn,vl⟩):=h;have HO:Hid (RB D ks sure wn vl):=ho;have FT:ks.length<=8:=h.FT;have WA:sure.length<=1000:=h.WA;have rk:w.cell? ⟨rb,1,none⟩=some (.slice (some ⟨kg,0,none⟩) ks.length bX):=h.rk;clear h ho;simp only;unfold ptr;go_enter func24,ntmps24;go_wp2_with fail
 clear rk;go_loopw [7] (fun u wr=>∃j:Nat,j<=ks.length/\u=.int .i64 j/\Below w.heap.size w wr) (fun u _=>ks.length-(intOf u).toNat)
 case atStart=>exact⟨0,Nat.zero_le _,rfl,Below.refl _ _⟩
 case round=>
  obtain⟨i,hi,rfl,hB⟩:=hrel;by_cases hlt:i<ks.length
  ·have HX:Hid (ks[i]?=some ks[i]):=zcj hlt;have H1:=H.out.below hB;have rk:wr.cell? ⟨rb,1,none⟩=some (.slice (some ⟨kg,0,none⟩) ks.length bX):=H1.rk;obtain⟨kc,hz⟩:=H1.key i _ HX.out;obtain⟨hw,a0,a1,a2⟩:=H1.AA i _ HX.out;simp only at kc hz hw a0 a1 a2;generalize ks[i]=x at *;have akF:(x.toList == x.toList)=true:=by simp
   have q0:(i:Int)< (ks.length:Int):=by omega
   have co:=Oh (w:=wr.drew) (H.out.below hB.drew).xw (H.out.below hB.drew).VN (wn i) hw;unfold ptr at co;clear H1;obtain⟨wi,hwi⟩:∃wi,wn i=wi:=⟨_,rfl⟩
   rw[hwi]at co a1 hw;have HWI:Hid (wn i=wi):=hwi;clear hwi;go_wp2_with fail
   go_region_held3 (fun W=>W.cell? ⟨ab,i*3,none⟩=some (.string x)/\W.cell? ⟨rb,1,none⟩=some (.slice (some ⟨kg,0,none⟩) ks.length bX)/\W.cell? ⟨kg,i,none⟩=some (.string x)) (simp[*]) (fail)
   go_wp2_with fail
   refine co.mono ?_;rintro e w1 ⟨rfl,je⟩;clear co;have Gq:Below w.heap.size w w1:=hB.drew.trans (je.mono hB.size);replace a0:=aW je a0;replace a1:=aW je a1;replace a2:=aW je a2;clear je hB rk kc;by_cases h0:wi=0;case' pos=>
    subst h0
    have hv:vl i=⟨#[]⟩:=HO.out.zero i x HX.out HWI.out
    rw[hv]at a2
    clear hv
    replace a1:w1.cell? ⟨ab,i*3+1,none⟩=some (.int .i64 0):=a1
    go_wp2_with fail
    have hBz:=Gq
    clear a0 a1 a2 Gq
   case' neg=>
    obtain⟨d,hd,hk,hv,hle⟩:=HO.out.wrt i x HX.out (by rw[HWI.out];exact h0)
    have HLE:Hid (∀(j:Nat) (y:ah),ks[j]?=some y->cg d.ks y=true->d.n<=wn j):=hle
    rw[HWI.out]at hd
    have K0:=H.out.VN.of hd
    have HK0:Hid (BM w d):=K0
    have hdl:=K0.lo
    have hdh:=K0.hi
    simp only[hd,ZZ,ptr]
    rw[hv]at a2
    have ch:=BZ (K0.below Gq) x
    rw[hk]at ch
    unfold ptr at ch
    clear hv hk hle hd K0
    have h0':((wi:Int)== 0)=false:=by simp;omega
    go_wp2_with fail
    refine ch.mono ?_
    rintro e w2 ⟨rfl,dQ⟩
    clear ch
    have US:Below w.heap.size w w2:=Gq.trans (dQ.mono Gq.size)
    replace a0:=aW dQ a0
    replace a2:=aW dQ a2
    clear a1 dQ Gq
    have n0:=(HK0.out.below US).num
    have cd:=xu (w:=w2.drew) d.n hdl hdh
    have hdz:=uw d.n
    have hab:=zck w2 _ a0
    have hkb:=zck w2 _ n0
    generalize q9 d.n=dg at *
    have UD:x.size+dg.size<=9223372036854775807:=by omega
    have xy:∀W:af,(Op.stringOp BinOp.add x dg).run prog W=.ok (.string (x++dg)) W:=by intro W;go_simp
    have Z0:((x++dg).toList ==(x++dg).toList)=true:=by simp
    go_wp2_with fail
    go_region_held3 (fun W=>W.cell? ⟨ab,i*3,none⟩=some (.string x)/\W.cell? ⟨ab,i*3+2,none⟩=some (.string (x++dg))/\W.cell? ⟨d.kb,0,none⟩=some (.int .i64 (d.n:Int))) (simp[*]) ((go_at_call 25;refine cd.mono ?_;rintro e w3 ⟨rfl,kB⟩;have m1:=(kB.cell (p:=⟨ab,i*3,none⟩) hab).trans a0;have m2:=(kB.cell (p:=⟨ab,i*3+2,none⟩) hab).trans a2;have m3:=(kB.cell (p:=⟨d.kb,0,none⟩) hkb).trans n0))
    clear cd a0 a2 n0 m1 m2 m3 xy Z0
    have YM:Below w.heap.size w w3:=US.drew.trans (kB.mono US.size)
    clear kB US
    go_wp2_with fail
    go_loopw [10] (fun u wr=>∃j:Nat,j<=ks.length/\u=.int .i64 j/\Below w.heap.size w wr) (fun u _=>ks.length-(intOf u).toNat)
    case atStart=>exact⟨0,Nat.zero_le _,rfl,YM⟩
    case' round=>
     rename af=>SF
     obtain⟨j,hj,rfl,WB⟩:=hrel
     clear YM
     by_cases hjl:j<ks.length
     case pos=>
      have hy:ks[j]?=some ks[j]:=zcj hjl
      obtain⟨N7,b0,b1,-⟩:=(H.out.below WB).AA j _ hy
      simp only at N7 b0 b1
      have HL:Hid (cg d.ks ks[j]=true->d.n<=wn j):=HLE.out j _ hy
      generalize ks[j]=y at *
      have ch:=BZ (HK0.out.below WB) y
      unfold ptr at ch
      have q1:(j:Int)< (ks.length:Int):=by omega
      clear hy
      go_wp2_with fail
      refine ch.mono ?_
      rintro e w4 ⟨rfl,sN⟩
      clear ch
      have AF:Below w.heap.size w w4:=WB.trans (sN.mono WB.size)
      replace b1:=aW sN b1
      have n1:=(HK0.out.below AF).num
      clear b0 sN WB
      cases hb:cg d.ks y with
      |true=>
       have hge:¬((wn j:Int)< (d.n:Int)):=by have:=HL.out hb;omega
       clear HL hb
       go_wp2_with fail
       go_region_held3 (fun W=>W.cell? ⟨ab,j*3+1,none⟩=some (.int .i64 (wn j:Int))/\W.cell? ⟨d.kb,0,none⟩=some (.int .i64 (d.n:Int))) (simp[*]) (fail)
       go_wp2_with fail
       go_roundw
       case rel=>exact⟨j+1,by omega,by go_num,AF.drew⟩
       case measure=>simp[intOf];omega
      |false=>
       clear HL hb
       go_wp2_with fail
       refine wp_region_held_drew (S:=fun _=>True) (by kernel_rfl) trivial (fun hHeld=>?_)
       co_applyP VP (i:=0) rfl (fun W _=>?b0);(case b0=>go_simp;all_goals with_reducible rfl);try walk_nrm
       co_applyP VP (i:=1) rfl (fun W _=>?b1);(case b1=>go_simp;all_goals with_reducible rfl);try walk_nrm
       co_applyP AJ (i:=2) rfl;try walk_nrm
       co_applyP AJ (i:=3) rfl;try walk_nrm
       co_applyP AJ (i:=4) rfl;try walk_nrm
       co_applyP AJ (i:=5) rfl;try walk_nrm
       co_applyP AJ (i:=6) rfl;try walk_nrm
       co_applyP AJ (i:=7) rfl;try walk_nrm
       co_applyP AJ (i:=8) rfl;try walk_nrm
       co_applyP AJ (i:=9) rfl;try walk_nrm
       co_applyP AJ (i:=10) rfl;try walk_nrm
       co_applyP AJ (i:=11) rfl;try walk_nrm
       co_applyP VP (i:=12) rfl (fun W _=>?b12);(case b12=>go_simp;all_goals with_reducible rfl);try walk_nrm
       refine wpAnyH_done (by kernel_rfl) ?_ _
       go_wp2_with fail
       go_roundw
       case rel=>exact⟨j+1,by omega,by go_num,AF.drew⟩
       case measure=>simp[intOf];omega
     go_wp2_with fail
     have hBz:=WB
     clear WB HLE HK0
   all_goals
    go_loopw [12] (fun u wr=>∃j:Nat,j<=sure.length/\u=.int .i64 j/\Below w.heap.size w wr) (fun u _=>sure.length-(intOf u).toNat)
    case atStart=>exact⟨0,Nat.zero_le _,rfl,hBz⟩
    case round=>
     rename af=>wr3
     obtain⟨j,hj,rfl,YN⟩:=hrel
     clear hBz
     have H2:=H.out.below YN
     have rs:=H2.rs
     simp only at rs
     by_cases hjl:j<sure.length
     ·obtain⟨hm,b,hsa,sc⟩:=H2.sure j _ (zcj hjl)
      obtain⟨d2,hd2,Z1⟩:=HO.out.sure j _ (zcj hjl)
      simp only at hm hsa sc
      have HL:Hid (cg d2.ks x=true->d2.n<=wn i):=Z1 i x HX.out
      generalize sure[j]=m at *
      rw[hsa]at rs
      have co:=Oh H2.xw H2.VN m hm
      rw[hd2]at co
      unfold ZZ ptr at co
      have YH:Hid (BM w d2):=H.out.VN.of hd2
      have q1:(j:Int)< (sure.length:Int):=by omega
      clear H2 hd2 Z1 hsa
      go_wp2_with fail
      refine co.mono ?_
      rintro e w5 ⟨rfl,Gt⟩
      clear co rs sc
      have Z2:Below w.heap.size w w5:=YN.trans (Gt.mono YN.size)
      clear Gt YN
      obtain⟨xf,b0,b1,-⟩:=(H.out.below Z2).AA i _ HX.out
      simp only at xf b0 b1
      have ch:=BZ (YH.out.below Z2) x
      unfold ptr at ch
      go_wp2_with fail
      refine ch.mono ?_
      rintro e w6 ⟨rfl,KD⟩
      clear ch
      have xA:Below w.heap.size w w6:=Z2.trans (KD.mono Z2.size)
      replace b1:=aW KD b1
      have n1:=(YH.out.below xA).num
      clear b0 KD Z2
      cases hb:cg d2.ks x with
      |true=>
       have hge:¬((wn i:Int)< (d2.n:Int)):=by have:=HL.out hb;omega
       clear HL hb
       go_wp2_with fail
       go_region_held3 (fun W=>W.cell? ⟨ab,i*3+1,none⟩=some (.int .i64 (wn i:Int))/\W.cell? ⟨d2.kb,0,none⟩=some (.int .i64 (d2.n:Int))) (simp[*]) (fail)
       go_wp2_with fail
       go_roundw
       case rel=>exact⟨j+1,by omega,by go_num,xA.drew⟩
       case measure=>simp[intOf];omega
      |false=>
       clear HL hb
       go_wp2_with fail
       refine wp_region_held_drew (S:=fun _=>True) (by kernel_rfl) trivial (fun hHeld=>?_)
       co_applyP VP (i:=0) rfl (fun W _=>?b0);(case b0=>go_simp;all_goals with_reducible rfl);try walk_nrm
       co_applyP VP (i:=1) rfl (fun W _=>?b1);(case b1=>go_simp;all_goals with_reducible rfl);try walk_nrm
       co_applyP AJ (i:=2) rfl;try walk_nrm
       co_applyP AJ (i:=3) rfl;try walk_nrm
       co_applyP AJ (i:=4) rfl;try walk_nrm
       co_applyP AJ (i:=5) rfl;try walk_nrm
       co_applyP AJ (i:=6) rfl;try walk_nrm
       co_applyP AJ (i:=7) rfl;try walk_nrm
       co_applyP AJ (i:=8) rfl;try walk_nrm
       co_applyP AJ (i:=9) rfl;try walk_nrm
       co_applyP AJ (i:=10) rfl;try walk_nrm
       co_applyP AJ (i:=11) rfl;try walk_nrm
       co_applyP VP (i:=12) rfl (fun W _=>?b12);(case b12=>go_simp;all_goals with_reducible rfl);try walk_nrm
       refine wpAnyH_done (by kernel_rfl) ?_ _
       go_wp2_with fail
       go_roundw
       case rel=>exact⟨j+1,by omega,by go_num,xA.drew⟩
       case measure=>simp[intOf];omega
     ·clear H2
      go_wp2_with fail
      go_roundw
      case rel=>exact⟨i+1,by omega,by go_num,YN⟩
      case measure=>simp[intOf];omega
  ·have hin:i=ks.length:=by omega
   subst hin;go_wp2_with fail
   go_ret;exact⟨rfl,hB⟩
end
end Go.Proofs.YteoahlieielcdaaGreat
