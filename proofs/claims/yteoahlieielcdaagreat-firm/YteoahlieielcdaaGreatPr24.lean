import Derived.Test.YteoahlieielcdaaGreatPr21
import Derived.Test.YteoahlieielcdaaGreatRef10
set_option linter.all false
set_option maxHeartbeats 2000000
set_option maxRecDepth 100000
namespace Go.Proofs.YteoahlieielcdaaGreat
open Go Go.RowKit Go.MuLone
open Go.Maps (Keyed)
abbrev zbv:=@RowKit.Below.heap_setCell
abbrev zbw:=@World.cell?_of_block
variable{rs:List MR}{i pr qm:Nat}{qb:Nat->Nat}{no:Bool}{ks:Value}
section
variable {w:World}{τ:Nat->Tag}{aD b:Nat}{s:MS}{A:SA}{L:List ByteArray}
def cH(B:SB)(n pr qm:Nat)(qb:Nat->Nat)(no:Bool)(ks:Value):SB:={rm:=B.rm,pr:=fun j=>if j=n then pr else B.pr j,qm:=fun j=>if j=n then qm else B.qm j,qb:=fun j=>if j=n then qb else B.qb j,no:=fun j=>if j=n then no else B.no j,ks:=fun j=>if j=n then ks else B.ks j,hv:=fun j q=>if j=n then false else B.hv j q,tv:=fun j q=>if j=n then⟨#[]⟩else B.tv j q,ts:=fun j q=>if j=n then .nilIface else B.ts j q}
theorem dx{r:MR}(hm:(rs++ [gq L])[i]?=some r):(i<rs.length/\rs[i]?=some r)\/(i=rs.length/\r=gq L):=by
 by_cases e:i<rs.length
 ·rw[List.getElem?_append_left e]at hm;exact Or.inl ⟨e,hm⟩
 ·rw[List.getElem?_append_right (by omega)]at hm;have hi':=aE hm;simp at hi';have:i=rs.length:=by omega
  subst this;simp at hm;exact Or.inr ⟨rfl,hm.symm⟩
theorem Fv{B:SB}:dc (rs++ [gq L]) (cH B rs.length pr qm qb no ks)=upd (dc rs B) (.int .i64 ((rs.length:Int)+1)) (ptr pr):=by
 funext kl;by_cases e:kl=.int .i64 ((rs.length:Int)+1)
 ·subst e;rw[upd_same (by simp[WideAt.IsKeyLit])];have:fO (rs++ [gq L]) ((rs.length:Int)+1)=some (gq L):=by unfold fO;rw[if_neg (by simp;omega),show ((rs.length:Int)+1-1).toNat=rs.length from by omega];simp[gq]
  simp[dc,this,cH]
 ·rw[fN e];cases kl with
  |int k n=>
   cases k<;>try rfl
   have hn:n≠(rs.length:Int)+1:=fun e'=>e (by rw[e']);have hf:fO (rs++ [gq L]) n=fO rs n:=by
    unfold fO;by_cases h1:n<1\/(rs.length:Int)<n
    ·rw[if_pos h1,if_pos (by simp;omega)]
    ·rw[if_neg h1,if_neg (by simp;omega),List.getElem?_append_left (by omega)]
   simp only[dc,hf];cases hf2:fO rs n with
   |none=>rfl
   |some r=>
    have:(n-1).toNat≠rs.length:=by
     unfold fO at hf2;split at hf2
     ·cases hf2
     ·omega
    simp only[cH,if_neg this]
  |_=>rfl
theorem aW.aaE(h:aW w τ aD b s A)(KQ:1<=L.length)(Hz:L.length<=8)(hlg:∀x∈L,bK x=true)(hnd:L.Nodup)(hop:cj s.rs<50){w':World}{τ':Nat->Tag}(hno:no=(decide (s.mode=2)&& decide (1<L.length)))
 (hp:iJ w' τ' aD s.rs.length s.parts A.pb pr qm qb no ks L w.heap.size) (ht:∀k,k<w.heap.size->τ' k=τ k)
 (hold:∀k,k<w.heap.size->k≠b->k≠A.R.rm->w'.heap[k]?=w.heap[k]?)
 (hb:aT w' b #[.int .i64 s.mode,A.cD,fy,gF,.int .i64 s.ws.length,.int .i64 ((s.rs.length:Int)+1),.map (some A.wm),.map (some A.R.rm)] 105)
 (hw:aK w' Tryz.prog 3 A.R.rm (upd (dc s.rs A.R) (.int .i64 ((s.rs.length:Int)+1)) (ptr pr))):
 aW w' τ' aD b {s with rs:=s.rs++ [gq L]} {A with R:=cH A.R s.rs.length pr qm qb no ks}:=by
 have hne:∀{k a c:Nat},τ k=(aD,a,c)->a≠0->a≠10->k<w.heap.size->w'.heap[k]?=w.heap[k]? :=by
  intro k a c htk h0 h5 hk;refine hold k hk (fun e=>?_) (fun e=>?_)
  ·rw[e,h.tag]at htk;simp at htk;omega
  ·rw[e,h.reads.gS]at htk;simp at htk;omega
 refine h.IC (fun k hk h1 h0 JQ=>⟨hne (a:=(τ k).2.1) (c:=(τ k).2.2) (by rw[<-h1]) (by omega) (by omega) hk,ht k hk⟩) (by rw[ht b h.blk.lt,h.tag]) ⟨h.ok.p1,h.ok.p4,h.ok.len,h.ok.items,fun j r hj=>?_,?_⟩ ?_ ?_ ⟨?_,?_,fun j r hj hf=>?_,fun j r hj hf=>?_,fun j r hj hf=>?_,fun j r hj hf=>?_,fun j r q x hj hf hx=>?_,fun j r q x hj hf hx=>?_,fun j r hj hf=>?_,fun j r k hj hf hk=>?_⟩
 ·rcases dx hj with⟨_,e⟩|⟨_,rfl⟩
  ·exact h.ok.keys j r e
  ·exact⟨KQ,Hz,hlg,hnd⟩
 ·have:cj (s.rs++ [gq L])=cj s.rs+1:=by simp[cj,gq]
  show cj (s.rs++ [gq L])<=50;omega
 ·refine⟨h.told.sv,fun j r hj hf=>?_,fun j r q hj ha=>?_,fun j r q x hj hf hx=>?_,fun j r q x hj hf hx hv=>?_,fun j r q x hj hf hx hv=>?_,fun j r q x hj hf hx hv=>?_⟩
  ·rcases dx hj with⟨hjl,e⟩|⟨rfl,rfl⟩
   ·have:j≠s.rs.length:=by omega
    simp only[cH,this,if_false];exact h.told.no j r e hf
   ·simp only[cH,if_true];exact hno
  ·rcases dx hj with⟨hjl,e⟩|⟨rfl,rfl⟩
   ·exact h.told.un j r q e ha
   ·rfl
  ·rcases dx hj with⟨hjl,e⟩|⟨rfl,rfl⟩
   ·have:j≠s.rs.length:=by omega
    simp only[cH,this,if_false];exact h.told.hv j r q x e hf hx
   ·simp[cH,gq]
  ·rcases dx hj with⟨hjl,e⟩|⟨rfl,rfl⟩
   ·have:j≠s.rs.length:=by omega
    simp only[cH,this,if_false]at hv⊢;exact h.told.tv j r q x e hf hx hv
   ·simp[cH]at hv
  ·rcases dx hj with⟨hjl,e⟩|⟨rfl,rfl⟩
   ·have:j≠s.rs.length:=by omega
    simp only[cH,this,if_false]at hv⊢;exact h.told.t0 j r q x e hf hx hv
   ·simp[cH]
  ·rcases dx hj with⟨hjl,e⟩|⟨rfl,rfl⟩
   ·exact h.told.fm j r q x e hf hx hv
   ·simp[gq]at hv
 ·have e:((s.rs++ [gq L]).length:Int)=(s.rs.length:Int)+1:=by simp
  rw[e];exact hb
 ·rw[Fv];exact hw
 ·show τ' A.R.rm=_;rw[ht _ h.reads.qR.lt,h.reads.gS]
 ·rcases dx hj with⟨hjl,e⟩|⟨rfl,rfl⟩
  ·have hb':=h.reads.rd j r e hf;have:j≠s.rs.length:=by omega
   simp only[cH,this,if_false];exact hb'.of_eq (hne (h.reads.iI j r e hf) (by omega) (by omega) hb'.lt)
  ·simpa[cH]using hp.blk
 ·rcases dx hj with⟨hjl,e⟩|⟨rfl,rfl⟩
  ·have hb':=h.reads.rd j r e hf;have:j≠s.rs.length:=by omega
   simp only[cH,this,if_false];rw[ht _ hb'.lt,h.reads.iI j r e hf]
  ·simpa[cH]using hp.tag
 ·rcases dx hj with⟨hjl,e⟩|⟨rfl,rfl⟩
  ·have hb':=h.reads.u5 j r e hf;have hjn:j≠s.rs.length:=by omega
   have e1:bW (cH A.R s.rs.length pr qm qb no ks) j r=bW A.R j r:=by funext kl;cases kl<;>simp[bW,cH,hjn]
   rw[e1];simp only[cH,hjn,if_false];exact hb'.of_eq (hne (h.reads.l5 j r e hf) (by omega) (by omega) hb'.lt)
  ·have e1:bW (cH A.R s.rs.length pr qm qb no ks) s.rs.length (gq L)=qF qb L:=by funext kl;cases kl<;>simp[bW,cH,qF,gq]
   rw[e1];simpa[cH]using hp.map
 ·rcases dx hj with⟨hjl,e⟩|⟨rfl,rfl⟩
  ·have hb':=h.reads.u5 j r e hf;have:j≠s.rs.length:=by omega
   simp only[cH,this,if_false];rw[ht _ hb'.lt,h.reads.l5 j r e hf]
  ·simpa[cH]using hp.gU
 ·rcases dx hj with⟨hjl,e⟩|⟨rfl,rfl⟩
  ·have hb':=h.reads.q j r q x e hf hx;have:j≠s.rs.length:=by omega
   simp only[cH,this,if_false];exact hb'.of_eq (hne (h.reads.lA j r q x e hf hx) (by omega) (by omega) hb'.lt)
  ·have:=hp.q q x hx;simpa[cH,gq]using this
 ·rcases dx hj with⟨hjl,e⟩|⟨rfl,rfl⟩
  ·have hb':=h.reads.q j r q x e hf hx;have:j≠s.rs.length:=by omega
   simp only[cH,this,if_false];rw[ht _ hb'.lt,h.reads.lA j r q x e hf hx]
  ·have:=hp.lA q x hx;simpa[cH]using this
 ·rcases dx hj with⟨hjl,e⟩|⟨rfl,rfl⟩
  ·have hr':=h.reads.ky j r e hf;have:j≠s.rs.length:=by omega
   simp only[cH,this,if_false];exact ak hr' (fun k hk=>hne (h.reads.dF j r k e hf hk) (by omega) (by omega) (aR hr' k hk).2)
  ·have:=hp.ky;simpa[cH,gq]using this
 ·rcases dx hj with⟨hjl,e⟩|⟨rfl,rfl⟩
  ·have hr':=h.reads.ky j r e hf;have hjn:j≠s.rs.length:=by omega
   simp only[cH,hjn,if_false]at hk;rw[ht _ (aR hr' k hk).2,h.reads.dF j r k e hf hk]
  ·simp only[cH,if_true]at hk;exact hp.dF k hk
theorem SN{L:List ByteArray}(h:iH L=0):1<=L.length/\L.length<=8/\(∀x∈L,bK x=true)/\L.Nodup:=by
 unfold iH at h;split at h
 ·cases h
 ·obtain⟨h1,h2⟩:=PE h;exact⟨by omega,by omega,fun x hx=>(h1 x hx).1,h2⟩
theorem AQ(a:Option Addr)(L:List ByteArray)(cap:Nat)(hL:L.length<=maxLen)(Sw:L.length<=cap)(hcm:cap<=maxLen)(hz:PF L)(hI:CG w a L):
 Calls Tryz.prog 36 #[.slice a L.length cap] w fun e w'=>e=.returned (.int .i64 (iH L))/\w'=w:=by
 by_cases hs:L.length<1\/8<L.length
 ·exact y8 a L cap hL hs
 ·obtain⟨ib,io,rfl,c0⟩:=hI 0 L[0] (List.getElem?_eq_getElem (by omega));refine y9 ib io L cap (by omega) (by omega) Sw hcm hz (fun k x hx=>?_);obtain⟨ib',io',e,r⟩:=hI k x hx;cases e;exact r
theorem TZ(h:aW w τ aD b s A)(a:Option Addr)(cap:Nat)(hL:L.length<=maxLen)(Sw:L.length<=cap)(hcm:cap<=maxLen)(hz:PF L)(hI:CG w a L)(hf:∀ib io,a=some ⟨ib,io,none⟩->(τ ib).1≠aD)(hrl:s.rs.length<8796093022208):
 Calls Tryz.prog 21 #[ptr b,.slice a L.length cap] w (Pe w τ aD b (py s L)):=by
 have cc:=AQ a L cap hL Sw hcm hz hI;by_cases hc:iH L=0
 ·obtain⟨h1,h8,hg,hnd⟩:=SN hc;rw[hc]at cc;obtain⟨gb,go,rfl,hc0⟩:=hI 0 L[0] (List.getElem?_eq_getElem (by omega));have hgb:gb<w.heap.size:=World.block_lt_of_cell? w _ hc0;have AL:=hf gb go rfl;have hcell:∀(k:Nat) (x:ByteArray),L[k]?=some x->w.cell? ⟨gb,go+k,none⟩=some (.string x):=fun k x hx=>by obtain⟨ib',io',e,r⟩:=hI k x hx;cases e;exact r
  have hp1:=h.ok.p1;have HY:=h.ok.p4;have hop:=h.ok.opn;have c2:w.cell? ⟨b,2,none⟩=some (.int .i32 0):=h.blk.cell (o:=2) rfl;have f2:=h.blk.frozen 2;have iR:=h.blk.set 2 (.int .i32 1);have L4:A.R.rm≠b:=fun e=>by have h1:=h.reads.gS;rw[e,h.tag]at h1;simp at h1
  have mU:aK (w.setCell ⟨b,2,none⟩ (.int .i32 1)) Tryz.prog 3 A.R.rm (dc s.rs A.R):=h.reads.qR.of_eq (zbv _ _ _ _ L4);obtain⟨mn,mD,hown,hsize⟩:=mU.size eD (tI s.rs) zf;rw[oI]at hsize;have c7:(w.setCell ⟨b,2,none⟩ (.int .i32 1)).cell? ⟨b,7,none⟩=some (.map (some A.R.rm)):=iR.cell (o:=7) rfl;by_cases hfull:50<=cj s.rs
  ·have Hr:Hid (py s L=(0,6,s)):=by unfold Hid py;rw[hc];simp[hfull]
   have eF:=gm h.blk (o:=2) rfl (.int .i32 1);unfold fy at eF;unfold ptr;clear hcell hI hf;go_enter_defers Tryz.func21,Tryz.ntmps21;go_wp2_with fail
   refine cc.mono ?_;rintro e w1 ⟨rfl,rfl⟩;clear cc;go_wp2_with fail
   refine(lock_free Tryz.a9 ⟨b,2,none⟩ _ c2 f2).mono ?_;rintro e w' ⟨rfl,rfl⟩;go_wp2_with (at_len;refine wpList_len_own _ rfl _ 103 rfl 3 106 Tryz.underlying103 aL A.R.rm mn mD rfl hown ?_;rw[hsize])
   refine leaves_cons (f:=38) (args:=#[.pointer (some ⟨b,2,none⟩)]) (by simp) (by simp[go_sem]) ?_;refine(unlock_deferred Tryz.a9 ⟨b,2,none⟩ .returning _ (iR.cell (o:=2) rfl) (iR.frozen 2)).mono ?_;rintro e u' w'' ⟨rfl,rfl,rfl⟩;rw[Hr.out];exact⟨_,results_tmp2 rfl _ _ _,τ,A,rfl,h.same eF,eF.nG _ _⟩
  ·have Hr:Hid (py s L=((s.rs.length:Int)+1,0,{s with rs:=s.rs++ [gq L]})):=by unfold Hid py;rw[hc];simp only[ne_eq,not_true,if_false,if_neg hfull]
   have c5:(w.setCell ⟨b,2,none⟩ (.int .i32 1)).cell? ⟨b,5,none⟩=some (.int .i64 s.rs.length):=iR.cell (o:=5) rfl;have f5:(w.setCell ⟨b,2,none⟩ (.int .i32 1)).frozen? ⟨b,5,none⟩=false:=iR.frozen 5;have kQ:=iR.set 5 (.int .i64 ((s.rs.length:Int)+1));unfold ptr;clear hI hf;go_enter_defers Tryz.func21,Tryz.ntmps21;go_wp2_with fail
   refine cc.mono ?_;rintro e w1 ⟨rfl,rfl⟩;clear cc;go_wp2_with fail
   refine(lock_free Tryz.a9 ⟨b,2,none⟩ _ c2 f2).mono ?_;rintro e w' ⟨rfl,rfl⟩;have LP:gb≠b:=fun e=>AL (by rw[e,h.tag]);have eK:∀k,k≠b->((w1.setCell ⟨b,2,none⟩ (.int .i32 1)).setCell ⟨b,5,none⟩ (.int .i64 ((s.rs.length:Int)+1))).heap[k]?=w1.heap[k]? :=fun k hk=>(zbv _ _ _ _ hk).trans (zbv _ _ _ _ hk);have Wc:((w1.setCell ⟨b,2,none⟩ (.int .i32 1)).setCell ⟨b,5,none⟩ (.int .i64 ((s.rs.length:Int)+1))).heap.size=w1.heap.size:=by simp[World.setCell]
   have Iz:((w1.setCell ⟨b,2,none⟩ (.int .i32 1)).setCell ⟨b,5,none⟩ (.int .i64 ((s.rs.length:Int)+1))).os=w1.os/\((w1.setCell ⟨b,2,none⟩ (.int .i32 1)).setCell ⟨b,5,none⟩ (.int .i64 ((s.rs.length:Int)+1))).tape=w1.tape/\((w1.setCell ⟨b,2,none⟩ (.int .i32 1)).setCell ⟨b,5,none⟩ (.int .i64 ((s.rs.length:Int)+1))).output=w1.output:=⟨rfl,rfl,rfl⟩
   go_wp2_with (at_len;refine wpList_len_own _ rfl _ 103 rfl 3 106 Tryz.underlying103 aL A.R.rm mn mD rfl hown ?_;rw[hsize])
   generalize (w1.setCell ⟨b,2,none⟩ (.int .i32 1)).setCell ⟨b,5,none⟩ (.int .i64 ((s.rs.length:Int)+1))=wC at *;have s0:wC.cell? ⟨b,0,none⟩=some (.int .i64 s.mode):=kQ.cell (o:=0) rfl;have s1:wC.cell? ⟨b,1,none⟩=some A.cD:=kQ.cell (o:=1) rfl;have s4:wC.cell? ⟨b,5,none⟩=some (.int .i64 ((s.rs.length:Int)+1)):=kQ.cell (o:=5) rfl;have s5:wC.cell? ⟨b,7,none⟩=some (.map (some A.R.rm)):=kQ.cell (o:=7) rfl;have Fh:wC.ownsRow 0 130 1 A.cD s.parts ((List.range s.parts).map (fun q=>ptr (A.pb q))):=ak h.cD (fun k hk=>eK k (fun e=>by have h1:=h.eI k hk;rw[e,h.tag]at h1;simp at h1));have y5:∀(k:Nat) (x:ByteArray),L[k]?=some x->wC.cell? ⟨gb,go+k,none⟩=some (.string x):=fun k x hx=>(zbw (w:=w1) (eK gb LP)).trans (hcell k x hx);have cn:=Fu (w:=wC.drew) (τ:=τ) (aD:=aD) (i:=s.rs.length) (P:=s.parts) (pb:=A.pb) (L:=L) b s.mode s0 A.cD s1 Fh hp1 HY gb go cap h1 h8 hg hnd y5;unfold ptr at cn;have hMC:aK wC Tryz.prog 3 A.R.rm (dc s.rs A.R):=h.reads.qR.of_eq (eK _ L4);have We:=kQ.lt;have hn1: -9223372036854775808<=(s.rs.length:Int)+1:=by omega
   have hn2:(s.rs.length:Int)+1<=9223372036854775807:=by omega
   have tu:(lB s.rs).length<maxLen:=by rw[oI];unfold maxLen;omega
   clear hcell y5 Fh c5 f5 hown mU c7 hsize s0;go_region_held3 (fun W=>W.cell? ⟨b,5,none⟩=some (.int .i64 ((s.rs.length:Int)+1))/\W.cell? ⟨b,7,none⟩=some (.map (some A.R.rm))) (simp[*]) ((go_at_call 39;refine cn.mono ?_;rintro e w2 ⟨τ',pr,qm,qb,ks,rfl,hPW,dP,sP⟩;have k4:=(dP.cell (p:=⟨b,5,none⟩) We).trans s4;have k5:=(dP.cell (p:=⟨b,7,none⟩) We).trans s5;obtain⟨w3,hup,G0,hTu⟩:=(hMC.of_eq (w':=w2) (dP.block _ hMC.lt)).store (t:=103) (e:=106) eD Tryz.underlying103 (lB s.rs) (fun kl hh=>(zf kl).1 hh) tu (keyOf_int hn1 hn2) (.pointer (some ⟨pr,0,none⟩));have C7:=rz.fR hTu;have m4:=(zbw (w:=w2) (a:=⟨b,5,none⟩) (C7.block b (fun e=>L4 e.symm))).trans k4;have m5:=(zbw (w:=w2) (a:=⟨b,7,none⟩) (C7.block b (fun e=>L4 e.symm))).trans k5))
   clear cn;go_wp2_with fail
   have BM:aT w3 b _ _:=(kQ.of_eq (dP.block b We)).of_eq (C7.block b (fun e=>L4 e.symm));refine leaves_cons (f:=38) (args:=#[.pointer (some ⟨b,2,none⟩)]) (by simp) (by simp[go_sem]) ?_;refine(unlock_deferred Tryz.a9 ⟨b,2,none⟩ .returning _ (BM.cell (o:=2) rfl) (BM.frozen 2)).mono ?_;rintro e u' w'' ⟨rfl,rfl,rfl⟩;rw[Hr.out];have IA:wC.drew.heap.size=w1.heap.size:=Wc;rw[IA]at hPW sP;have Og:w1.heap.size<=w2.heap.size:=by have:=dP.size;rw[IA]at this;exact this
   have hold:∀k,k<w1.heap.size->k≠b->k≠A.R.rm->(w3.setCell ⟨b,2,none⟩ (.int .i32 0)).heap[k]?=w1.heap[k]? :=fun k hk hkb hkm=>
    (zbv _ _ _ _ hkb).trans ((C7.block k hkm).trans ((dP.block k (by rw[IA];exact hk)).trans (eK k hkb)))
   have ae4:=h.reads.qR.lt;have vP:=h.blk.lt;refine⟨_,results_tmp2 rfl _ _ _,τ',_,rfl,h.aaE h1 h8 hg hnd (by omega) (w':=w3.setCell ⟨b,2,none⟩ (.int .i32 0)) rfl (hPW.frame (fun k hk tu=>(zbv _ _ _ _ (by simp only;omega)).trans (C7.block k (by omega)))) sP hold ?_ (G0.of_eq (zbv _ _ _ _ L4)),?_⟩
   ·have:=BM.set 2 (.int .i32 0);simpa[fy,gF]using this
   ·refine⟨C7.os.trans (dP.os.trans Iz.1),C7.tape.trans (dP.tape.trans Iz.2.1),C7.output.trans (dP.output.trans Iz.2.2),?_,fun k hk=>sP k (by omega),fun k hk hs=>?_⟩
    ·have:=C7.size;simp[World.setCell];omega
    ·exact hold k (by omega) (fun e=>hs (by rw[e,h.tag])) (fun e=>hs (by rw[e,h.reads.gS]))
 ·have Hr:Hid (py s L=(0,iH L,s)):=by unfold Hid py;simp[hc]
  have hne:(iH L != 0)=true:=by rw[bne_iff_ne];exact hc
  generalize iH L=c at *;unfold ptr;clear hI hf;go_enter_defers Tryz.func21,Tryz.ntmps21;go_wp2_with fail
  refine cc.mono ?_;rintro e w1 ⟨rfl,rfl⟩;clear cc;go_wp2_with fail
  rw[Hr.out];exact⟨_,results_tmp2 rfl _ _ _,τ,A,rfl,h,Stp.refl _ _ _⟩
end
end Go.Proofs.YteoahlieielcdaaGreat
