import Derived.Test.YteoahlieielcdaaGreatPr1
import Derived.Test.YteoahlieielcdaaGreatRef6
set_option linter.all false
set_option maxHeartbeats 2000000
set_option maxRecDepth 100000
namespace Go.Proofs.YteoahlieielcdaaGreat
open Go Go.RowKit Go.MuLone
abbrev zar:=@RowKit.Below.heap_setCell
abbrev zas:=@RowKit.Below.heap_alloc
abbrev zat:=@Nat.le_refl
abbrev zau:=@List.getElem?_eq_getElem
abbrev zav:=@List.mem_map
variable{key x kk:ByteArray}{w w':World}{v ks' v2:Value}{L:List ByteArray}{l:List UInt8}{new:Nat}
section
section
variable {w:World}
theorem LV(key:ByteArray)(gb go:Nat)(L:List ByteArray)(cap:Nat)(h8:L.length<=8)(hcell:∀(k:Nat) (x:ByteArray),L[k]?=some x->w.cell? ⟨gb,go+k,none⟩=some (.string x))(n:Nat)(hn:n<=L.length):
 Calls Tryz.prog 106 #[.slice (some ⟨gb,go,none⟩) n cap,.string key] w fun e w'=>(∃i:Int,e=.returned (.int .i64 i)/\(dX (L.take n) key=decide (0<=i)))/\w'=w:=by
 go_enter Tryz.func106,Tryz.ntmps106;go_wp2_with fail
 go_loop [8] (fun u=>∃k:Nat,k<=n/\u=.int .i64 k/\Hid (∀j y,j<k->L[j]?=some y->y≠key)) (fun u=>n-(intOf u).toNat)
 case atStart=>exact⟨0,Nat.zero_le _,rfl,fun j y hj=>by omega⟩
 case round=>
  obtain⟨k,hk,rfl,HO⟩:=hrel;by_cases hlt:k<n
  ·have Ix:k<L.length:=by omega
   have hx:L[k]?=some L[k]:=zau Ix;have ck:=hcell k _ hx;clear hcell;generalize L[k]=kk at *;by_cases he:key=kk
   ·have Hr:Hid (dX (L.take n) key=true):=yd hlt hx he.symm;have hb:=sY he;clear he hx;go_wp2_with fail
    go_ret;exact⟨⟨k,rfl,by rw[Hr.out];simp⟩,rfl⟩
   ·have Ry:Hid (∀j y,j<k+1->L[j]?=some y->y≠key):=by
     intro j y hj hy;by_cases e:j=k
     ·subst e;rw[hx]at hy;cases hy;exact fun e=>he e.symm
     ·exact HO.out j y (by omega) hy
    have hb:=sX he;clear he hx;go_wp2_with fail
    go_round
    case rel=>exact⟨k+1,by omega,by go_num,Ry⟩
    case measure=>simp[intOf];omega
  ·have Hr:Hid (dX (L.take n) key=false):=yf (fun j y hj=>HO.out j y (by omega));clear hcell;go_wp2_with fail
   go_ret;exact⟨⟨-1,rfl,by rw[Hr.out];simp⟩,rfl⟩
theorem AO(key:ByteArray)(gb go:Nat)(L:List ByteArray)(cap:Nat)(h8:L.length<=8)(hcell:∀(k:Nat) (x:ByteArray),L[k]?=some x->w.cell? ⟨gb,go+k,none⟩=some (.string x))(n:Nat)(hn:n<=L.length):
 Calls Tryz.prog 69 #[.slice (some ⟨gb,go,none⟩) n cap,.string key] w fun e w'=>e=.returned (.bool (dX (L.take n) key))/\w'=w:=by
 have c:=LV key gb go L cap h8 hcell n hn;clear hcell;go_enter Tryz.func69,Tryz.ntmps69;go_wp2_with fail
 refine c.mono ?_;rintro e w' ⟨⟨i,rfl,Hi⟩,rfl⟩;have HI:Hid (dX (L.take n) key=decide (0<=i)):=Hi;clear c Hi;go_wp2_with fail
 go_ret;exact⟨dH HI.out.symm,rfl⟩
theorem y8(a:Option Addr)(L:List ByteArray)(cap:Nat)(hL:L.length<=maxLen)(hs:L.length<1\/8<L.length):
 Calls Tryz.prog 36 #[.slice a L.length cap] w fun e w'=>e=.returned (.int .i64 (iH L))/\w'=w:=by
 have Hr:Hid (iH L=3):=by unfold Hid iH;rw[if_pos hs]
 unfold maxLen at hL;have cz:=oc L.length w;have hg:gx L.length=false:=by
  unfold gx;rcases hs with e|e
  ·rw[decide_eq_false (by omega)];rfl
  ·rw[Bool.and_eq_false_iff];exact Or.inr (decide_eq_false (by omega))
 rw[hg]at cz;clear hs hg;go_enter Tryz.func36,Tryz.ntmps36;go_wp2_with (go_at_call 68;refine cz.mono ?_;rintro e w' ⟨rfl,rfl⟩)
 go_ret;exact⟨iu Hr.out.symm,rfl⟩
theorem y9(gb go:Nat)(L:List ByteArray)(cap:Nat)(h1:1<=L.length)(h8:L.length<=8)(Sw:L.length<=cap)(hcm:cap<=maxLen)(hz:∀x∈L,x.size<=maxLen)
 (hcell:∀(k:Nat) (x:ByteArray),L[k]?=some x->w.cell? ⟨gb,go+k,none⟩=some (.string x)):
 Calls Tryz.prog 36 #[.slice (some ⟨gb,go,none⟩) L.length cap] w fun e w'=>e=.returned (.int .i64 (iH L))/\w'=w:=by
 have HC:Hid (iH L=fI [] L):=by unfold Hid iH;rw[if_neg (by omega)]
 unfold maxLen at hcm;have cz:=oc L.length w;have AL:gx L.length=true:=by unfold gx;rw[decide_eq_true (show (1:Int)<=L.length by omega),decide_eq_true (show (L.length:Int)<=8 by omega)];rfl
 rw[AL]at cz;clear AL;go_enter Tryz.func36,Tryz.ntmps36;go_wp2_with (go_at_call 68;refine cz.mono ?_;rintro e w' ⟨rfl,hw0⟩;obtain rfl:=hw0.symm)
 clear cz;go_loop [11] (fun u=>∃k:Nat,k<=L.length/\u=.int .i64 k/\Hid (fI [] L=fI (L.take k) (L.drop k))) (fun u=>L.length-(intOf u).toNat)
 case atStart=>exact⟨0,Nat.zero_le _,rfl,by simp[Hid]⟩
 case round=>
  obtain⟨k,hk,rfl,HK⟩:=hrel;by_cases hlt:k<L.length
  ·have hx:L[k]?=some L[k]:=zau hlt;have c1:=hcell k _ hx;have hs1:=hz _ (List.getElem_mem hlt);have ck:=u7 L[k] w hs1;have cc:=AO (w:=w) L[k] gb go L cap h8 hcell k hk;generalize L[k]=kk at *;unfold maxLen at hs1;cases yB:bK kk with
   |false=>
    have Hr:Hid (iH L=4):=by unfold Hid;rw[HC.out,HK.out,za hx,SG yB]
    rw[yB]at ck;clear yB hx hcell cc;go_wp2_with (go_at_call 49;refine ck.mono ?_;rintro e w' ⟨rfl,rfl⟩)
    go_ret;exact⟨iu Hr.out.symm,rfl⟩
   |true=>
    rw[yB]at ck;cases hh:dX (L.take k) kk with
    |true=>
     have Hr:Hid (iH L=5):=by unfold Hid;rw[HC.out,HK.out,za hx,LW yB hh]
     rw[hh]at cc;clear yB hx hh hcell;go_wp2_with (first|(go_at_call 49;refine ck.mono ?_;rintro e w' ⟨rfl,rfl⟩)|(go_at_call 69;refine cc.mono ?_;rintro e w' ⟨rfl,rfl⟩))
     go_ret;exact⟨iu Hr.out.symm,rfl⟩
    |false=>
     have HK':Hid (fI [] L=fI (L.take (k+1)) (L.drop (k+1))):=by unfold Hid;rw[HK.out,za hx,Wh yB hh,Pj hx]
     rw[hh]at cc;clear yB hx hh hcell;go_wp2_with (first|(go_at_call 49;refine ck.mono ?_;rintro e w' ⟨rfl,rfl⟩)|(go_at_call 69;refine cc.mono ?_;rintro e w' ⟨rfl,rfl⟩))
     go_round
     case rel=>exact⟨k+1,by omega,by go_num,HK'⟩
     case measure=>simp[intOf];omega
  ·have Hr:Hid (iH L=0):=by unfold Hid;rw[HC.out,HK.out,show k=L.length from by omega,List.drop_length];rfl
   clear hcell;go_wp2_with fail
   go_ret;exact⟨iu Hr.out.symm,rfl⟩
end
end
section
open Go.Maps (Keyed)
def Hit(n:Int)(ws:List MW)(key:ByteArray)(i:Nat):Prop:=∃m,ws[i]?=some m/\aH m.items key=true/\m.comm (partOf n key).toNat=true
theorem Pm{n:Int}{ws:List MW}:∀(k v:Nat),v<=k->(v≠0->Hit n ws key (v-1))->(∀i,i<k->Hit n ws key i->i+1<=v)->pJ n ws key k=v:=by
 intro k;induction k with
 |zero=>intro v h1 _ _;simp[pJ];omega
 |succ k ih=>
  intro v h1 hs ht;by_cases hh:Hit n ws key k
  ·have:=ht k (by omega) hh;obtain⟨m,hm,a,b⟩:=hh;rw[LX hm a b];omega
  ·have hv:v<=k:=by
    apply Classical.byContradiction;intro e;have:v=k+1:=by omega
    subst this;exact hh (hs (by omega))
   have hr:=ih v hv hs (fun i hi=>ht i (by omega));rw[<-hr];show pJ n ws key (k+1)=_;simp only[pJ];split
   ·rename_i m hm;rw[if_neg (fun e=>hh ⟨m,hm,by simpa using e⟩)]
   ·rfl
theorem Fj(w:World):(zeroValue 106).run Tryz.prog w=.ok (.pointer none) w:=by rw[Tryz.zeroValue106]
theorem jQ(w:World):(zeroValue 139).run Tryz.prog w=.ok (.pointer none) w:=by rw[Tryz.zeroValue139]
section
variable {w:World}{τ:Nat->Tag}{aD b:Nat}{s:MS}{A:SA}
theorem aW.Pn(h:aW w τ aD b s A)(key:ByteArray):A.vis (partOf s.parts key).toNat key.data.toList=aU s key:=by
 have hp1:=h.ok.p1;obtain⟨h0,h1⟩:=eM s.parts key (by omega);have hq:(partOf s.parts key).toNat<s.parts:=by omega
 have hv:=h.l6 _ hq;symm;unfold aU;refine Pm _ _ ?_ (fun hne=>?_) (fun i hi hh=>?_)
 ·by_cases e:A.vis (partOf s.parts key).toNat key.data.toList=0
  ·omega
  ·obtain⟨m,hm,_⟩:=hv.seen _ e;have:=aE hm;omega
 ·obtain⟨m,hm,hc,x,hx,hxl,_⟩:=hv.seen _ hne;refine⟨m,hm,?_,hc⟩;simp only[aH,List.any_eq_true,decide_eq_true_eq];exact⟨x,hx,WideShapes.bytes_inj hxl⟩
 ·obtain⟨m,hm,hk,hc⟩:=hh;simp only[aH,List.any_eq_true,decide_eq_true_eq]at hk;obtain⟨x,hx,rfl⟩:=hk;exact hv.top i m x hm hc hx (by omega)
theorem gV{b o:Nat}{c:Array Value}{t:TypeId}(h:aT w b c t)(hv:c[o]?=some v):w.setCell ⟨b,o,none⟩ v=w:=by
 have e:(w.setCell ⟨b,o,none⟩ v).heap=w.heap:=by
  apply Array.ext_getElem?;intro i;by_cases ei:i=b
  ·subst ei;have h1:(w.setCell ⟨i,o,none⟩ v).heap[i]?=some (.cells (c.setIfInBounds o v) t (0,0)):=h.set o v;have h2:w.heap[i]?=some (.cells c t (0,0)):=h;rw[h1,h2];congr 2;obtain⟨ho,hv'⟩:=Array.getElem?_eq_some_iff.1 hv;apply Array.ext_getElem?;intro j;by_cases ej:o=j
   ·subst ej;simp[ho,hv']
   ·simp[ej]
  ·rw[zar _ _ _ _ ei]
 show {w with heap:=(w.setCell ⟨b,o,none⟩ v).heap}=w;rw[e]
theorem Fl:(Tryz.prog.info? 144).map (·.size)=some 4:=by kernel_rfl
theorem Po(pb kb vb:Nat)(f:Lit->Option Value)(hb:aT w pb #[fy,gF,.map (some kb),.map (some vb)] 202)(hM:aK w Tryz.prog 9 vb f)(key:ByteArray)(hk:key.size<=maxLen)(v:Nat)(hf:(f (.string key.data.toList)).getD (.int .i64 0)=.int .i64 v):
 Calls Tryz.prog 74 #[ptr pb,.string key] w fun e w'=>e=.returned (.agg #[.int .i64 v,.bool false,.string ⟨#[]⟩,.nilIface])/\Below w.heap.size w w':=by
 have hpl:=hb.lt;have hvl:=hM.lt;have hne:=cU hb hM;have iR:aT (w.alloc (.cells #[.int .i64 0,.bool false,.string ⟨#[]⟩,.nilIface] 144)) pb _ _:=hb.of_eq (zas _ _ _ hpl);have mU:aK (w.alloc (.cells #[.int .i64 0,.bool false,.string ⟨#[]⟩,.nilIface] 144)) Tryz.prog 9 vb f:=hM.of_eq (zas _ _ _ hvl);have hT:=aT.new w #[.int .i64 0,.bool false,.string ⟨#[]⟩,.nilIface] 144;have hBo:∀k,k<w.heap.size->(w.alloc (.cells #[.int .i64 0,.bool false,.string ⟨#[]⟩,.nilIface] 144)).heap[k]?=w.heap[k]? :=fun k hk=>zas _ _ _ hk;have hsz:(w.alloc (.cells #[.int .i64 0,.bool false,.string ⟨#[]⟩,.nilIface] 144)).heap.size=w.heap.size+1:=by simp
 have hos:(w.alloc (.cells #[.int .i64 0,.bool false,.string ⟨#[]⟩,.nilIface] 144)).os=w.os/\(w.alloc (.cells #[.int .i64 0,.bool false,.string ⟨#[]⟩,.nilIface] 144)).tape=w.tape/\(w.alloc (.cells #[.int .i64 0,.bool false,.string ⟨#[]⟩,.nilIface] 144)).output=w.output:=⟨rfl,rfl,rfl⟩
 unfold ptr;go_enter_defers Tryz.func74,Tryz.ntmps74;go_wp2_with fail
 generalize w.alloc (.cells #[.int .i64 0,.bool false,.string ⟨#[]⟩,.nilIface] 144)=wa at *;have c0:wa.cell? ⟨pb,0,none⟩=some (.int .i32 0):=iR.cell (o:=0) rfl;have f0:=iR.frozen 0;refine(lock_free Tryz.a9 ⟨pb,0,none⟩ _ c0 f0).mono ?_;rintro e w' ⟨rfl,rfl⟩;have kQ:=iR.set 0 (.int .i32 1);have xd:aK (wa.setCell ⟨pb,0,none⟩ (.int .i32 1)) Tryz.prog 9 vb f:=mU.of_eq (zar _ _ _ _ (fun e=>hne e.symm));have sP:aT (wa.setCell ⟨pb,0,none⟩ (.int .i32 1)) w.heap.size _ _:=hT.of_eq (zar _ _ _ _ (by simp only;omega));generalize Pp:wa.setCell ⟨pb,0,none⟩ (.int .i32 1)=wb at *;have d3:wb.cell? ⟨pb,3,none⟩=some (.map (some vb)):=kQ.cell (o:=3) rfl;have t0:=sP.cell (o:=0) (v:=.int .i64 0) rfl;have t1:=sP.cell (o:=1) (v:=.bool false) rfl;have t2:=sP.cell (o:=2) (v:=.string ⟨#[]⟩) rfl;have t3:=sP.cell (o:=3) (v:=.nilIface) rfl;have g0:=sP.frozen 0;have g1:=sP.frozen 1;have g2:=sP.frozen 2;have g3:=sP.frozen 3;have hlk:(Instr.lookup 200 (.map (some vb)) (.string key) false).run Tryz.prog wb.drew=.ok (.int .i64 v) wb.drew:=by have:=aK.look (w:=wb.drew) (e:=3) xd dI Tryz.underlying200 (C9 _) (dZ hk);rw[hf]at this;exact this
 go_wp2_with fail
 have Pq:pb≠w.heap.size:=by omega
 have Lh:aT wb.drew w.heap.size _ _:=sP;have IB:∀x,(wb.setCell ⟨w.heap.size,0,none⟩ x).drew.cell? ⟨pb,3,none⟩=some (.map (some vb)):=fun x=>(fM (w:=wb) Pq).trans d3;have z0:wb.drew.setCell ⟨w.heap.size,0,none⟩ (.int .i64 0)=wb.drew:=gV Lh rfl;have z1:wb.drew.setCell ⟨w.heap.size,1,none⟩ (.bool false)=wb.drew:=gV Lh rfl;have z2:wb.drew.setCell ⟨w.heap.size,2,none⟩ (.string ⟨#[]⟩)=wb.drew:=gV Lh rfl;have z3:wb.drew.setCell ⟨w.heap.size,3,none⟩ .nilIface=wb.drew:=gV Lh rfl;go_region_held3 (fun W=>W.cell? ⟨pb,3,none⟩=some (.map (some vb))) (first|exact IB _|(simp[*];done)) (fail)
 all_goals
  go_wp2_with fail
  have BM:aT (wb.setCell ⟨w.heap.size,0,none⟩ (.int .i64 v)).drew pb _ _:=kQ.of_eq (zar _ _ _ _ Pq)
  have Em:aT (wb.setCell ⟨w.heap.size,0,none⟩ (.int .i64 v)).drew w.heap.size #[.int .i64 v,.bool false,.string ⟨#[]⟩,.nilIface] 144:=by
   have this:aT (wb.setCell ⟨w.heap.size,0,none⟩ (.int .i64 v)) w.heap.size #[.int .i64 v,.bool false,.string ⟨#[]⟩,.nilIface] 144:=by simpa using sP.set 0 (.int .i64 v)
   exact this
  have Lb:aT ((wb.setCell ⟨w.heap.size,0,none⟩ (.int .i64 v)).drew.setCell ⟨pb,0,none⟩ fy) w.heap.size _ _:=Em.of_eq (zar _ _ _ _ (fun e=>Pq e.symm))
  refine leaves_cons (f:=38) (args:=#[.pointer (some ⟨pb,0,none⟩)]) (by simp) (by simp[go_sem]) ?_
  refine(unlock_deferred Tryz.a9 ⟨pb,0,none⟩ .returning _ (BM.cell (o:=0) rfl) (BM.frozen 0)).mono ?_
  rintro e u' w'' ⟨rfl,rfl,rfl⟩
  refine⟨_,results_cell_row rfl _ _ w.heap.size _ _ (0,0) _ rfl Lb Tryz.underlying144 rfl Fl,rfl,?_,?_,?_,?_,?_⟩
  ·rw[<-Pp];exact hos.1
  ·rw[<-Pp];exact hos.2.1
  ·rw[<-Pp];exact hos.2.2
  ·have:wb.heap.size=wa.heap.size:=by rw[<-Pp];simp[World.setCell]
   simp[World.setCell];omega
  ·intro k hk
   refine(eW iR rfl (v:=.int .i32 1) (p:=fun k=>k<w.heap.size) (fun k hk=>?_) k hk).trans (hBo k hk)
   rw[Pp]
   exact zar _ _ _ _ (by simp only;omega)
def fQ(s:MS)(A:SA)(n:Int):Value×Bool:=match gN s n with
 |some _=>(ptr (A.R.pr (n-1).toNat),true)
 |none=>(.pointer none,false)
theorem nZ(h:aW w τ aD b s A)(n:Int)(hn: -9223372036854775808<=n)(hn':n<=9223372036854775807):
 Calls Tryz.prog 40 #[ptr b,.int .i64 n] w fun e w'=>e=.returned (.tuple #[(fQ s A n).1,.bool (fQ s A n).2])/\u6 w w':=by
 have c2:w.cell? ⟨b,2,none⟩=some (.int .i32 0):=h.blk.cell (o:=2) rfl;have c7:w.cell? ⟨b,7,none⟩=some (.map (some A.R.rm)):=h.blk.cell (o:=7) rfl;have f2:=h.blk.frozen 2;have hM:∀v,aK (w.setCell ⟨b,2,none⟩ v) Tryz.prog 3 A.R.rm (dc s.rs A.R):=fun v=>h.reads.qR.of_eq (zar _ _ _ _ (fun e=>by have:=h.reads.gS;rw[e,h.tag]at this;simp at this));have eF:=gm h.blk (o:=2) rfl (.int .i32 1);unfold fy at eF;obtain⟨fv,aj,hval⟩:∃fv,dc s.rs A.R (.int .i64 n)=fv/\(fQ s A n).1=fv.getD (.pointer none)/\(fQ s A n).2=fv.isSome:=by refine⟨_,rfl,?_⟩;unfold dc fQ gN;cases hf:fO s.rs n<;>simp only[hf]<;>exact⟨rfl,rfl⟩
 rw[hval.1,hval.2];unfold ptr;go_enter_defers Tryz.func40,Tryz.ntmps40;go_wp2_with (first|(go_at_call 37;refine(lock_free Tryz.a9 ⟨b,2,none⟩ _ c2 f2).mono ?_;rintro e w' ⟨rfl,rfl⟩)|(at_lookup;refine bZ _ rfl _ _ 103 rfl 3 106 eD Tryz.underlying103 (Fj _) A.R.rm (dc s.rs A.R) rfl (hM _) _ (.int .i64 n) rfl (keyOf_int hn hn') fv aj ?_))
 refine leaves_cons (f:=38) (args:=#[.pointer (some ⟨b,2,none⟩)]) (by simp) (by simp[go_sem]) ?_;refine(unlock_deferred Tryz.a9 ⟨b,2,none⟩ .returning _ ?_ ?_).mono ?_
 ·exact World.cell?_setCell_same w ⟨b,2,none⟩ (.int .i32 1) c2
 ·simp[f2]
 rintro e u' w'' ⟨rfl,rfl,rfl⟩;exact⟨_,results_tmp2 rfl _ _ _,rfl,eF⟩
end
end
section
open Go.Maps (Keyed)
section
variable {w:World}
theorem Wy:(Tryz.prog.info? 155).map (fun i=>decide (i.size=0))=some false:=by kernel_rfl
theorem PL(a:Addr)(x:Int)(hc:w.cell? a=some (.int .u64 x)):Calls Tryz.prog 121 #[.pointer (some a)] w fun e w'=>e=.returned (.int .u64 x)/\w'=w:=by have hl:=run_call_load (P:=Tryz.prog) (f:=148) Tryz.func148 (by kernel_rfl) (by kernel_rfl) (by kernel_rfl) .u64 (by kernel_rfl) hc;go_enter Tryz.func121,Tryz.ntmps121;go_wp2;go_ret;exact⟨rfl,rfl⟩
theorem Me(g:Nat)(hb:aT w g #[.int .u64 0,.int .u32 0] 155):Calls Tryz.prog 82 #[ptr g] w fun e w'=>e=.returned (.tuple #[])/\w'=w:=by
 have c0:w.cell? ⟨g,0,none⟩=some (.int .u64 0):=hb.cell (o:=0) rfl;have hd:=disable Tryz.a9;have he:=enable Tryz.a9;have ha:=acquire Tryz.a9;have hcv:=run_convert_to_unsafe (P:=Tryz.prog) (src:=215) (dst:=208) Tryz.underlying215 Tryz.underlying208 Wy c0;have cl:=PL ⟨g,0,none⟩ 0 c0;unfold ptr;go_enter Tryz.func82,Tryz.ntmps82;go_wp2_with fail
 refine wp_loop_rounds 1 ?_;rw[rounds_succ];go_wp2_with fail
 refine cl.mono ?_;rintro e w' ⟨rfl,rfl⟩;go_wp2_with fail
 exact bodyPost_ret (results_none rfl _ _ _) rfl ⟨rfl,rfl⟩
theorem xM:(Tryz.prog.info? 62).map (·.size)=some 3:=by kernel_rfl
theorem AV(k:ByteArray)(n:Int)(v:ByteArray)(hv:v.size<=1000):Calls Tryz.prog 78 #[.string k,.int .i64 n,.string v] w fun e w'=>e=.returned (.agg #[.string k,.int .i64 n,.string v])/\Below w.heap.size w w':=by
 have cc:=u9 (w:=w.alloc (.cells #[.string ⟨#[]⟩,.int .i64 0,.string ⟨#[]⟩] 62)) v hv;go_enter Tryz.func78,Tryz.ntmps78;go_wp2_with fail
 refine cc.mono ?_;rintro e w2 ⟨rfl,dP⟩;have hA:aT w2 w.heap.size #[.string ⟨#[]⟩,.int .i64 0,.string ⟨#[]⟩] 62:=(aT.new w _ _).of_eq (dP.block _ (by simp));have t0:=hA.cell (o:=0) (v:=.string ⟨#[]⟩) rfl;have t1:=hA.cell (o:=1) (v:=.int .i64 0) rfl;have t2:=hA.cell (o:=2) (v:=.string ⟨#[]⟩) rfl;have g0:=hA.frozen 0;have g1:=hA.frozen 1;have g2:=hA.frozen 2;clear cc;go_wp2_with fail
 have Hq:aT (((w2.setCell ⟨w.heap.size,0,none⟩ (.string k)).setCell ⟨w.heap.size,1,none⟩ (.int .i64 n)).setCell ⟨w.heap.size,2,none⟩ (.string v)) w.heap.size #[.string k,.int .i64 n,.string v] 62:=by simpa using((hA.set 0 (.string k)).set 1 (.int .i64 n)).set 2 (.string v)
 (try simp only[Exit.inBlock,Exit.then]);refine bodyPost_ret (results_cell_row rfl _ _ w.heap.size _ _ (0,0) _ rfl Hq Tryz.underlying62 rfl xM) rfl ⟨rfl,?_⟩;exact((((Below.refl w.heap.size w).alloc (zat _) _).trans (dP.mono (by simp))).setCell (p:=⟨w.heap.size,0,none⟩) (zat _) _).setCell (p:=⟨w.heap.size,1,none⟩) (zat _) _ |>.setCell (p:=⟨w.heap.size,2,none⟩) (zat _) _
theorem pQ(wb rm:Nat)(c:Array Value)(f:Lit->Option Value)(hb:aT w wb c 105)(e2:c[2]?=some fy)(e7:c[7]?=some (.map (some rm)))(hM:aK w Tryz.prog 3 rm f)(n:Int)(h1: -9223372036854775808<=n)(h2:n<=9223372036854775807):
 Calls Tryz.prog 43 #[ptr wb,.int .i64 n] w fun e w'=>e=.returned (.bool (f (.int .i64 n)).isSome)/\aK w' Tryz.prog 3 rm (del f (.int .i64 n))/\rz w w' rm:=by
 have c2:w.cell? ⟨wb,2,none⟩=some (.int .i32 0):=hb.cell e2;have c5:w.cell? ⟨wb,7,none⟩=some (.map (some rm)):=hb.cell e7;have f2:=hb.frozen 2;have hne:=cU hb hM;have mU:∀v,aK (w.setCell ⟨wb,2,none⟩ v) Tryz.prog 3 rm f:=fun v=>hM.of_eq (zar _ _ _ _ (fun e=>hne e.symm));have XN:(c.setIfInBounds 2 (.int .i32 1))[2]?=some (.int .i32 1):=by have:=(Array.getElem?_eq_some_iff.1 e2).1;simp[this]
 unfold ptr;go_enter_defers Tryz.func43,Tryz.ntmps43;go_wp2_with (first|(go_at_call 37;refine(lock_free Tryz.a9 ⟨wb,2,none⟩ _ c2 f2).mono ?_;rintro e w' ⟨rfl,rfl⟩)|(at_lookup;refine bZ _ rfl _ _ 103 rfl 3 106 eD Tryz.underlying103 (Fj _) rm f rfl (mU _) _ (.int .i64 n) rfl (keyOf_int h1 h2) _ rfl ?_)|(at_delete;refine pI _ rfl _ _ 103 3 rfl 106 eD Tryz.underlying103 rm f rfl (mU _) _ (.int .i64 n) rfl (keyOf_int h1 h2) ?_;intro w1 xd hT))
 have hB:=rz.fR hT;have iR:aT w1 wb _ 105:=(hb.set 2 (.int .i32 1)).of_eq (hB.block wb hne);refine leaves_cons (f:=38) (args:=#[.pointer (some ⟨wb,2,none⟩)]) (by simp) (by simp[go_sem]) ?_;refine(unlock_deferred Tryz.a9 ⟨wb,2,none⟩ .returning _ (iR.cell (o:=2) XN) (iR.frozen 2)).mono ?_;rintro e u' w'' ⟨rfl,rfl,rfl⟩;exact⟨_,results_tmp rfl _ _ _,rfl,xd.of_eq (zar _ _ _ _ (fun e=>hne e.symm)),rz.locked hb e2 _ hB hne⟩
end
end
section
open Go.Maps (Keyed)
def qF(qb:Nat->Nat)(L:List ByteArray):Lit->Option Value
 |.string l=>if IE L l<L.length then some (ptr (qb (IE L l)))else none
 |_=>none
structure iJ(w:World)(τ:Nat->Tag)(aD i P:Nat)(pb:Nat->Nat)(pr qm:Nat)(qb:Nat->Nat)(no:Bool)(ks:Value)(L:List ByteArray)(B0:Nat):Prop where
 blk:aT w pr #[fy,gF,.bool no,ks,.map (some qm)] 137
 tag:τ pr=(aD,11,i)
 map:aK w Tryz.prog 9 qm (qF qb L)
 gU:τ qm=(aD,12,i)
 q:∀(j:Nat) (x:ByteArray),L[j]?=some x->aT w (qb j) #[ptr (pb (partOf P x).toNat),.bool false,.int .i64 0,.bool false,.string ⟨#[]⟩,.nilIface] 146
 lA:∀(j:Nat) (x:ByteArray),L[j]?=some x->τ (qb j)=(aD,13,i*8+j)
 ky:w.ownsRow 0 9 1 ks L.length (L.map Value.string)
 dF:∀k,ks.ownBlock=some k->τ k=(aD,14,i)
 lo:B0<=pr/\B0<=qm
 loQ:∀(j:Nat) (x:ByteArray),L[j]?=some x->B0<=qb j
 Nf:∀k,ks.ownBlock=some k->B0<=k
section
variable {w:World}{τ:Nat->Tag}{aD i P:Nat}{pb:Nat->Nat}{pr qm:Nat}{qb:Nat->Nat}{no:Bool}{ks:Value}{L:List ByteArray}{B0:Nat}
theorem iJ.frame(h:iJ w τ aD i P pb pr qm qb no ks L B0)(hB:∀k,B0<=k->k<w.heap.size->w'.heap[k]?=w.heap[k]?):iJ w' τ aD i P pb pr qm qb no ks L B0:=
 ⟨h.blk.of_eq (hB _ h.lo.1 h.blk.lt),h.tag,h.map.of_eq (hB _ h.lo.2 h.map.lt),h.gU,fun j x hx=>(h.q j x hx).of_eq (hB _ (h.loQ j x hx) (h.q j x hx).lt),h.lA,ak h.ky (fun k hk=>hB k (h.Nf k hk) (aR h.ky k hk).2),h.dF,h.lo,h.loQ,h.Nf⟩
theorem iJ.below(h:iJ w τ aD i P pb pr qm qb no ks L B0)(hB:Below w.heap.size w w'):iJ w' τ aD i P pb pr qm qb no ks L B0:=h.frame (fun k _ hk=>hB.block k hk)
theorem Wp(qb:Nat->Nat):qF qb []=fun _=>none:=by funext kl;cases kl<;>simp[qF]
theorem iJ.made(w:World)(τ:Nat->Tag)(aD i P:Nat)(pb:Nat->Nat)(no:Bool):
 iJ ((w.alloc (.map #[] 0)).alloc (.cells #[fy,gF,.bool no,.slice none 0 0,.map (some w.heap.size)] 137))
  (fun k=>if k=w.heap.size+1 then(aD,11,i)else if k=w.heap.size then(aD,12,i)else τ k) aD i P pb (w.heap.size+1) w.heap.size (fun _=>0) no (.slice none 0 0) [] w.heap.size:=by
 refine⟨?_,by simp,?_,by simp,fun j x hx=>by simp at hx,fun j x hx=>by simp at hx,World.ownsRow_nil _ _ _ _,fun k hk=>(by cases hk),⟨by omega,by omega⟩,fun j x hx=>by simp at hx,fun k hk=>(by cases hk)⟩
 ·have:=aT.new (w.alloc (.map #[] 0)) #[fy,gF,.bool no,.slice none 0 0,.map (some w.heap.size)] 137
  simpa using this
 ·rw[Wp]
  exact(aK.made w Tryz.prog 9).of_eq (zas _ _ _ (by simp))
theorem Fq:IE (L++ [x]) l=if IE L l<L.length then IE L l else if x.data.toList=l then L.length else L.length+1:=by
 unfold IE;rw[List.findIdx_append];split
 ·rfl
 ·by_cases e:x.data.toList=l<;>simp[e,List.findIdx_cons]<;>omega
theorem Da:IE L l<L.length↔∃x∈L,x.data.toList=l:=by unfold IE;rw[List.findIdx_lt_length];simp
theorem SK(hx:x ∉ L):qF (fun j=>if j=L.length then new else qb j) (L++ [x])=upd (qF qb L) (.string x.data.toList) (ptr new):=by
 funext kl;cases kl with
 |string l=>
  by_cases e:x.data.toList=l
  ·subst e;have hn:¬IE L x.data.toList<L.length:=fun h=>by obtain⟨y,hy,he⟩:=Da.1 h;exact hx (WideShapes.bytes_inj he▸hy)
   rw[upd_same (by simp[WideAt.IsKeyLit])];simp only[qF,Fq,if_neg hn,if_true,List.length_append,List.length_singleton];simp
  ·rw[fN (by simpa using fun e'=>e e'.symm)];simp only[qF,Fq,List.length_append,List.length_singleton];by_cases hn:IE L l<L.length
   ·have:IE L l≠L.length:=by omega
    simp only[if_pos hn,if_neg this];rw[if_pos (by omega)]
   ·simp only[if_neg hn,if_neg e];rw[if_neg (by omega)]
 |_=>simp[qF,upd,Lit.sameKey]
theorem iJ.push(h:iJ w τ aD i P pb pr qm qb no ks L B0)(hx:x ∉ L)(hnew:w.heap.size<=new)(uQ:B0<=w.heap.size)
 (hold:∀k,k<w.heap.size->k≠qm->k≠pr->ks.ownBlock≠some k->w'.heap[k]?=w.heap[k]?) (hb:aT w' new #[ptr (pb (partOf P x).toNat),.bool false,.int .i64 0,.bool false,.string ⟨#[]⟩,.nilIface] 146)
 (Ri:aT w' pr #[fy,gF,.bool no,ks',.map (some qm)] 137)
 (V8:w'.ownsRow 0 9 1 ks' (L.length+1) (L.map Value.string++ [.string x])) (hkb:∀k,ks'.ownBlock=some k->ks.ownBlock=some k\/(w.heap.size<=k/\k≠new))
 (hM:aK w' Tryz.prog 9 qm (upd (qF qb L) (.string x.data.toList) (ptr new))):
 iJ w' (fun k=>if k=new then(aD,13,i*8+L.length)else if ks'.ownBlock=some k then(aD,14,i)else τ k) aD i P pb pr qm (fun j=>if j=L.length then new else qb j) no ks' (L++ [x]) B0:=by
 have hin:∀{j:Nat} {y:ByteArray},(L++ [x])[j]?=some y->(j<L.length/\L[j]?=some y)\/(j=L.length/\y=x):=by
  intro j y hj;by_cases e:j<L.length
  ·rw[List.getElem?_append_left e]at hj;exact Or.inl ⟨e,hj⟩
  ·rw[List.getElem?_append_right (by omega)]at hj;have hi':=aE hj;simp at hi';have:j=L.length:=by omega
   subst this;simp at hj;exact Or.inr ⟨rfl,hj.symm⟩
 have hpq:pr≠qm:=cU h.blk h.map;have hlt:∀{k:Nat},k<w.heap.size->k≠new:=fun hk=>by omega
 have kJ:∀{k:Nat} {g:Nat×Nat},k<w.heap.size->τ k=(aD,g)->(g.1≠14)->(if k=new then(aD,13,i*8+L.length)else if ks'.ownBlock=some k then(aD,14,i)else τ k)=(aD,g):=by
  intro k g hk ht hg;rw[if_neg (hlt hk)];by_cases e:ks'.ownBlock=some k
  ·rcases hkb k e with e1|e1
   ·have:=h.dF k e1;rw[ht]at this;simp at this;exact absurd (by rw[this]) hg
   ·omega
  ·rw[if_neg e,ht]
 have hkn:∀{k:Nat} {g:Nat×Nat},τ k=(aD,g)->g.1≠14->ks.ownBlock≠some k:=fun ht hg e=>by have:=h.dF _ e;rw[ht]at this;simp at this;exact hg (by rw[this])
 refine⟨Ri,kJ h.blk.lt h.tag (by simp),?_,kJ h.map.lt h.gU (by simp),fun j y hj=>?_,fun j y hj=>?_,?_,fun k hk=>?_,h.lo,fun j y hj=>?_,fun k hk=>?_⟩
 ·rw[SK hx];exact hM
 ·rcases hin hj with⟨hjl,e⟩|⟨rfl,rfl⟩
  ·have:j≠L.length:=by omega
   simp only[this,if_false];have ht:=h.lA j y e;exact(h.q j y e).of_eq (hold _ (h.q j y e).lt (cU (h.q j y e) h.map) (fun e'=>by rw[e',h.tag]at ht;simp at ht) (hkn ht (by simp)))
  ·simpa using hb
 ·rcases hin hj with⟨hjl,e⟩|⟨rfl,rfl⟩
  ·have:j≠L.length:=by omega
   simp only[this,if_false];exact kJ (h.q j y e).lt (h.lA j y e) (by simp)
  ·simp
 ·simpa using V8
 ·show (if k=new then _ else _)=_;have:k≠new:=by
   rcases hkb k hk with e|e
   ·exact hlt (aR h.ky k e).2
   ·exact e.2
  rw[if_neg this,if_pos hk]
 ·rcases hin hj with⟨hjl,e⟩|⟨rfl,rfl⟩
  ·have:j≠L.length:=by omega
   simp only[this,if_false];exact h.loQ j y e
  ·simp;omega
 ·rcases hkb k hk with e|e
  ·exact h.Nf k e
  ·omega
theorem SM:∀kl,qF qb L kl≠none->kl∈L.map (fun x=>Lit.string x.data.toList):=by
 intro kl hk;cases kl with
 |string l=>
  simp only[qF]at hk;split at hk
  ·rename_i e;obtain⟨y,hy,he⟩:=Da.1 e;exact zav.2 ⟨y,hy,by rw[he]⟩
  ·exact absurd rfl hk
 |_=>exact absurd rfl hk
theorem L3(h:iJ w τ aD i P pb pr qm qb no ks L B0){w2 w3:World}{o:Obj}(hx:kk ∉ L)(uQ:B0<=w.heap.size)
 (hO:w2.ownsRow 0 9 1 v2 (L.length+1) (L.map Value.string++ [.string kk])) (hG:(w.alloc o).grownBy w2 ks.ownBlock) (hA:v2.ownBlock=ks.ownBlock\/v2.ownBlock=some (w.alloc o).heap.size)
 (hM:aK w3 Tryz.prog 9 qm (upd (qF qb L) (.string kk.data.toList) (ptr w2.heap.size)))
 (hT:rz ((w2.setCell ⟨pr,3,none⟩ v2).alloc (.cells #[ptr (pb (partOf P kk).toNat),.bool false,.int .i64 0,.bool false,.string ⟨#[]⟩,.nilIface] 146)) w3 qm):
 ∃τ' Pz ks',iJ w3 τ' aD i P pb pr qm Pz no ks' (L++ [kk]) B0/\Below B0 w w3/\∀k,k<w.heap.size->τ' k=τ k:=by
 have CY:=h.blk.lt;have Lu:=h.map.lt;have hlo:=h.lo;have hsz:w.heap.size<w2.heap.size:=by have:=hG.size;simp at this;omega
 have V4:w3.heap.size=w2.heap.size+1:=by have:=hT.size;simpa[World.setCell]using this
 have Wq:pr≠qm:=cU h.blk h.map;have hkp:ks.ownBlock≠some pr:=fun e=>by have:=h.dF _ e;rw[h.tag]at this;simp at this
 have XI:ks.ownBlock≠some qm:=fun e=>by have:=h.dF _ e;rw[h.gU]at this;simp at this
 have hnb:∀k,v2.ownBlock=some k->ks.ownBlock=some k\/w.heap.size<k:=fun k hk=>by
  rcases hA with e|e
  ·exact Or.inl (by rw[<-e];exact hk)
  ·rw[hk]at e;have:=Option.some.inj e;simp at this;exact Or.inr (by omega)
 have kQ:∀k,k<w2.heap.size->k≠qm->k≠pr->w3.heap[k]?=w2.heap[k]? :=fun k hk h1 h2=>
  (hT.block k h1).trans ((zas _ _ _ (by simpa[World.setCell]using hk)).trans (zar _ _ _ _ h2))
 have afh:aT w2 pr #[fy,gF,.bool no,ks,.map (some qm)] 137:=h.blk.of_eq ((hG.block pr (by simp;omega) (fun e=>hkp e.symm)).trans (zas _ _ _ CY));refine⟨_,_,v2,h.push (ks':=v2) (new:=w2.heap.size) hx (by omega) uQ (fun k hk h1 h2 h3=>?_) ?_ ?_ ?_ (fun k hk=>?_) hM,⟨hT.os.trans hG.os,hT.tape.trans hG.tape,hT.output.trans hG.output,by omega,fun k hk=>?_⟩,fun k hk=>?_⟩
 ·exact(kQ k (by omega) h1 h2).trans ((hG.block k (by simp;omega) (fun e=>h3 e.symm)).trans (zas _ _ _ hk))
 ·have:=(aT.new (w2.setCell ⟨pr,3,none⟩ v2) #[ptr (pb (partOf P kk).toNat),.bool false,.int .i64 0,.bool false,.string ⟨#[]⟩,.nilIface] 146).of_eq (w':=w3) (hT.block _ (by simp[World.setCell];omega));simpa[World.setCell]using this
 ·have h1:=(afh.set 3 v2).of_eq (w':=(w2.setCell ⟨pr,3,none⟩ v2).alloc (.cells #[ptr (pb (partOf P kk).toNat),.bool false,.int .i64 0,.bool false,.string ⟨#[]⟩,.nilIface] 146)) (zas _ _ _ (by simp[World.setCell];omega));have:=h1.of_eq (hT.block pr Wq);simpa using this
 ·refine ak hO (fun k hk=>kQ k (aR hO k hk).2 (fun e=>?_) (fun e=>?_))
  ·rcases hnb k hk with e1|e1
   ·exact XI (by rw[e1,e])
   ·omega
  ·rcases hnb k hk with e1|e1
   ·exact hkp (by rw[e1,e])
   ·omega
 ·rcases hnb k hk with e1|e1
  ·exact Or.inl e1
  ·exact Or.inr ⟨by omega,by have:=(aR hO k hk).2;omega⟩
 ·exact(kQ k (by omega) (by omega) (by omega)).trans ((hG.block k (by simp;omega) (fun e=>by have:=h.Nf k e.symm;omega)).trans (zas _ _ _ (by omega)))
 ·show (if k=w2.heap.size then _ else _)=_;rw[if_neg (by omega)];by_cases e:v2.ownBlock=some k
  ·rw[if_pos e];rcases hnb k e with e1|e1
   ·rw[h.dF k e1]
   ·omega
  ·rw[if_neg e]
theorem PD(h:iJ w τ aD i P pb pr qm qb no ks L B0)(kk:ByteArray)(hk8:kk.size<=8)(hx:kk ∉ L)(hl:L.length<8)(uQ:B0<=w.heap.size):
 Calls Tryz.prog 73 #[ptr pr,.string kk,ptr (pb (partOf P kk).toNat)] w fun e w'=>e=.returned (.tuple #[])/\∃τ' Pz ks',iJ w' τ' aD i P pb pr qm Pz no ks' (L++ [kk]) B0/\Below B0 w w'/\∀k,k<w.heap.size->τ' k=τ k:=by
 have hL8:(L.map (fun x=>Lit.string x.data.toList)).length<maxLen:=by simp;unfold maxLen;omega
 have hks:=dZ (s:=kk) (by unfold maxLen;omega);obtain⟨si,hsi,Zq,Zr,Zs⟩:=info_parts yw;have cc:=u9 (w:=w) kk (by omega);unfold ptr;go_enter Tryz.func73,Tryz.ntmps73;go_wp2_with fail
 refine cc.mono ?_;rintro e w1 ⟨rfl,iM⟩;clear cc;have h1:=h.below iM;have CY:=h1.blk.lt;have Lu:=h1.map.lt;have Ft:=iM.size;have c3:w1.cell? ⟨pr,3,none⟩=some ks:=h1.blk.cell (o:=3) rfl;have hkp:ks.ownBlock≠some pr:=fun e=>by have:=h.dF _ e;rw[h.tag]at this;simp at this
 have XI:ks.ownBlock≠some qm:=fun e=>by have:=h.dF _ e;rw[h.gU]at this;simp at this
 have Wq:pr≠qm:=cU h1.blk h1.map;have HD:Hid (∀(w2 w3:World) (o:Obj) (v2:Value),w2.ownsRow 0 9 1 v2 (L.length+1) (L.map Value.string++ [.string kk])->(w1.alloc o).grownBy w2 ks.ownBlock->(v2.ownBlock=ks.ownBlock\/v2.ownBlock=some (w1.alloc o).heap.size)->
  aK w3 Tryz.prog 9 qm (upd (qF qb L) (.string kk.data.toList) (ptr w2.heap.size))->rz ((w2.setCell ⟨pr,3,none⟩ v2).alloc (.cells #[ptr (pb (partOf P kk).toNat),.bool false,.int .i64 0,.bool false,.string ⟨#[]⟩,.nilIface] 146)) w3 qm->
  ∃τ' Pz ks',iJ w3 τ' aD i P pb pr qm Pz no ks' (L++ [kk]) B0/\Below B0 w w3/\∀k,k<w.heap.size->τ' k=τ k):=fun w2 w3 o v2 a1 a2 a3 a4 a5=>by obtain⟨τ',Pz,ks',r1,r2,r3⟩:=L3 h1 hx (Nat.le_trans uQ Ft) a1 a2 a3 a4 a5;exact⟨τ',Pz,ks',r1,(iM.mono uQ).trans r2,fun k hk=>r3 k (by omega)⟩
 have HB2:Hid (∀(w2:World) (o:Obj),(w1.alloc o).grownBy w2 ks.ownBlock->aT w2 pr #[fy,gF,.bool no,ks,.map (some qm)] 137/\∀(v2:Value) (o':Obj),aK ((w2.setCell ⟨pr,3,none⟩ v2).alloc o') Tryz.prog 9 qm (qF qb L)):=fun w2 o hG=>by
  have hsz:w1.heap.size<w2.heap.size:=by have:=hG.size;simp at this;omega
  exact⟨h1.blk.of_eq ((hG.block pr (by simp;omega) (fun e=>hkp e.symm)).trans (zas _ _ _ CY)),fun v2 o'=>h1.map.of_eq ((zas _ _ _ (by simp[World.setCell];omega)).trans ((zar _ _ _ _ (fun e=>Wq e.symm)).trans ((hG.block qm (by simp;omega) (fun e=>XI e.symm)).trans (zas _ _ _ Lu))))⟩
 obtain⟨av,jS,hkv⟩:=gH h1.ky;have V8:=h1.ky;have hxs:∃xs,L.map Value.string=xs:=⟨_,rfl⟩
 obtain⟨xs,hxs⟩:=hxs;rw[hxs]at V8 HD;generalize L.length=nL at *;unfold ptr at HD;clear h1 h hx;subst hkv;go_wp2_with (first
  |(at_builtin;refine wpList_append_own_at _ rfl (.tmp 13) (.tmp 15) 38 rfl 0 9 si _ 1 16 Tryz.underlying38 hsi Zq Zr Zs rfl (by decide) (.slice av nL jS) nL xs rfl (V8.alloc _) ⟨_,0,none⟩ 1 1 [.string kk] rfl rfl (cell_one_new _ _ _) (by simp[Value.oneCell']) (by unfold maxLen;omega) (by omega) (Nat.zero_le _) ?_;intro v2 w2 AA qO Oc hA2;obtain⟨Rp,xd⟩:=HB2.out w2 _ qO;have k3:=Rp.cell (o:=3) (v:=.slice av nL jS) rfl;have g3:=Rp.frozen 3;have k4:=Rp.cell (o:=4) (v:=.map (some qm)) rfl;obtain⟨g2,cap2,yR,-⟩:=dJ AA (by omega);rw[yR])
  |(at_mapUpdate;refine pG _ rfl _ _ _ 135 rfl 9 139 dI Tryz.underlying135 qm (qF qb L) rfl (by exact xd _ _) _ SM hL8 _ _ (.string kk.data.toList) rfl rfl hks ?_;intro w3 G0 Em))
 have lU:=rz.fR Em;go_end0
 obtain⟨τ',Pz,ks',r1,r2,r3⟩:=HD.out w2 w3 _ v2 AA qO hA2 (by simpa[World.setCell,Act.eval]using G0) (by rw[yR];exact lU);exact⟨rfl,τ',⟨Pz,ks',r1⟩,r2,r3⟩
end
end
section
open Go.Maps (Keyed)
theorem aK.size{P:Program}{k:TypeId}{w:World}{b:Nat}{f:Lit->Option Value}(h:aK w P k b f)(K:Keyed P k){L:List Lit}(hnd:L.Pairwise (fun a b=>a≠b))(hL:∀kl,f kl≠none↔kl∈L):
 ∃n D,w.ownsMap P k aL b n D/\Maps.size D=L.length:=by
 obtain⟨n,D,h,hs⟩:=h;obtain⟨es,hD,hp,hks⟩:=h.entries K;refine⟨n,D,h,?_⟩;have hhas:∀kl,kl∈es.map Prod.fst->f kl≠none:=fun kl tu e=>by
  obtain⟨p,rR,rfl⟩:=zav.1 tu;have h2:=hs.2 p.1;rw[e]at h2;have:Maps.has D p.1=true:=by rw[hD,Maps.has_eq,List.any_eq_true];exact⟨p,rR,mP (hks p rR)⟩
  rw[this]at h2;cases h2
 have h1:es.length<=L.length:=by rw[<-List.length_map (f:=Prod.fst)];exact jG _ _ (List.pairwise_map.2 hp) (fun kl tu=>(hL kl).1 (hhas kl tu))
 have h2:L.length<=es.length:=by
  have e0:es.length=(es.map Prod.fst).length:=by simp
  rw[e0];refine jG _ _ hnd (fun kl tu=>?_);have h3:=hs.2 kl;have h4:=(hL kl).2 tu;have:Maps.has D kl=true:=by
   rw[h3];cases hf:f kl
   ·exact absurd hf h4
   ·rfl
  rw[hD,Maps.has_eq,List.any_eq_true]at this;obtain⟨p,rR,he⟩:=this;by_cases e:p.1=kl
  ·exact zav.2 ⟨p,rR,e⟩
  ·rw[Maps.sameKey_ne e]at he;cases he
 rw[hD,Maps.size_eq];omega
def Db(rs:List MR):List Nat:=(List.range rs.length).filter (fun i=>!(rs.getD i (gq [])).fin)
def lB(rs:List MR):List Lit:=(Db rs).map (fun i:Nat=>Lit.int .i64 ((i:Int)+1))
theorem II(rs:List MR):(List.range rs.length).map (fun i=>rs.getD i (gq []))=rs:=by
 apply List.ext_getElem?;intro i;rw[List.getElem?_map];by_cases h:i<rs.length
 ·rw[List.getElem?_range h,zau h];simp[List.getD_eq_getElem?_getD,h]
 ·simp[h]
theorem oI(rs:List MR):(lB rs).length=cj rs:=by
 unfold lB Db cj;rw[List.length_map,<-List.countP_eq_length_filter];conv=>rhs;rw[<-II rs,List.countP_map]
 rfl
theorem tI(rs:List MR):(lB rs).Pairwise (fun a b=>a≠b):=by unfold lB;rw[List.pairwise_map];refine(List.Pairwise.filter _ (List.nodup_range (n:=rs.length))).imp (fun{a b} h e=>h ?_);injection e with _ e;omega
theorem zf{rs:List MR}{B:SB}(kl:Lit):dc rs B kl≠none↔kl∈lB rs:=by
 constructor
 ·intro h;cases kl with
  |int k n=>
   cases k<;>try exact absurd rfl h
   simp only[dc]at h;cases hf:fO rs n with
   |none=>rw[hf]at h;exact absurd rfl h
   |some r=>
    unfold fO at hf;split at hf
    ·cases hf
    ·rename_i hb;have hlt:(n-1).toNat<rs.length:=by omega
     rw[zau hlt]at hf;simp only at hf;split at hf
     ·cases hf
     ·rename_i jr;refine zav.2 ⟨(n-1).toNat,?_,by congr 1;omega⟩;unfold Db;rw[List.mem_filter];refine⟨List.mem_range.2 hlt,?_⟩;rw[List.getD_eq_getElem?_getD,zau hlt];simpa only[Option.getD_some,Bool.not_eq_true',Bool.not_eq_true]using jr
  |_=>exact absurd rfl h
 ·intro h;obtain⟨i,hi,rfl⟩:=zav.1 h;unfold Db at hi;rw[List.mem_filter]at hi;obtain⟨h1,h2⟩:=hi;have hlt:=List.mem_range.1 h1;simp[List.getD_eq_getElem?_getD,hlt]at h2;have:fO rs ((i:Int)+1)=some rs[i]:=by unfold fO;rw[if_neg (by omega),show ((i:Int)+1-1).toNat=i from by omega,zau hlt];simp[h2]
  simp[dc,this]
section
variable {w:World}{τ:Nat->Tag}{aD i P:Nat}{pb:Nat->Nat}{L:List ByteArray}
theorem Fu(b:Nat)(mode:Int)(cm:w.cell? ⟨b,0,none⟩=some (.int .i64 mode))(cD:Value)(cs:w.cell? ⟨b,1,none⟩=some cD)(Ri:w.ownsRow 0 130 1 cD P ((List.range P).map (fun q=>ptr (pb q))))(Su:1<=P)(G1:P<=4)(gb go cap:Nat)(h1:1<=L.length)(h8:L.length<=8)(hg:∀x∈L,bK x=true)(hnd:L.Nodup)
 (hcell:∀(k:Nat) (x:ByteArray),L[k]?=some x->w.cell? ⟨gb,go+k,none⟩=some (.string x)):
 Calls Tryz.prog 39 #[ptr b,.slice (some ⟨gb,go,none⟩) L.length cap] w fun e w'=>∃τ' pr qm qb ks,e=.returned (ptr pr)/\iJ w' τ' aD i P pb pr qm qb (decide (mode=2)&& decide (1<L.length)) ks L w.heap.size/\Below w.heap.size w w'/\∀k,k<w.heap.size->τ' k=τ k:=by
 have vP:=World.block_lt_of_cell? w _ cs;simp only at vP;obtain⟨pg,pc,hpv,_,hpc,yZ,_⟩:=dJ Ri (by omega);subst hpv;have Pa:pg<w.heap.size:=(aR Ri pg rfl).2;have hpq:∀q,q<P->w.cell? ⟨pg,q,none⟩=some (.pointer (some ⟨pb q,0,none⟩)):=fun q hq=>by rw[yZ q (by omega),List.getElem?_map,List.getElem?_range hq];rfl
 have GU:=@run_makeMap Tryz.prog;clear yZ;have cno:=tJ (w:=w) mode (some ⟨gb,go,none⟩) L.length cap h8;generalize (decide (mode=2)&& decide (1<L.length))=nO at *;unfold ptr;go_enter Tryz.func39,Tryz.ntmps39;go_wp2_with (go_at_call 72;refine cno.mono ?_;rintro e w' ⟨rfl,hw⟩;obtain rfl:=hw.symm)
 go_loopw [19] (fun u wr=>∃(k:Nat) (τ':Nat->Tag) (qb:Nat->Nat) (ks:Value),k<=L.length/\u=.int .i64 k/\iJ wr τ' aD i P pb (w.heap.size+1) w.heap.size qb nO ks (L.take k) w.heap.size/\Below w.heap.size w wr/\Hid (∀k,k<w.heap.size->τ' k=τ k)) (fun u _=>L.length-(intOf u).toNat)
 case atStart=>
  refine⟨0,_,_,_,Nat.zero_le _,rfl,iJ.made w τ aD i P pb nO,?_,fun k hk=>?_⟩
  ·exact((Below.refl _ _).alloc (zat _) _).alloc (by simp) _
  ·have e1:k≠w.heap.size+1:=by omega
   have e2:k≠w.heap.size:=by omega
   simp[e1,e2]
 case round=>
  obtain⟨k,τ1,qb1,ks1,hk,rfl,hW,hB,HT⟩:=hrel;by_cases hlt:k<L.length
  ·have hx:L[k]?=some L[k]:=zau hlt;have c1:=hcell k _ hx;have hgb:gb<w.heap.size:=World.block_lt_of_cell? w _ c1;have V3:=(hB.cell (p:=⟨gb,go+k,none⟩) hgb).trans c1;have AL:=dG (hg _ (List.getElem_mem hlt));have Rb:Hid (L.take (k+1)=L.take k++ [L[k]]):=List.take_succ_eq_append_getElem hlt;have hnew:L[k] ∉ L.take k:=fun e=>by
    have h2:(L.take k++L.drop k).Nodup:=by rw[List.take_append_drop];exact hnd
    rw[List.nodup_append]at h2;have h3:L[k]∈L.drop k:=by rw[List.drop_eq_getElem_cons hlt];exact List.mem_cons_self ..
    exact h2.2.2 _ e _ h3 rfl
   generalize L[k]=kk at *;have hbd:=eM P kk (by omega);obtain⟨q,hq⟩:∃q:Nat,(partOf P kk).toNat=q:=⟨_,rfl⟩
   have Kj:partOf P kk=q:=by omega
   have SE:=sw (w:=wr.drew) b P (some ⟨pg,0,none⟩) pc kk (by omega) (by omega) G1 ((hB.cell (p:=⟨b,1,none⟩) vP).trans cs);have hqP:q<P:=by omega
   have Pb:=hpq q hqP;have CA:∀w2:World,Below wr.drew.heap.size wr.drew w2->w2.cell? ⟨b,1,none⟩=some (.slice (some ⟨pg,0,none⟩) P pc)/\w2.cell? ⟨pg,q,none⟩=some (.pointer (some ⟨pb q,0,none⟩))/\
    Calls Tryz.prog 73 #[ptr (w.heap.size+1),.string kk,ptr (pb q)] w2 (fun e w'=>e=.returned (.tuple #[])/\∃τ' Pz ks',iJ w' τ' aD i P pb (w.heap.size+1) w.heap.size Pz nO ks' (L.take (k+1)) w.heap.size/\Below w.heap.size w w'/\(∀k,k<w.heap.size->τ' k=τ k)/\w'.cell? ⟨b,1,none⟩=some (.slice (some ⟨pg,0,none⟩) P pc)/\w'.cell? ⟨pg,q,none⟩=some (.pointer (some ⟨pb q,0,none⟩))):=fun w2 dP=>by have hBr:Below wr.heap.size wr w2:=(Below.refl wr.heap.size wr).drew.trans dP;have oO:Below w.heap.size w w2:=hB.trans (hBr.mono hB.size);refine⟨(oO.cell (p:=⟨b,1,none⟩) vP).trans cs,(oO.cell (p:=⟨pg,q,none⟩) Pa).trans Pb,?_⟩;have ca:=PD (w:=w2) (hW.below hBr) kk (by omega) hnew (by simp;omega) oO.size;rw[hq,<-Rb.out]at ca;refine ca.mono ?_;rintro e w3 ⟨rfl,τ2,qb2,ks2,r1,r2,r3⟩;have Wr:Below w.heap.size w w3:=oO.trans r2;exact⟨rfl,τ2,qb2,ks2,r1,Wr,fun k hk=>(r3 k (by have:=oO.size;omega)).trans (HT.out k hk),(Wr.cell (p:=⟨b,1,none⟩) vP).trans cs,(Wr.cell (p:=⟨pg,q,none⟩) Pa).trans Pb⟩
   have CA':=(show Hid _ from CA)
   have s1:wr.cell? ⟨b,1,none⟩=some (.slice (some ⟨pg,0,none⟩) P pc):=(hB.cell (p:=⟨b,1,none⟩) vP).trans cs;have p1:wr.cell? ⟨pg,q,none⟩=some (.pointer (some ⟨pb q,0,none⟩)):=(hB.cell (p:=⟨pg,q,none⟩) Pa).trans Pb;unfold ptr at SE;rw[Kj]at SE;clear CA hcell c1 hpq hx hnew hq Kj hbd;go_wp2_with fail
   go_region_held3 (fun W=>W.cell? ⟨b,1,none⟩=some (.slice (some ⟨pg,0,none⟩) P pc)/\W.cell? ⟨pg,q,none⟩=some (.pointer (some ⟨pb q,0,none⟩))) (simp[*]) ((first|(go_at_call 50;refine SE.mono ?_;rintro e w2 ⟨rfl,dP⟩;obtain⟨s2,p2,ca⟩:=CA'.out w2 dP;unfold ptr at ca)|(go_at_call 73;refine ca.mono ?_;rintro e w3 ⟨rfl,τ2,qb2,ks2,wy,lU,Em,s3,p3⟩;have HT3:=(show Hid _ from Em);clear Em)))
   all_goals
    clear SE ca
    go_wp2_with fail
    go_roundw
    case rel=>exact⟨k+1,τ2,qb2,ks2,by omega,by go_num,wy,lU,HT3⟩
    case measure=>simp[intOf];omega
  ·have Ix:k=L.length:=by omega
   rw[Ix,List.take_length]at hW;clear hcell hpq Ix;go_wp2_with fail
   go_ret;exact⟨τ1,w.heap.size+1,w.heap.size,qb1,ks1,rfl,hW,hB,HT.out⟩
end
end
end Go.Proofs.YteoahlieielcdaaGreat
