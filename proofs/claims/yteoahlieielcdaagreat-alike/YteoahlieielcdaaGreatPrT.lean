import Derived.Test.YteoahlieielcdaaGreatPr15
set_option linter.all false
set_option maxHeartbeats 8000000
set_option maxRecDepth 100000
namespace Go.Proofs.YteoahlieielcdaaGreat
open Go.Proofs.Tryz
open Go Go.RowKit Go.MuLone
open Go.Maps (Keyed)
abbrev zay:=@RowKit.Below.heap_setCell
theorem IF{l:List KV}{key:ByteArray}(h:aH l key=true):jg l key=some (valueOf l key):=by
 unfold jg valueOf;cases hf:l.find? (fun x=>decide (x.1=key))with
 |some x=>rfl
 |none=>
  rw[List.find?_eq_none]at hf;simp only[aH,List.any_eq_true]at h;obtain⟨x,hx,hd⟩:=h;exact absurd hd (hf x hx)
section
variable {w:World}
theorem WC(pb kb:Nat)(f:Lit->Option Value)(c1:w.cell? ⟨pb,2,none⟩=some (.map (some kb)))(hM:aK w prog 3 kb f)(n:Int)(h1: -9223372036854775808<=n)(h2:n<=9223372036854775807)(key:ByteArray)(a:Option Addr)(L:List KV)(cap:Nat)(sv:Value)
 (hf:(f (.int .i64 n)).getD (.agg #[.slice none 0 0,.nilIface])=.agg #[.slice a L.length cap,sv]) (h8:L.length<=8) (hcell:∀(k:Nat) (x:KV),L[k]?=some x->∃g,a=some ⟨g,0,none⟩/\w.cell? ⟨g,k*2,none⟩=some (.string x.1)/\w.cell? ⟨g,k*2+1,none⟩=some (.string x.2)):
 Calls prog 115 #[ptr pb,.int .i64 n,.string key] w fun e w'=>e=.returned (.tuple #[.string (valueOf L key),.bool (aH L key)])/\Below w.heap.size w w':=by
 have hfi:=zc (.slice a L.length cap) sv;obtain⟨fv,aj⟩:∃fv,f (.int .i64 n)=fv:=⟨_,rfl⟩
 rw[aj]at hf;unfold ptr;go_enter func115,ntmps115;go_wp2_with (at_lookup;refine kH _ rfl _ _ 199 rfl 3 214 eD underlying199 (mV _) kb f rfl hM _ (.int .i64 n) rfl (keyOf_int h1 h2) fv aj ?_;rw[hf])
 go_loopw [18] (fun u wr=>∃k:Nat,k<=L.length/\u=.int .i64 k/\Below w.heap.size w wr/\Hid (∀j y,j<k->L[j]?=some y->y.1≠key)) (fun u _=>L.length-(intOf u).toNat)
 case atStart=>exact⟨0,Nat.zero_le _,rfl,Below.refl _ _,fun j y hj=>by omega⟩
 case round=>
  obtain⟨k,hk,rfl,hB,HO⟩:=hrel;by_cases hlt:k<L.length
  ·have hx:L[k]?=some L[k]:=List.getElem?_eq_getElem hlt;obtain⟨g,rfl,ck,cv⟩:=hcell k _ hx;have hgb:g<w.heap.size:=World.block_lt_of_cell? w _ ck;have XH:=(hB.cell (p:=⟨g,k*2,none⟩) hgb).trans ck;have cv':=(hB.cell (p:=⟨g,k*2+1,none⟩) hgb).trans cv;have Eg:∀o:Obj,Below w.heap.size w (wr.alloc o):=fun o=>hB.alloc hB.size _;clear hcell ck cv;generalize L[k]=x at *;obtain⟨kk,vv⟩:=x;simp only at XH cv';by_cases he:kk=key
   ·have Hr:Hid (valueOf L key=vv/\aH L key=true):=BW hx he HO.out;have hb:=sY he;clear he hx;go_wp2_with fail
    go_ret2
    rw[Hr.out.1,Hr.out.2];exact⟨rfl,Eg _⟩
   ·have Ry:Hid (∀j y,j<k+1->L[j]?=some y->y.1≠key):=by
     intro j y hj hy;by_cases e:j=k
     ·subst e;rw[hx]at hy;cases hy;exact he
     ·exact HO.out j y (by omega) hy
    have hb:=sX he;clear he hx;go_wp2_with fail
    go_roundw
    case rel=>exact⟨k+1,by omega,by go_num,Eg _,Ry⟩
    case measure=>simp[intOf];omega
  ·have Hr:Hid (valueOf L key=ByteArray.empty/\aH L key=false):=BX (fun j x hj=>HO.out j x (by omega));clear hcell;go_wp2_with fail
   go_ret2
   rw[Hr.out.1,Hr.out.2];exact⟨rfl,hB⟩
theorem aaD(pb kb vb:Nat)(f g:Lit->Option Value)(hb:aT w pb #[fy,gF,.map (some kb),.map (some vb)] 202)(hK:aK w prog 3 kb g)(hM:aK w prog 9 vb f)(key:ByteArray)(hk:key.size<=maxLen)(v:Nat)(Pw:v<=200)(hf:(f (.string key.data.toList)).getD (.int .i64 0)=.int .i64 v)
 (a:Option Addr) (L:List KV) (cap:Nat) (sv:Value) (BF:yl sv) (hg:(g (.int .i64 v)).getD (.agg #[.slice none 0 0,.nilIface])=.agg #[.slice a L.length cap,sv]) (h8:L.length<=8) (hcell:∀(k:Nat) (x:KV),L[k]?=some x->∃g,a=some ⟨g,0,none⟩/\w.cell? ⟨g,k*2,none⟩=some (.string x.1)/\w.cell? ⟨g,k*2+1,none⟩=some (.string x.2)) (Uq:∀g,a=some ⟨g,0,none⟩->g≠pb):
 Calls prog 75 #[ptr pb,.string key] w fun e w'=>e=.returned (.agg #[.int .i64 v,.bool (aH L key),.string (valueOf L key),sv])/\Below w.heap.size w w':=by
 have hpl:=hb.lt;have hvl:=hM.lt;have tu:=hK.lt;have hne:=cU hb hM;have aaN:=cU hb hK;have iR:aT (w.alloc (.cells #[.int .i64 0,.bool false,.string ⟨#[]⟩,.nilIface] 144)) pb _ _:=hb.of_eq (Below.heap_alloc _ _ _ hpl);have hT:=aT.new w #[.int .i64 0,.bool false,.string ⟨#[]⟩,.nilIface] 144;have hBo:∀k,k<w.heap.size->(w.alloc (.cells #[.int .i64 0,.bool false,.string ⟨#[]⟩,.nilIface] 144)).heap[k]?=w.heap[k]? :=fun k hk=>Below.heap_alloc _ _ _ hk;have hsz:(w.alloc (.cells #[.int .i64 0,.bool false,.string ⟨#[]⟩,.nilIface] 144)).heap.size=w.heap.size+1:=by simp
 have hos:(w.alloc (.cells #[.int .i64 0,.bool false,.string ⟨#[]⟩,.nilIface] 144)).os=w.os/\(w.alloc (.cells #[.int .i64 0,.bool false,.string ⟨#[]⟩,.nilIface] 144)).tape=w.tape/\(w.alloc (.cells #[.int .i64 0,.bool false,.string ⟨#[]⟩,.nilIface] 144)).output=w.output:=⟨rfl,rfl,rfl⟩
 unfold ptr;go_enter_defers func75,ntmps75;go_wp2_with fail
 generalize w.alloc (.cells #[.int .i64 0,.bool false,.string ⟨#[]⟩,.nilIface] 144)=wa at *;have c0:wa.cell? ⟨pb,0,none⟩=some (.int .i32 0):=iR.cell (o:=0) rfl;have f0:=iR.frozen 0;refine(lock_free Tryz.a9 ⟨pb,0,none⟩ _ c0 f0).mono ?_;rintro e w' ⟨rfl,rfl⟩;have kQ:=iR.set 0 (.int .i32 1);have eK:∀k,k<w.heap.size->k≠pb->(wa.setCell ⟨pb,0,none⟩ (.int .i32 1)).heap[k]?=w.heap[k]? :=fun k hk hkp=>(zay _ _ _ _ hkp).trans (hBo k hk);have xd:aK (wa.setCell ⟨pb,0,none⟩ (.int .i32 1)) prog 9 vb f:=hM.of_eq (eK _ hvl (fun e=>hne e.symm));have Ni:aK (wa.setCell ⟨pb,0,none⟩ (.int .i32 1)) prog 3 kb g:=hK.of_eq (eK _ tu (fun e=>aaN e.symm));have sP:aT (wa.setCell ⟨pb,0,none⟩ (.int .i32 1)) w.heap.size _ _:=hT.of_eq (zay _ _ _ _ (by simp only;omega));have PO:∀(k:Nat) (x:KV),L[k]?=some x->∃g,a=some ⟨g,0,none⟩/\(wa.setCell ⟨pb,0,none⟩ (.int .i32 1)).cell? ⟨g,k*2,none⟩=some (.string x.1)/\(wa.setCell ⟨pb,0,none⟩ (.int .i32 1)).cell? ⟨g,k*2+1,none⟩=some (.string x.2):=fun k x hx=>by obtain⟨g,e,r1,r2⟩:=hcell k x hx;have hgl:g<w.heap.size:=World.block_lt_of_cell? w _ r1;exact⟨g,e,(World.cell?_of_block (w:=w) (eK g hgl (Uq g e))).trans r1,(World.cell?_of_block (w:=w) (eK g hgl (Uq g e))).trans r2⟩
 have afI:(wa.setCell ⟨pb,0,none⟩ (.int .i32 1)).heap.size=wa.heap.size:=by simp[World.setCell]
 generalize Pp:wa.setCell ⟨pb,0,none⟩ (.int .i32 1)=wb at *;have d3:wb.cell? ⟨pb,3,none⟩=some (.map (some vb)):=kQ.cell (o:=3) rfl;have d2:wb.cell? ⟨pb,2,none⟩=some (.map (some kb)):=kQ.cell (o:=2) rfl;have cvl:=WC (w:=wb) pb kb g d2 Ni v (by omega) (by omega) key a L cap sv hg h8 PO;unfold ptr at cvl;obtain⟨fv,aj⟩:∃fv,f (.string key.data.toList)=fv:=⟨_,rfl⟩
 rw[aj]at hf;clear hcell PO eK;go_wp2_with (at_lookup;refine kH _ rfl _ _ 200 rfl 9 3 dI underlying200 (C9 _) vb f rfl xd _ (.string key.data.toList) rfl (dZ hk) fv aj ?_;rw[hf])
 refine cvl.mono ?_;rintro e w2 ⟨rfl,dP⟩;clear cvl;have JY:aT w2 w.heap.size _ _:=sP.of_eq (dP.block _ sP.lt);have hbc:aT w2 pb _ _:=kQ.of_eq (dP.block _ kQ.lt);have hKc:aK w2 prog 3 kb g:=Ni.of_eq (dP.block _ Ni.lt);have e2:w2.cell? ⟨pb,2,none⟩=some (.map (some kb)):=hbc.cell (o:=2) rfl;have t0:=JY.cell (o:=0) (v:=.int .i64 0) rfl;have t1:=JY.cell (o:=1) (v:=.bool false) rfl;have t2:=JY.cell (o:=2) (v:=.string ⟨#[]⟩) rfl;have t3:=JY.cell (o:=3) (v:=.nilIface) rfl;have g0:=JY.frozen 0;have g1:=JY.frozen 1;have g2:=JY.frozen 2;have g3:=JY.frozen 3;have Pq:pb≠w.heap.size:=by omega
 have Lh:aT w2.drew w.heap.size _ _:=JY;have z0:w2.drew.setCell ⟨w.heap.size,0,none⟩ (.int .i64 0)=w2.drew:=gV Lh rfl;have z1:w2.drew.setCell ⟨w.heap.size,1,none⟩ (.bool false)=w2.drew:=gV Lh rfl;have z2:w2.drew.setCell ⟨w.heap.size,2,none⟩ (.string ⟨#[]⟩)=w2.drew:=gV Lh rfl;have z3:w2.drew.setCell ⟨w.heap.size,3,none⟩ .nilIface=w2.drew:=gV Lh rfl;have IB:∀x,(w2.setCell ⟨w.heap.size,0,none⟩ x).drew.cell? ⟨pb,2,none⟩=some (.map (some kb)):=fun x=>(fM (w:=w2) Pq).trans e2;have Uu:∀x y,((w2.setCell ⟨w.heap.size,0,none⟩ x).setCell ⟨w.heap.size,1,none⟩ y).drew.cell? ⟨pb,2,none⟩=some (.map (some kb)):=fun x y=>(fM (w:=w2.setCell ⟨w.heap.size,0,none⟩ x) Pq).trans (IB x);have Uv:∀x y z,(((w2.setCell ⟨w.heap.size,0,none⟩ x).setCell ⟨w.heap.size,1,none⟩ y).setCell ⟨w.heap.size,2,none⟩ z).drew.cell? ⟨pb,2,none⟩=some (.map (some kb)):=fun x y z=>(fM (w:=(w2.setCell ⟨w.heap.size,0,none⟩ x).setCell ⟨w.heap.size,1,none⟩ y) Pq).trans (Uu x y);have aaO:∀x y z u,((((w2.setCell ⟨w.heap.size,0,none⟩ x).setCell ⟨w.heap.size,1,none⟩ y).setCell ⟨w.heap.size,2,none⟩ z).setCell ⟨w.heap.size,3,none⟩ u).drew.cell? ⟨pb,2,none⟩=some (.map (some kb)):=fun x y z u=>(fM (w:=((w2.setCell ⟨w.heap.size,0,none⟩ x).setCell ⟨w.heap.size,1,none⟩ y).setCell ⟨w.heap.size,2,none⟩ z) Pq).trans (Uv x y z);have hfs:=Wj (.slice a L.length cap) sv;have hlk:(Instr.lookup 199 (.map (some kb)) (.int .i64 v) false).run prog w2.drew=.ok (.agg #[.slice a L.length cap,sv]) w2.drew:=by have:=aK.look (w:=w2.drew) (e:=214) hKc eD underlying199 (mV _) (keyOf_int (n:=v) (by omega) (by omega));rw[hg]at this;exact this
 have HE:Hid (aT ((((w2.setCell ⟨w.heap.size,0,none⟩ (.int .i64 v)).setCell ⟨w.heap.size,1,none⟩ (.bool (aH L key))).setCell ⟨w.heap.size,2,none⟩ (.string (valueOf L key))).setCell ⟨w.heap.size,3,none⟩ sv) w.heap.size #[.int .i64 v,.bool (aH L key),.string (valueOf L key),sv] 144/\
  aT ((((w2.setCell ⟨w.heap.size,0,none⟩ (.int .i64 v)).setCell ⟨w.heap.size,1,none⟩ (.bool (aH L key))).setCell ⟨w.heap.size,2,none⟩ (.string (valueOf L key))).setCell ⟨w.heap.size,3,none⟩ sv) pb #[.int .i32 1,gF,.map (some kb),.map (some vb)] 202/\
  Below w.heap.size w (((((w2.setCell ⟨w.heap.size,0,none⟩ (.int .i64 v)).setCell ⟨w.heap.size,1,none⟩ (.bool (aH L key))).setCell ⟨w.heap.size,2,none⟩ (.string (valueOf L key))).setCell ⟨w.heap.size,3,none⟩ sv).setCell ⟨pb,0,none⟩ fy)):=by
  have UZ:∀k,k≠w.heap.size->((((w2.setCell ⟨w.heap.size,0,none⟩ (.int .i64 v)).setCell ⟨w.heap.size,1,none⟩ (.bool (aH L key))).setCell ⟨w.heap.size,2,none⟩ (.string (valueOf L key))).setCell ⟨w.heap.size,3,none⟩ sv).heap[k]?=w2.heap[k]? :=fun k hk=>by rw[zay _ _ _ _ hk,zay _ _ _ _ hk,zay _ _ _ _ hk,zay _ _ _ _ hk]
  refine⟨?_,?_,?_⟩
  ·simpa using(((JY.set 0 (.int .i64 v)).set 1 (.bool (aH L key))).set 2 (.string (valueOf L key))).set 3 sv
  ·have:=hbc.of_eq (UZ pb Pq);simpa using this
  ·refine⟨?_,?_,?_,?_,fun k hk=>?_⟩
   ·exact dP.os.trans (by rw[<-Pp];exact hos.1)
   ·exact dP.tape.trans (by rw[<-Pp];exact hos.2.1)
   ·exact dP.output.trans (by rw[<-Pp];exact hos.2.2)
   ·have:=dP.size;simp[World.setCell];omega
   ·refine(eW iR rfl (v:=.int .i32 1) (p:=fun k=>k<w.heap.size) (fun k hk=>?_) k hk).trans (hBo k hk);rw[Pp,UZ k (by omega)];exact dP.block k (by omega)
 have FD:∀W:World,W.heap[kb]?=w2.heap[kb]? ->(Instr.lookup 199 (.map (some kb)) (.int .i64 v) false).run prog W=.ok (.agg #[.slice a L.length cap,sv]) W:=fun W hW=>by have:=aK.look (w:=W) (e:=214) (hKc.of_eq hW) eD underlying199 (mV _) (keyOf_int (n:=v) (by omega) (by omega));rw[hg]at this;exact this
 have hkn:kb≠w.heap.size:=by omega
 have ak3:=FD (w2.setCell ⟨w.heap.size,0,none⟩ (.int .i64 v)).drew (zay _ _ _ _ hkn);have ak4:=FD ((w2.setCell ⟨w.heap.size,0,none⟩ (.int .i64 v)).setCell ⟨w.heap.size,1,none⟩ (.bool (aH L key))).drew ((zay _ _ _ _ hkn).trans (zay _ _ _ _ hkn));have ak5:=FD (((w2.setCell ⟨w.heap.size,0,none⟩ (.int .i64 v)).setCell ⟨w.heap.size,1,none⟩ (.bool (aH L key))).setCell ⟨w.heap.size,2,none⟩ (.string (valueOf L key))).drew ((zay _ _ _ _ hkn).trans ((zay _ _ _ _ hkn).trans (zay _ _ _ _ hkn)));have hsc:sv.cells=#[sv]:=by rcases BF with rfl|⟨_,_,rfl⟩ <;>rfl
 unfold Value.cells at hsc;have Hsv:Hid (yl sv):=BF;have Hpn:Hid (w.heap.size≠pb):=fun e=>Pq e.symm;generalize hhk:aH L key=Wn at *;generalize hvk:valueOf L key=Wo at *;generalize hnn:w.heap.size=nn at *;have Hhk:Hid _:=hhk;have Hvk:Hid _:=hvk;have Hnn:Hid _:=hnn;clear hhk hvk hnn;clear hg hf aj dP JY hbc hKc Lh hb hK hM iR kQ hT sP hBo hos hsz afI hpl hvl tu hne aaN xd Ni Pp d3 d2 c0 f0 BF h8 Uq hk Pw Pq hkn FD;have hst:Sem.run prog (store ⟨nn,3,none⟩ sv) (((w2.setCell ⟨nn,0,none⟩ (.int .i64 v)).setCell ⟨nn,1,none⟩ (.bool Wn)).setCell ⟨nn,2,none⟩ (.string Wo)).drew=.ok () ((((w2.setCell ⟨nn,0,none⟩ (.int .i64 v)).setCell ⟨nn,1,none⟩ (.bool Wn)).setCell ⟨nn,2,none⟩ (.string Wo)).setCell ⟨nn,3,none⟩ sv).drew:=by rcases Hsv.out with rfl|⟨st,sx,rfl⟩ <;>go_simp
 go_wp2_with fail
 go_region_held3 (fun W=>W.cell? ⟨pb,2,none⟩=some (.map (some kb))) (first|with_reducible exact IB _|with_reducible exact Uu _ _|with_reducible exact Uv _ _ _|with_reducible exact aaO _ _ _ _|(simp[*];done)) (fail)
 all_goals
  go_wp2_with fail
  obtain⟨Em,BM,vf⟩:=HE.out
  have YN:aT ((((w2.setCell ⟨nn,0,none⟩ (.int .i64 v)).setCell ⟨nn,1,none⟩ (.bool Wn)).setCell ⟨nn,2,none⟩ (.string Wo)).setCell ⟨nn,3,none⟩ sv).drew pb _ _:=BM
  have Lb:aT (((((w2.setCell ⟨nn,0,none⟩ (.int .i64 v)).setCell ⟨nn,1,none⟩ (.bool Wn)).setCell ⟨nn,2,none⟩ (.string Wo)).setCell ⟨nn,3,none⟩ sv).drew.setCell ⟨pb,0,none⟩ fy) nn _ _:=Em.of_eq (zay _ _ _ _ Hpn.out)
  refine leaves_cons (f:=38) (args:=#[.pointer (some ⟨pb,0,none⟩)]) (by simp) (by simp[go_sem]) ?_
  refine(unlock_deferred Tryz.a9 ⟨pb,0,none⟩ .returning _ (YN.cell (o:=0) rfl) (YN.frozen 0)).mono ?_
  rintro e u' w'' ⟨rfl,rfl,rfl⟩
  refine⟨_,results_cell_row rfl _ _ nn _ _ (0,0) _ rfl Lb underlying144 rfl Fl,?_,?_⟩
  ·rw[Hhk.out,Hvk.out]
  ·rw[Hnn.out]
   exact⟨vf.os,vf.tape,vf.output,vf.size,vf.block⟩
end
end Go.Proofs.YteoahlieielcdaaGreat
