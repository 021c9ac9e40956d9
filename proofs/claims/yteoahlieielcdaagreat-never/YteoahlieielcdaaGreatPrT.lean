import Derived.Test.YteoahlieielcdaaGreatBase
set_option linter.all false
set_option maxHeartbeats 8000000
set_option maxRecDepth 100000
namespace Go.Proofs.YteoahlieielcdaaGreat
open Go.Proofs.Tryz
open Go Go.RowKit Go.MuLone
open Go.Maps (Keyed)
abbrev za3:=@RowKit.Below.heap_setCell
def Hq{l:List KV}{key:ah}(h:aP l key=true):fO l key=some (valueOf l key):=by
 unfold fO valueOf;cases hf:l.find? (fun x=>decide (x.1=key))with
 |some x=>rfl
 |none=>
  rw[List.find?_eq_none]at hf;simp only[aP,List.any_eq_true]at h;obtain⟨x,hx,hd⟩:=h;exact absurd hd (hf x hx)
section
variable {w:af}
def X3(pb kb:Nat)(f:Lit->Option aj)(c1:w.cell? ⟨pb,2,none⟩=some (.map (some kb)))(hM:aS w prog 3 kb f)(n:Int)(h1: -9223372036854775808<=n)(h2:n<=9223372036854775807)(key:ah)(a:Option aA)(L:List KV)(cap:Nat)(sv:aj)
 (hf:(f (.int .i64 n)).getD (.agg #[.slice none 0 0,.nilIface])=.agg #[.slice a L.length cap,sv]) (h8:L.length<=8) (hcell:∀(k:Nat) (x:KV),L[k]?=some x->∃g,a=some ⟨g,0,none⟩/\w.cell? ⟨g,k*2,none⟩=some (.string x.1)/\w.cell? ⟨g,k*2+1,none⟩=some (.string x.2)):
 Calls prog 115 #[ptr pb,.int .i64 n,.string key] w fun e w'=>e=.returned (.tuple #[.string (valueOf L key),.bool (aP L key)])/\Below w.heap.size w w':=by
 have hfi:=yx (.slice a L.length cap) sv;obtain⟨fv,aL⟩:∃fv,f (.int .i64 n)=fv:=⟨_,rfl⟩
 rw[aL]at hf;unfold ptr;go_enter func115,ntmps115;go_wp2_with (at_lookup;refine nD _ rfl _ _ 199 rfl 3 214 eB underlying199 (mJ _) kb f rfl hM _ (.int .i64 n) rfl (keyOf_int h1 h2) fv aL ?_;rw[hf])
 go_loopw [18] (fun u wr=>∃k:Nat,k<=L.length/\u=.int .i64 k/\Below w.heap.size w wr/\Hid (∀j y,j<k->L[j]?=some y->y.1≠key)) (fun u _=>L.length-(intOf u).toNat)
 case atStart=>exact⟨0,Nat.zero_le _,rfl,Below.refl _ _,fun j y hj=>by omega⟩
 case round=>
  obtain⟨k,hk,rfl,hB,HO⟩:=hrel;by_cases hlt:k<L.length
  ·have hx:L[k]?=some L[k]:=List.getElem?_eq_getElem hlt;obtain⟨g,rfl,ck,cv⟩:=hcell k _ hx;have hgb:g<w.heap.size:=World.block_lt_of_cell? w _ ck;have ck':=(hB.cell (p:=⟨g,k*2,none⟩) hgb).trans ck;have cv':=(hB.cell (p:=⟨g,k*2+1,none⟩) hgb).trans cv;have Gq:∀o:Obj,Below w.heap.size w (wr.alloc o):=fun o=>hB.alloc hB.size _;clear hcell ck cv;generalize L[k]=x at *;obtain⟨kk,vv⟩:=x;simp only at ck' cv';by_cases he:kk=key
   ·have Hr:Hid (valueOf L key=vv/\aP L key=true):=Bi hx he HO.out;have hb:=pS he;clear he hx;go_wp2_with fail
    go_ret2
    rw[Hr.out.1,Hr.out.2];exact⟨rfl,Gq _⟩
   ·have WZ:Hid (∀j y,j<k+1->L[j]?=some y->y.1≠key):=by
     intro j y hj hy;by_cases e:j=k
     ·subst e;rw[hx]at hy;cases hy;exact he
     ·exact HO.out j y (by omega) hy
    have hb:=pU he;clear he hx;go_wp2_with fail
    go_roundw
    case rel=>exact⟨k+1,by omega,by go_num,Gq _,WZ⟩
    case measure=>simp[intOf];omega
  ·have Hr:Hid (valueOf L key=ByteArray.empty/\aP L key=false):=Bj (fun j x hj=>HO.out j x (by omega));clear hcell;go_wp2_with fail
   go_ret2
   rw[Hr.out.1,Hr.out.2];exact⟨rfl,hB⟩
def ab5(pb kb vb:Nat)(f g:Lit->Option aj)(hb:bg w pb #[eN,fV,.map (some kb),.map (some vb)] 202)(hK:aS w prog 3 kb g)(hM:aS w prog 9 vb f)(key:ah)(hk:key.size<=maxLen)(v:Nat)(PY:v<=200)(hf:(f (.string key.data.toList)).getD (.int .i64 0)=.int .i64 v)
 (a:Option aA) (L:List KV) (cap:Nat) (sv:aj) (zG:zO sv) (hg:(g (.int .i64 v)).getD (.agg #[.slice none 0 0,.nilIface])=.agg #[.slice a L.length cap,sv]) (h8:L.length<=8) (hcell:∀(k:Nat) (x:KV),L[k]?=some x->∃g,a=some ⟨g,0,none⟩/\w.cell? ⟨g,k*2,none⟩=some (.string x.1)/\w.cell? ⟨g,k*2+1,none⟩=some (.string x.2)) (Vj:∀g,a=some ⟨g,0,none⟩->g≠pb):
 Calls prog 75 #[ptr pb,.string key] w fun e w'=>e=.returned (.agg #[.int .i64 v,.bool (aP L key),.string (valueOf L key),sv])/\Below w.heap.size w w':=by
 have hpl:=hb.lt;have hvl:=hM.lt;have ot:=hK.lt;have hne:=dm hb hM;have acg:=dm hb hK;have iz:bg (w.alloc (.cells #[.int .i64 0,.bool false,.string ⟨#[]⟩,.nilIface] 144)) pb _ _:=hb.of_eq (Below.heap_alloc _ _ _ hpl);have hT:=bg.new w #[.int .i64 0,.bool false,.string ⟨#[]⟩,.nilIface] 144;have hBo:∀k,k<w.heap.size->(w.alloc (.cells #[.int .i64 0,.bool false,.string ⟨#[]⟩,.nilIface] 144)).heap[k]?=w.heap[k]? :=fun k hk=>Below.heap_alloc _ _ _ hk;have hsz:(w.alloc (.cells #[.int .i64 0,.bool false,.string ⟨#[]⟩,.nilIface] 144)).heap.size=w.heap.size+1:=by simp
 have hos:(w.alloc (.cells #[.int .i64 0,.bool false,.string ⟨#[]⟩,.nilIface] 144)).os=w.os/\(w.alloc (.cells #[.int .i64 0,.bool false,.string ⟨#[]⟩,.nilIface] 144)).tape=w.tape/\(w.alloc (.cells #[.int .i64 0,.bool false,.string ⟨#[]⟩,.nilIface] 144)).output=w.output:=⟨rfl,rfl,rfl⟩
 unfold ptr;go_enter_defers func75,ntmps75;go_wp2_with fail
 generalize w.alloc (.cells #[.int .i64 0,.bool false,.string ⟨#[]⟩,.nilIface] 144)=wa at *;have c0:wa.cell? ⟨pb,0,none⟩=some (.int .i32 0):=iz.cell (o:=0) rfl;have f0:=iz.frozen 0;refine(lock_free Tryz.bA ⟨pb,0,none⟩ _ c0 f0).mono ?_;rintro e w' ⟨rfl,rfl⟩;have j9:=iz.set 0 (.int .i32 1);have eH:∀k,k<w.heap.size->k≠pb->(wa.setCell ⟨pb,0,none⟩ (.int .i32 1)).heap[k]?=w.heap[k]? :=fun k hk hkp=>(za3 _ _ _ _ hkp).trans (hBo k hk);have sC:aS (wa.setCell ⟨pb,0,none⟩ (.int .i32 1)) prog 9 vb f:=hM.of_eq (eH _ hvl (fun e=>hne e.symm));have M1:aS (wa.setCell ⟨pb,0,none⟩ (.int .i32 1)) prog 3 kb g:=hK.of_eq (eH _ ot (fun e=>acg e.symm));have sn:bg (wa.setCell ⟨pb,0,none⟩ (.int .i32 1)) w.heap.size _ _:=hT.of_eq (za3 _ _ _ _ (by simp only;omega));have Qe:∀(k:Nat) (x:KV),L[k]?=some x->∃g,a=some ⟨g,0,none⟩/\(wa.setCell ⟨pb,0,none⟩ (.int .i32 1)).cell? ⟨g,k*2,none⟩=some (.string x.1)/\(wa.setCell ⟨pb,0,none⟩ (.int .i32 1)).cell? ⟨g,k*2+1,none⟩=some (.string x.2):=fun k x hx=>by obtain⟨g,e,r1,r2⟩:=hcell k x hx;have hgl:g<w.heap.size:=World.block_lt_of_cell? w _ r1;exact⟨g,e,(World.cell?_of_block (w:=w) (eH g hgl (Vj g e))).trans r1,(World.cell?_of_block (w:=w) (eH g hgl (Vj g e))).trans r2⟩
 have ahh:(wa.setCell ⟨pb,0,none⟩ (.int .i32 1)).heap.size=wa.heap.size:=by simp[World.setCell]
 generalize PT:wa.setCell ⟨pb,0,none⟩ (.int .i32 1)=wb at *;have d3:wb.cell? ⟨pb,3,none⟩=some (.map (some vb)):=j9.cell (o:=3) rfl;have d2:wb.cell? ⟨pb,2,none⟩=some (.map (some kb)):=j9.cell (o:=2) rfl;have cvl:=X3 (w:=wb) pb kb g d2 M1 v (by omega) (by omega) key a L cap sv hg h8 Qe;unfold ptr at cvl;obtain⟨fv,aL⟩:∃fv,f (.string key.data.toList)=fv:=⟨_,rfl⟩
 rw[aL]at hf;clear hcell Qe eH;go_wp2_with (at_lookup;refine nD _ rfl _ _ 200 rfl 9 3 fT underlying200 (Cz _) vb f rfl sC _ (.string key.data.toList) rfl (fG hk) fv aL ?_;rw[hf])
 refine cvl.mono ?_;rintro e w2 ⟨rfl,dQ⟩;clear cvl;have Jj:bg w2 w.heap.size _ _:=sn.of_eq (dQ.block _ sn.lt);have hbc:bg w2 pb _ _:=j9.of_eq (dQ.block _ j9.lt);have hKc:aS w2 prog 3 kb g:=M1.of_eq (dQ.block _ M1.lt);have e2:w2.cell? ⟨pb,2,none⟩=some (.map (some kb)):=hbc.cell (o:=2) rfl;have t0:=Jj.cell (o:=0) (v:=.int .i64 0) rfl;have t1:=Jj.cell (o:=1) (v:=.bool false) rfl;have t2:=Jj.cell (o:=2) (v:=.string ⟨#[]⟩) rfl;have t3:=Jj.cell (o:=3) (v:=.nilIface) rfl;have g0:=Jj.frozen 0;have g1:=Jj.frozen 1;have g2:=Jj.frozen 2;have g3:=Jj.frozen 3;have PU:pb≠w.heap.size:=by omega
 have KC:bg w2.drew w.heap.size _ _:=Jj;have z0:w2.drew.setCell ⟨w.heap.size,0,none⟩ (.int .i64 0)=w2.drew:=gR KC rfl;have z1:w2.drew.setCell ⟨w.heap.size,1,none⟩ (.bool false)=w2.drew:=gR KC rfl;have z2:w2.drew.setCell ⟨w.heap.size,2,none⟩ (.string ⟨#[]⟩)=w2.drew:=gR KC rfl;have z3:w2.drew.setCell ⟨w.heap.size,3,none⟩ .nilIface=w2.drew:=gR KC rfl;have TA:∀x,(w2.setCell ⟨w.heap.size,0,none⟩ x).drew.cell? ⟨pb,2,none⟩=some (.map (some kb)):=fun x=>(ij (w:=w2) PU).trans e2;have Vk:∀x y,((w2.setCell ⟨w.heap.size,0,none⟩ x).setCell ⟨w.heap.size,1,none⟩ y).drew.cell? ⟨pb,2,none⟩=some (.map (some kb)):=fun x y=>(ij (w:=w2.setCell ⟨w.heap.size,0,none⟩ x) PU).trans (TA x);have Vl:∀x y z,(((w2.setCell ⟨w.heap.size,0,none⟩ x).setCell ⟨w.heap.size,1,none⟩ y).setCell ⟨w.heap.size,2,none⟩ z).drew.cell? ⟨pb,2,none⟩=some (.map (some kb)):=fun x y z=>(ij (w:=(w2.setCell ⟨w.heap.size,0,none⟩ x).setCell ⟨w.heap.size,1,none⟩ y) PU).trans (Vk x y);have ach:∀x y z u,((((w2.setCell ⟨w.heap.size,0,none⟩ x).setCell ⟨w.heap.size,1,none⟩ y).setCell ⟨w.heap.size,2,none⟩ z).setCell ⟨w.heap.size,3,none⟩ u).drew.cell? ⟨pb,2,none⟩=some (.map (some kb)):=fun x y z u=>(ij (w:=((w2.setCell ⟨w.heap.size,0,none⟩ x).setCell ⟨w.heap.size,1,none⟩ y).setCell ⟨w.heap.size,2,none⟩ z) PU).trans (Vl x y z);have hfs:=XT (.slice a L.length cap) sv;have hlk:(Instr.lookup 199 (.map (some kb)) (.int .i64 v) false).run prog w2.drew=.ok (.agg #[.slice a L.length cap,sv]) w2.drew:=by have:=aS.look (w:=w2.drew) (e:=214) hKc eB underlying199 (mJ _) (keyOf_int (n:=v) (by omega) (by omega));rw[hg]at this;exact this
 have HE:Hid (bg ((((w2.setCell ⟨w.heap.size,0,none⟩ (.int .i64 v)).setCell ⟨w.heap.size,1,none⟩ (.bool (aP L key))).setCell ⟨w.heap.size,2,none⟩ (.string (valueOf L key))).setCell ⟨w.heap.size,3,none⟩ sv) w.heap.size #[.int .i64 v,.bool (aP L key),.string (valueOf L key),sv] 144/\
  bg ((((w2.setCell ⟨w.heap.size,0,none⟩ (.int .i64 v)).setCell ⟨w.heap.size,1,none⟩ (.bool (aP L key))).setCell ⟨w.heap.size,2,none⟩ (.string (valueOf L key))).setCell ⟨w.heap.size,3,none⟩ sv) pb #[.int .i32 1,fV,.map (some kb),.map (some vb)] 202/\
  Below w.heap.size w (((((w2.setCell ⟨w.heap.size,0,none⟩ (.int .i64 v)).setCell ⟨w.heap.size,1,none⟩ (.bool (aP L key))).setCell ⟨w.heap.size,2,none⟩ (.string (valueOf L key))).setCell ⟨w.heap.size,3,none⟩ sv).setCell ⟨pb,0,none⟩ eN)):=by
  have WR:∀k,k≠w.heap.size->((((w2.setCell ⟨w.heap.size,0,none⟩ (.int .i64 v)).setCell ⟨w.heap.size,1,none⟩ (.bool (aP L key))).setCell ⟨w.heap.size,2,none⟩ (.string (valueOf L key))).setCell ⟨w.heap.size,3,none⟩ sv).heap[k]?=w2.heap[k]? :=fun k hk=>by rw[za3 _ _ _ _ hk,za3 _ _ _ _ hk,za3 _ _ _ _ hk,za3 _ _ _ _ hk]
  refine⟨?_,?_,?_⟩
  ·simpa using(((Jj.set 0 (.int .i64 v)).set 1 (.bool (aP L key))).set 2 (.string (valueOf L key))).set 3 sv
  ·have:=hbc.of_eq (WR pb PU);simpa using this
  ·refine⟨?_,?_,?_,?_,fun k hk=>?_⟩
   ·exact dQ.os.trans (by rw[<-PT];exact hos.1)
   ·exact dQ.tape.trans (by rw[<-PT];exact hos.2.1)
   ·exact dQ.output.trans (by rw[<-PT];exact hos.2.2)
   ·have:=dQ.size;simp[World.setCell];omega
   ·refine(eM iz rfl (v:=.int .i32 1) (p:=fun k=>k<w.heap.size) (fun k hk=>?_) k hk).trans (hBo k hk);rw[PT,WR k (by omega)];exact dQ.block k (by omega)
 have TI:∀W:af,W.heap[kb]?=w2.heap[kb]? ->(Instr.lookup 199 (.map (some kb)) (.int .i64 v) false).run prog W=.ok (.agg #[.slice a L.length cap,sv]) W:=fun W hW=>by have:=aS.look (w:=W) (e:=214) (hKc.of_eq hW) eB underlying199 (mJ _) (keyOf_int (n:=v) (by omega) (by omega));rw[hg]at this;exact this
 have hkn:kb≠w.heap.size:=by omega
 have amz:=TI (w2.setCell ⟨w.heap.size,0,none⟩ (.int .i64 v)).drew (za3 _ _ _ _ hkn);have amA:=TI ((w2.setCell ⟨w.heap.size,0,none⟩ (.int .i64 v)).setCell ⟨w.heap.size,1,none⟩ (.bool (aP L key))).drew ((za3 _ _ _ _ hkn).trans (za3 _ _ _ _ hkn));have amB:=TI (((w2.setCell ⟨w.heap.size,0,none⟩ (.int .i64 v)).setCell ⟨w.heap.size,1,none⟩ (.bool (aP L key))).setCell ⟨w.heap.size,2,none⟩ (.string (valueOf L key))).drew ((za3 _ _ _ _ hkn).trans ((za3 _ _ _ _ hkn).trans (za3 _ _ _ _ hkn)));have hsc:sv.cells=#[sv]:=by rcases zG with rfl|⟨_,_,rfl⟩ <;>rfl
 unfold Value.cells at hsc;have Hsv:Hid (zO sv):=zG;have Hpn:Hid (w.heap.size≠pb):=fun e=>PU e.symm;generalize hhk:aP L key=XV at *;generalize hvk:valueOf L key=XW at *;generalize hnn:w.heap.size=nn at *;have Hhk:Hid _:=hhk;have Hvk:Hid _:=hvk;have Hnn:Hid _:=hnn;clear hhk hvk hnn;clear hg hf aL dQ Jj hbc hKc KC hb hK hM iz j9 hT sn hBo hos hsz ahh hpl hvl ot hne acg sC M1 PT d3 d2 c0 f0 zG h8 Vj hk PY PU hkn TI;have hst:Sem.run prog (store ⟨nn,3,none⟩ sv) (((w2.setCell ⟨nn,0,none⟩ (.int .i64 v)).setCell ⟨nn,1,none⟩ (.bool XV)).setCell ⟨nn,2,none⟩ (.string XW)).drew=.ok () ((((w2.setCell ⟨nn,0,none⟩ (.int .i64 v)).setCell ⟨nn,1,none⟩ (.bool XV)).setCell ⟨nn,2,none⟩ (.string XW)).setCell ⟨nn,3,none⟩ sv).drew:=by rcases Hsv.out with rfl|⟨st,sx,rfl⟩ <;>go_simp
 go_wp2_with fail
 go_region_held3 (fun W=>W.cell? ⟨pb,2,none⟩=some (.map (some kb))) (first|with_reducible exact TA _|with_reducible exact Vk _ _|with_reducible exact Vl _ _ _|with_reducible exact ach _ _ _ _|(simp[*];done)) (fail)
 all_goals
  go_wp2_with fail
  obtain⟨G2,DG,uK⟩:=HE.out
  have hb4:bg ((((w2.setCell ⟨nn,0,none⟩ (.int .i64 v)).setCell ⟨nn,1,none⟩ (.bool XV)).setCell ⟨nn,2,none⟩ (.string XW)).setCell ⟨nn,3,none⟩ sv).drew pb _ _:=DG
  have OK:bg (((((w2.setCell ⟨nn,0,none⟩ (.int .i64 v)).setCell ⟨nn,1,none⟩ (.bool XV)).setCell ⟨nn,2,none⟩ (.string XW)).setCell ⟨nn,3,none⟩ sv).drew.setCell ⟨pb,0,none⟩ eN) nn _ _:=G2.of_eq (za3 _ _ _ _ Hpn.out)
  refine leaves_cons (f:=38) (args:=#[.pointer (some ⟨pb,0,none⟩)]) (by simp) (by simp[go_sem]) ?_
  refine(unlock_deferred Tryz.bA ⟨pb,0,none⟩ .returning _ (hb4.cell (o:=0) rfl) (hb4.frozen 0)).mono ?_
  rintro e u' w'' ⟨rfl,rfl,rfl⟩
  refine⟨_,results_cell_row rfl _ _ nn _ _ (0,0) _ rfl OK underlying144 rfl EJ,?_,?_⟩
  ·rw[Hhk.out,Hvk.out]
  ·rw[Hnn.out]
   exact⟨uK.os,uK.tape,uK.output,uK.size,uK.block⟩
end
end Go.Proofs.YteoahlieielcdaaGreat
