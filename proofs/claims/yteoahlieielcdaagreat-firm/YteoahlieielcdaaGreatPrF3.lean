import Derived.Test.YteoahlieielcdaaGreatPr21
set_option linter.all false
set_option maxHeartbeats 8000000
set_option maxRecDepth 100000
namespace Go.Proofs.YteoahlieielcdaaGreat
open Go Go.RowKit Go.MuLone
open Go.Maps (Keyed)
abbrev zbo:=@RowKit.Below.heap_alloc
abbrev zbp:=@Nat.le_refl
variable{c k i:Nat}{r:MR}{rs:List MR}
section
theorem PN:(Tryz.prog.info? 62).map (fun i=>(i.zero,i.size,i.bytes))=some (some (.agg #[.string ByteArray.empty,.int .i64 0,.string ByteArray.empty]),3,40):=by kernel_rfl
theorem Fa(n:Nat)(hn:n<=8)(W:World):∃M:Array Value,M.size=n*3/\(Instr.makeSlice 42 (.int .i64 (n:Int)) (.int .i64 (n:Int))).run Tryz.prog W=.ok (.slice (some ⟨W.heap.size,0,none⟩) n n) (W.alloc (.cells M 62)):=by obtain⟨i0,hi,hz0,LK,OL⟩:=info_parts PN;have h:=run_make (P:=Tryz.prog) W 42 62 i0 _ Tryz.underlying42 hi hz0 .i64 .i64 (n:Int) (n:Int) (by omega) (by omega) (by rw[OL];omega) (by omega);refine⟨_,?_,by simpa using h⟩;rw[size_madeCells,LK]
def BU(C:Array Value)(keys:List ByteArray)(c:Nat)(tv:Nat->ByteArray)(k:Nat):Prop:=
 ∀(j:Nat) (x:ByteArray),j<k->keys[j]?=some x->C[j*3]?=some (.string x)/\C[j*3+1]?=some (.int .i64 c)/\C[j*3+2]?=some (.string (tv j))
theorem BU.step{C:Array Value}{keys:List ByteArray}{tv:Nat->ByteArray}{x:ByteArray}(h:BU C keys c tv k)(hx:keys[k]?=some x)(hs:k*3+2<C.size):
 BU (((C.setIfInBounds (k*3) (.string x)).setIfInBounds (k*3+1) (.int .i64 c)).setIfInBounds (k*3+2) (.string (tv k))) keys c tv (k+1):=by
 intro j y hj hy;by_cases e:j=k
 ·subst e;rw[hx]at hy;cases hy;refine⟨?_,?_,?_⟩
  ·simp[Array.getElem?_setIfInBounds];omega
  ·simp[Array.getElem?_setIfInBounds];omega
  ·simp[Array.getElem?_setIfInBounds];omega
 ·obtain⟨h1,h2,h3⟩:=h j y (by omega) hy;have d1:∀a b:Nat,a≠b->∀(D:Array Value) (v:Value),(D.setIfInBounds a v)[b]?=D[b]? :=fun a b hab D v=>by simp[hab]
  refine⟨?_,?_,?_⟩
  ·rw[d1 _ _ (by omega),d1 _ _ (by omega),d1 _ _ (by omega)];exact h1
  ·rw[d1 _ _ (by omega),d1 _ _ (by omega),d1 _ _ (by omega)];exact h2
  ·rw[d1 _ _ (by omega),d1 _ _ (by omega),d1 _ _ (by omega)];exact h3
section
variable {w:World}{A:SA}
theorem FC(h:Seen w A i r)(c:Nat)(hall:∀(j:Nat) (x:ByteArray),r.keys[j]?=some x->r.found j=c)(hok:∀(j:Nat) (x:ByteArray),r.keys[j]?=some x->c=0\/A.R.hv i j=true)(htz:∀(j:Nat) (x:ByteArray),r.keys[j]?=some x->(A.R.tv i j).size<=64):
 Calls Tryz.prog 44 #[ptr (A.R.pr i)] w fun e w'=>∃C,e=.returned (.tuple #[.slice (some ⟨w.heap.size,0,none⟩) r.keys.length r.keys.length,.int .i64 0])/\aT w' w.heap.size C 62/\C.size=r.keys.length*3/\BU C r.keys c (A.R.tv i) r.keys.length/\Below w.heap.size w w':=by
 have Hz:=h.l8;have KQ:=h.l1;obtain⟨kg,bC,hkv,_,_,mG,_⟩:=dJ h.ky (by omega);have AI:kg<w.heap.size:=(aR h.ky kg (by rw[hkv];rfl)).2;have hkc:∀(j:Nat) (x:ByteArray),r.keys[j]?=some x->w.cell? ⟨kg,j,none⟩=some (.string x):=fun j x hx=>by have hj:=aE hx;rw[mG j (by omega),List.getElem?_map,hx];rfl
 have CY:=h.rd.lt;have c3:w.cell? ⟨A.R.pr i,3,none⟩=some (.slice (some ⟨kg,0,none⟩) r.keys.length bC):=by have:=h.rd.cell (o:=3) (v:=A.R.ks i) rfl;rw[hkv]at this;exact this
 obtain⟨M,hMs,hmk⟩:=Fa r.keys.length Hz w;have iM:Below w.heap.size w ((w.alloc (.cells M 62)).alloc (.cells #[.slice (some ⟨w.heap.size,0,none⟩) r.keys.length r.keys.length] 42)):=((Below.refl _ _).alloc (zbp _) _).alloc (by simp) _;have cc:=zi (h.below iM);have mU:aT ((w.alloc (.cells M 62)).alloc (.cells #[.slice (some ⟨w.heap.size,0,none⟩) r.keys.length r.keys.length] 42)) w.heap.size M 62:=(aT.new w _ _).of_eq (zbo _ _ _ (by simp));have Z4:aT ((w.alloc (.cells M 62)).alloc (.cells #[.slice (some ⟨w.heap.size,0,none⟩) r.keys.length r.keys.length] 42)) (w.heap.size+1) #[.slice (some ⟨w.heap.size,0,none⟩) r.keys.length r.keys.length] 42:=by have:=aT.new (w.alloc (.cells M 62)) #[.slice (some ⟨w.heap.size,0,none⟩) r.keys.length r.keys.length] 42;simpa using this
 have qQ:((w.alloc (.cells M 62)).alloc (.cells #[.slice (some ⟨w.heap.size,0,none⟩) r.keys.length r.keys.length] 42)).heap.size=w.heap.size+2:=by simp
 have HS:Hid (Seen w A i r):=h;clear hkv mG;unfold ptr at cc⊢;go_enter Tryz.func44,Tryz.ntmps44;go_wp2_with fail
 generalize (w.alloc (.cells M 62)).alloc (.cells #[.slice (some ⟨w.heap.size,0,none⟩) r.keys.length r.keys.length] 42)=w1 at *;refine cc.mono ?_;rintro e w2 ⟨⟨ca,cn,eN,rfl⟩,dP⟩;clear cc hmk;have oO:Below w.heap.size w w2:=iM.trans (dP.mono iM.size);have w8:=dP.size;have rj:Below w.heap.size w ((w2.alloc (.cells #[.slice ca cn eN] 58)).alloc (.cells #[.int .u64 0,.int .u32 0] 155)):=(oO.alloc oO.size _).alloc (by simp;omega) _;have hM4:aT ((w2.alloc (.cells #[.slice ca cn eN] 58)).alloc (.cells #[.int .u64 0,.int .u32 0] 155)) w.heap.size M 62:=(mU.of_eq (dP.block _ (by omega))).of_eq ((zbo _ _ _ (by simp;omega)).trans (zbo _ _ _ (by omega)));have hX4:aT ((w2.alloc (.cells #[.slice ca cn eN] 58)).alloc (.cells #[.int .u64 0,.int .u32 0] 155)) (w.heap.size+1) _ _:=(Z4.of_eq (dP.block _ (by omega))).of_eq ((zbo _ _ _ (by simp;omega)).trans (zbo _ _ _ (by omega)));have VR:aT ((w2.alloc (.cells #[.slice ca cn eN] 58)).alloc (.cells #[.int .u64 0,.int .u32 0] 155)) (w2.heap.size+1) #[.int .u64 0,.int .u32 0] 155:=by have:=aT.new (w2.alloc (.cells #[.slice ca cn eN] 58)) #[.int .u64 0,.int .u32 0] 155;simpa using this
 have c34:((w2.alloc (.cells #[.slice ca cn eN] 58)).alloc (.cells #[.int .u64 0,.int .u32 0] 155)).cell? ⟨A.R.pr i,3,none⟩=some (.slice (some ⟨kg,0,none⟩) r.keys.length bC):=(rj.cell (p:=⟨A.R.pr i,3,none⟩) CY).trans c3;go_wp2_with fail
 generalize ((w2.alloc (.cells #[.slice ca cn eN] 58)).alloc (.cells #[.int .u64 0,.int .u32 0] 155))=w4 at *;generalize hgb:w2.heap.size+1=gb at *;have akX:w.heap.size+1<gb:=by omega
 clear iM mU Z4 qQ dP oO w8 hgb;go_loopw [6,24] (fun s6 u wr=>∃(k:Nat) (C:Array Value),k<=r.keys.length/\s6=.int .i64 0/\u=.int .i64 k/\aT wr w.heap.size C 62/\C.size=r.keys.length*3/\Hid (BU C r.keys c (A.R.tv i) k)/\aT wr (w.heap.size+1) #[.slice (some ⟨w.heap.size,0,none⟩) r.keys.length r.keys.length] 42/\aT wr gb #[.int .u64 0,.int .u32 0] 155/\Below w.heap.size w wr) (fun _ u _=>r.keys.length-(intOf u).toNat)
 case atStart=>exact⟨0,M,Nat.zero_le _,rfl,rfl,hM4,hMs,fun j x hj=>by omega,hX4,VR,rj⟩
 case round=>
  obtain⟨k,C,hk,rfl,rfl,hC,Xy,HA,hX,hG,hB⟩:=hrel;by_cases hlt:k<r.keys.length
  ·have hx:r.keys[k]?=some r.keys[k]:=List.getElem?_eq_getElem hlt;have ck:=hkc k _ hx;have XH:=(hB.cell (p:=⟨kg,k,none⟩) AI).trans ck;have hfk:=hall k _ hx;have htk:=htz k _ hx;have HA':Hid _:=HA.out.step hx (by omega);have hkz:=h.kz _ (List.getElem_mem hlt);obtain⟨qp,hq⟩:=h.q k _ hx;rw[hfk]at hq;have SH:=fun(W:World) (hW:Below w.heap.size w W)=>tO (h.below hW) c hall hok hx;have HTI:Hid _:=SH;have hqf:bW A.R i r (.string r.keys[k].data.toList)=some (.pointer (some ⟨A.R.qb i k,0,none⟩)):=by have e1:=lz h.nd hx;simp only[bW,pM,e1,if_pos hlt];rfl
   generalize r.keys[k]=x at *;generalize A.R.tv i k=Ur at *;clear ck SH;go_upto_region 8 with(fail)
   have Eg:Below w.heap.size w ((wr.alloc (.cells #[.int .i64 k] 3)).alloc (.cells #[.string x] 9)):=(hB.alloc hB.size _).alloc (by have:=hB.size;simp;omega) _;have hBr:Below wr.heap.size wr ((wr.alloc (.cells #[.int .i64 k] 3)).alloc (.cells #[.string x] 9)):=((Below.refl _ _).alloc (zbp _) _).alloc (by simp) _;have e8:aT ((wr.alloc (.cells #[.int .i64 k] 3)).alloc (.cells #[.string x] 9)) wr.heap.size #[.int .i64 k] 3:=(aT.new wr _ _).of_eq (zbo _ _ _ (by simp));have e9:aT ((wr.alloc (.cells #[.int .i64 k] 3)).alloc (.cells #[.string x] 9)) (wr.heap.size+1) #[.string x] 9:=by have:=aT.new (wr.alloc (.cells #[.int .i64 k] 3)) #[.string x] 9;simpa using this
   have PM:((wr.alloc (.cells #[.int .i64 k] 3)).alloc (.cells #[.string x] 9)).heap.size=wr.heap.size+2:=by simp
   generalize (wr.alloc (.cells #[.int .i64 k] 3)).alloc (.cells #[.string x] 9)=wa at *;have b9:wa.cell? ⟨wr.heap.size+1,0,none⟩=some (.string x):=e9.cell (o:=0) rfl;have b4:wa.cell? ⟨A.R.pr i,4,none⟩=some (.map (some (A.R.qm i))):=(Eg.cell (p:=⟨A.R.pr i,4,none⟩) CY).trans (h.rd.cell (o:=4) rfl);have adQ:=hB.size;have hqm:=h.qm.of_eq (w':=wa) (Eg.block _ h.qm.lt);have FD:∀W:World,W.heap[A.R.qm i]?=wa.heap[A.R.qm i]? ->(Instr.lookup 135 (.map (some (A.R.qm i))) (.string x) false).run Tryz.prog W=.ok (.pointer (some ⟨A.R.qb i k,0,none⟩)) W:=fun W hW=>by have:=aK.look (w:=W) (e:=139) (hqm.of_eq hW) dI Tryz.underlying135 (jQ _) (dZ (s:=x) (by unfold maxLen;omega));rw[hqf]at this;exact this
   have afB:=FD wa.drew rfl;have afC:=FD (wa.alloc (.cells #[.pointer none] 139)).drew (zbo _ _ _ hqm.lt);have ahN:A.R.pr i<wa.heap.size:=by omega
   clear FD;go_cut [10] (fun Q4 wx=>∃ob,Q4=.pointer (some ⟨ob,0,none⟩)/\aT wx ob #[.pointer (some ⟨A.R.qb i k,0,none⟩)] 139/\Below wa.heap.size wa wx/\wa.heap.size<=ob)
   case first=>
    go_region_held3 (fun W=>W.cell? ⟨A.R.pr i,4,none⟩=some (.map (some (A.R.qm i)))/\W.cell? ⟨wr.heap.size+1,0,none⟩=some (.string x)) (first|(simp[*];done)|(refine⟨?_,?_⟩ <;>(rw[World.cell?_of_block (w:=wa.drew) (zbo wa.drew _ _ (by simp only;omega))];assumption))|(go_keep;done)) (fail)
    all_goals
     go_wp2_with fail
     go_meet
     case rel=>
      have hnb:=aT.new wa #[.pointer (some ⟨A.R.qb i k,0,none⟩)] 139
      rw[PM]at hnb
      exact⟨wr.heap.size+2,rfl,hnb,((Below.refl _ _).alloc (zbp _) _).drew,by omega⟩
   case rest=>
    obtain⟨ob,rfl,V6,Rj,hol⟩:=hcut;have SR:Below w.heap.size w wc:=Eg.trans (Rj.mono Eg.size);have ct:=HTI.out wc SR;unfold ptr at ct;have x9:wc.cell? ⟨wr.heap.size+1,0,none⟩=some (.string x):=(Rj.cell (p:=⟨wr.heap.size+1,0,none⟩) (by simp only;omega)).trans b9;clear afB afC b4 b9 hqf;go_wp2_with fail
    refine ct.mono ?_;rintro e w5 ⟨rfl,Df⟩;clear ct;have aar:=Rj.size;have ak0:=Df.size;have Wz:Below w.heap.size w w5:=SR.trans (Df.mono SR.size);have SS:Below wr.heap.size wr w5:=hBr.trans ((Rj.mono hBr.size).trans (Df.mono (by omega)));have WA:Below wa.heap.size wa w5:=Rj.trans (Df.mono aar);have hgl:=hG.lt;have hX5:aT w5 (w.heap.size+1) _ _:=hX.of_eq (SS.block _ hX.lt);have hC5:aT w5 w.heap.size C _:=hC.of_eq (SS.block _ hC.lt);have hG5:aT w5 gb _ _:=hG.of_eq (SS.block _ hG.lt);have h85:aT w5 wr.heap.size _ _:=e8.of_eq (WA.block _ e8.lt);have h95:aT w5 (wr.heap.size+1) _ _:=e9.of_eq (WA.block _ e9.lt);have ho5:aT w5 ob _ _:=V6.of_eq (Df.block _ V6.lt);have hq5:aT w5 (A.R.qb i k) _ _:=hq.of_eq (Wz.block _ hq.lt);have Uh:=hq.lt;have Sr:=ho5.lt;have m1:w5.cell? ⟨w.heap.size+1,0,none⟩=some (.slice (some ⟨w.heap.size,0,none⟩) r.keys.length r.keys.length):=hX5.cell (o:=0) rfl;have m2:w5.cell? ⟨wr.heap.size,0,none⟩=some (.int .i64 k):=h85.cell (o:=0) rfl;have m3:w5.cell? ⟨wr.heap.size+1,0,none⟩=some (.string x):=h95.cell (o:=0) rfl;have m4:w5.cell? ⟨ob,0,none⟩=some (.pointer (some ⟨A.R.qb i k,0,none⟩)):=ho5.cell (o:=0) rfl;have m5:w5.cell? ⟨A.R.qb i k,2,none⟩=some (.int .i64 c):=hq5.cell (o:=2) rfl;have m6:w5.cell? ⟨A.R.qb i k,4,none⟩=some (.string Ur):=hq5.cell (o:=4) rfl;have cna:=AV (w:=w5.drew) x c Ur (by omega);have HZ:Hid (∀w6:World,Below w5.drew.heap.size w5.drew w6->(∀(p:Addr) (v:Value),w5.cell? p=some v->w6.cell? p=some v)/\aT w6 w.heap.size C 62):=fun w6 BH=>⟨fun p v hv=>(BH.cell (p:=p) (World.block_lt_of_cell? w5 _ hv)).trans hv,hC5.of_eq (BH.block _ hC5.lt)⟩
    have HW:Hid (∀w6:World,Below w5.drew.heap.size w5.drew w6->aT (((w6.setCell ⟨w.heap.size,k*3,none⟩ (.string x)).setCell ⟨w.heap.size,k*3+1,none⟩ (.int .i64 c)).setCell ⟨w.heap.size,k*3+2,none⟩ (.string Ur)) w.heap.size _ 62/\
     aT (((w6.setCell ⟨w.heap.size,k*3,none⟩ (.string x)).setCell ⟨w.heap.size,k*3+1,none⟩ (.int .i64 c)).setCell ⟨w.heap.size,k*3+2,none⟩ (.string Ur)) (w.heap.size+1) #[.slice (some ⟨w.heap.size,0,none⟩) r.keys.length r.keys.length] 42/\
     aT (((w6.setCell ⟨w.heap.size,k*3,none⟩ (.string x)).setCell ⟨w.heap.size,k*3+1,none⟩ (.int .i64 c)).setCell ⟨w.heap.size,k*3+2,none⟩ (.string Ur)) gb #[.int .u64 0,.int .u32 0] 155/\
     Below w.heap.size w (((w6.setCell ⟨w.heap.size,k*3,none⟩ (.string x)).setCell ⟨w.heap.size,k*3+1,none⟩ (.int .i64 c)).setCell ⟨w.heap.size,k*3+2,none⟩ (.string Ur))):=fun w6 BH=>by
     have IB:∀q,q≠w.heap.size->(((w6.setCell ⟨w.heap.size,k*3,none⟩ (.string x)).setCell ⟨w.heap.size,k*3+1,none⟩ (.int .i64 c)).setCell ⟨w.heap.size,k*3+2,none⟩ (.string Ur)).heap[q]?=w6.heap[q]? :=fun q hq=>by rw[Below.heap_setCell _ _ _ _ hq,Below.heap_setCell _ _ _ _ hq,Below.heap_setCell _ _ _ _ hq]
     have afG:Below w.heap.size w w6:=Wz.drew.trans (BH.mono Wz.size);exact⟨(((hC5.of_eq (BH.block _ hC5.lt)).set _ _).set _ _).set _ _,(hX5.of_eq (BH.block _ hX5.lt)).of_eq (IB _ (by omega)),(hG5.of_eq (BH.block _ hG5.lt)).of_eq (IB _ (by omega)),((afG.setCell (p:=⟨w.heap.size,k*3,none⟩) (zbp _) _).setCell (p:=⟨w.heap.size,k*3+1,none⟩) (zbp _) _).setCell (p:=⟨w.heap.size,k*3+2,none⟩) (zbp _) _⟩
    obtain⟨y0,XO⟩:∃v,C[k*3]?=some v:=⟨_,Array.getElem?_eq_getElem (by omega)⟩
    obtain⟨y1,hk1⟩:∃v,C[k*3+1]?=some v:=⟨_,Array.getElem?_eq_getElem (by omega)⟩
    obtain⟨y2,hk2⟩:∃v,C[k*3+2]?=some v:=⟨_,Array.getElem?_eq_getElem (by omega)⟩
    have HK:Hid (∀w6:World,aT w6 w.heap.size C 62->w6.cell? ⟨w.heap.size,k*3,none⟩=some y0/\w6.cell? ⟨w.heap.size,k*3+1,none⟩=some y1/\w6.cell? ⟨w.heap.size,k*3+2,none⟩=some y2):=fun w6 Us=>⟨Us.cell XO,Us.cell hk1,Us.cell hk2⟩
    have hn1:w.heap.size+1≠w.heap.size:=by omega
    have hn2:wr.heap.size≠w.heap.size:=by omega
    have hn3:wr.heap.size+1≠w.heap.size:=by omega
    have hn4:ob≠w.heap.size:=by omega
    have hn5:A.R.qb i k≠w.heap.size:=by omega
    have HSz:Hid (C.size=r.keys.length*3):=Xy;clear Df Rj SR SS WA Eg hBr hX hC hG e8 e9 V6 hq hX5 hG5 h85 h95 ho5 hq5 x9 hC5 XO hk1 hk2 Xy hqm hX4 hM4 VR rj;go_wp2_with fail
    go_region_held3 (fun W=>W.cell? ⟨w.heap.size+1,0,none⟩=some (.slice (some ⟨w.heap.size,0,none⟩) r.keys.length r.keys.length)/\W.cell? ⟨wr.heap.size,0,none⟩=some (.int .i64 k)/\W.cell? ⟨wr.heap.size+1,0,none⟩=some (.string x)/\W.cell? ⟨ob,0,none⟩=some (.pointer (some ⟨A.R.qb i k,0,none⟩))/\W.cell? ⟨A.R.qb i k,2,none⟩=some (.int .i64 c)/\W.cell? ⟨A.R.qb i k,4,none⟩=some (.string Ur))
     (first|(simp[*];done)|(refine⟨?_,?_,?_,?_,?_,?_⟩ <;>(rw[fM (by assumption),fM (by assumption),fM (by assumption)];assumption)))
     ((go_at_call 78;refine cna.mono ?_;rintro e w6 ⟨rfl,BH⟩;obtain⟨Kc,Us⟩:=HZ.out w6 BH;obtain⟨d0,d1,d2⟩:=HK.out w6 Us;have g0:=Us.frozen (k*3);have g1:=Us.frozen (k*3+1);have g2:=Us.frozen (k*3+2);have n1:=Kc _ _ m1;have n2:=Kc _ _ m2;have n3:=Kc _ _ m3;have n4:=Kc _ _ m4;have n5:=Kc _ _ m5;have n6:=Kc _ _ m6;clear Kc))
    all_goals
     obtain⟨r1,r2,r3,r4⟩:=HW.out w6 BH
     go_wp2_with fail
     go_roundw
     case rel=>exact⟨k+1,_,by omega,rfl,by go_num,r1,by simpa using HSz.out,HA',r2,r3,r4⟩
     case measure=>simp[intOf];omega
  ·have Ix:k=r.keys.length:=by omega
   rw[Ix]at HA;have cw:=Me gb hG;have x4:wr.cell? ⟨w.heap.size+1,0,none⟩=some (.slice (some ⟨w.heap.size,0,none⟩) r.keys.length r.keys.length):=hX.cell (o:=0) rfl;unfold ptr at cw;clear Ix hkc hall hok htz;go_wp2_with fail
   refine cw.mono ?_;rintro e w6 ⟨rfl,rfl⟩;clear cw;go_wp2_with fail
   go_ret2
   exact⟨C,rfl,hC,Xy,HA.out,hB⟩
end
end
section
def Fc(s:MS)(i:Nat)(r:MR):MS:={s with rs:=s.rs.set i {r with fin:=true}}
theorem AW(hr:rs[i]?=some r)(hf:r.fin=false):cj (rs.set i {r with fin:=true})+1=cj rs:=by
 unfold cj;induction rs generalizing i with
 |nil=>simp at hr
 |cons a l ih=>
  cases i with
  |zero=>
   simp at hr;subst hr;simp[hf]
  |succ i=>
   have:=ih (by simpa using hr);simp only[List.set_cons_succ,List.countP_cons];omega
theorem BV(hr:rs[i]?=some r)(n:Int):fO (rs.set i {r with fin:=true}) n=if n=(i:Int)+1 then none else fO rs n:=by
 have hi:=aE hr;unfold fO;simp only[List.length_set];by_cases e:n=(i:Int)+1
 ·subst e;rw[if_pos rfl,if_neg (by omega),show ((i:Int)+1-1).toNat=i from by omega];simp[hi]
 ·rw[if_neg e];split
  ·rfl
  ·rw[List.getElem?_set_ne (by omega)]
theorem IU{B:SB}(hr:rs[i]?=some r):dc (rs.set i {r with fin:=true}) B=del (dc rs B) (.int .i64 ((i:Int)+1)):=by
 funext kl;by_cases e:kl=.int .i64 ((i:Int)+1)
 ·subst e;rw[mQ (by trivial)];simp[dc,BV hr]
 ·rw[kS e];cases kl with
  |int k n=>
   cases k<;>try rfl
   have hn:n≠(i:Int)+1:=fun e'=>e (by rw[e']);simp only[dc,BV hr,if_neg hn]
  |_=>rfl
section
variable {w:World}{τ:Nat->Tag}{aD b:Nat}{s:MS}{A:SA}
theorem aW.fin(h:aW w τ aD b s A){i:Nat}{r:MR}(hr:s.rs[i]?=some r)(jr:r.fin=false){w':World}(hne:∀k,k≠A.R.rm->w'.heap[k]?=w.heap[k]?)
 (hM:aK w' Tryz.prog 3 A.R.rm (del (dc s.rs A.R) (.int .i64 ((i:Int)+1)))):aW w' τ aD b (Fc s i r) A:=by
 have hi:=aE hr;have dK:∀{q:Nat} {rq:MR},(s.rs.set i {r with fin:=true})[q]?=some rq->rq.fin=false->q≠i/\s.rs[q]?=some rq:=by
  intro q rq hq hf;rcases jU hq with⟨rfl,rfl⟩|⟨e,hq⟩
  ·cases hf
  ·exact⟨fun e'=>e e'.symm,hq⟩
 have hne':∀{k g g':Nat},τ k=(aD,g,g')->g≠10->w'.heap[k]?=w.heap[k]? :=fun ht hg=>hne _ (fun e=>by rw[e,h.reads.gS]at ht;simp at ht;omega);have:=h.IC (w':=w') (τ':=τ) (rs':=s.rs.set i {r with fin:=true}) (B':=A.R) (fun k hk h1 h2 h3=>⟨hne _ (fun e=>by rw[e,h.reads.gS]at h3;simp at h3),rfl⟩) h.tag
  ⟨h.ok.p1,h.ok.p4,h.ok.len,h.ok.items,fun q rq hq=>?_,?_⟩ ⟨h.told.sv,fun q rq hq hf=>?_,fun q rq j hq ha=>?_,fun q rq j x hq hf hx=>?_,fun q rq j x hq hf hx hv=>?_,fun q rq j x hq hf hx hv=>?_,fun q rq j x hq hf hx hv=>?_⟩ ?_ ⟨?_,h.reads.gS,fun q rq hq hf=>?_,fun q rq hq hf=>?_,fun q rq hq hf=>?_,fun q rq hq hf=>?_,fun q rq j x hq hf hx=>?_,fun q rq j x hq hf hx=>?_,fun q rq hq hf=>?_,fun q rq k hq hf hk=>?_⟩
 ·exact this
 ·rcases jU hq with⟨rfl,rfl⟩|⟨_,hq⟩
  ·exact h.ok.keys i r hr
  ·exact h.ok.keys q rq hq
 ·have:=AW hr jr;have h50:=h.ok.opn;show cj (s.rs.set i {r with fin:=true})<=50;omega
 ·exact h.told.no q rq (dK hq hf).2 hf
 ·rcases jU hq with⟨rfl,rfl⟩|⟨_,hq⟩
  ·exact h.told.un i r j hr ha
  ·exact h.told.un q rq j hq ha
 ·exact h.told.hv q rq j x (dK hq hf).2 hf hx
 ·exact h.told.tv q rq j x (dK hq hf).2 hf hx hv
 ·exact h.told.t0 q rq j x (dK hq hf).2 hf hx hv
 ·exact h.told.fm q rq j x (dK hq hf).2 hf hx hv
 ·simp only[List.length_set];exact h.blk.of_eq (hne' h.tag (by omega))
 ·rw[IU hr];exact hM
 ·have h1:=(dK hq hf).2;exact(h.reads.rd q rq h1 hf).of_eq (hne' (h.reads.iI q rq h1 hf) (by omega))
 ·exact h.reads.iI q rq (dK hq hf).2 hf
 ·have h1:=(dK hq hf).2;exact(h.reads.u5 q rq h1 hf).of_eq (hne' (h.reads.l5 q rq h1 hf) (by omega))
 ·exact h.reads.l5 q rq (dK hq hf).2 hf
 ·have h1:=(dK hq hf).2;exact(h.reads.q q rq j x h1 hf hx).of_eq (hne' (h.reads.lA q rq j x h1 hf hx) (by omega))
 ·exact h.reads.lA q rq j x (dK hq hf).2 hf hx
 ·have h1:=(dK hq hf).2;exact ak (h.reads.ky q rq h1 hf) (fun k hk=>hne' (h.reads.dF q rq k h1 hf hk) (by omega))
 ·exact h.reads.dF q rq k (dK hq hf).2 hf hk
theorem pFinish_order(h:aW w τ aD b s A)(n:Int)(hn: -9223372036854775808<=n)(hn':n<=9223372036854775807)(r:MR)(hf:gN s n=some r)(ha:iG r=false):
 Calls Tryz.prog 23 #[ptr b,.int .i64 n] w fun e w'=>e=.returned (.tuple #[.slice none 0 0,.int .i64 0,.int .i64 9])/\aW w' τ aD b s A/\Stp aD τ w τ w':=by
 have c:=nZ h n hn hn';obtain⟨h1,h2,hr,hc⟩:=pO hf;have hv:fQ s A n=(ptr (A.R.pr (n-1).toNat),true):=by unfold fQ;rw[hf]
 rw[hv]at c;have c2:∀w1,u6 w w1->Calls Tryz.prog 42 #[ptr (A.R.pr (n-1).toNat)] w1 fun e w'=>e=.returned (.bool false)/\Below w1.heap.size w1 w':=fun w1 hS=>by have:=pP (h.same hS) hr hc;rw[ha]at this;exact this
 generalize (n-1).toNat=j at c c2;unfold ptr at c c2⊢;clear hf hv ha;go_enter Tryz.func23,Tryz.ntmps23;go_wp2_with fail
 refine c.mono ?_;rintro e w1 ⟨rfl,hS⟩;have c3:=c2 w1 hS;clear c c2;go_wp2_with fail
 refine c3.mono ?_;rintro e w2 ⟨rfl,hB⟩;clear c3;go_wp2_with fail
 go_ret3
 exact⟨rfl,(h.same hS).below hB,(hS.nG _ _).trans (iw hB)⟩
def uS(s:MS)(c:Nat)(x:ByteArray):ByteArray:=if c=0 then⟨#[]⟩else((s.ws[c-1]?).bind (fun m=>jg m.items x)).getD ⟨#[]⟩
def Ut(C:Array Value)(keys:List ByteArray)(c:Nat)(v:ByteArray->ByteArray):Prop:=
 ∀(j:Nat) (x:ByteArray),keys[j]?=some x->C[j*3]?=some (.string x)/\C[j*3+1]?=some (.int .i64 c)/\C[j*3+2]?=some (.string (v x))
theorem yQ{l:List KV}{x v:ByteArray}(hg:∀y∈l,gj y=true)(h:jg l x=some v):v.size<=64:=by unfold jg at h;obtain⟨y,hy,rfl⟩:=Option.map_eq_some_iff.1 h;exact(gO (hg y (List.mem_of_find?_eq_some hy))).2.2
theorem CH(h:aW w τ aD b s A)(n:Int)(hn: -9223372036854775808<=n)(hn':n<=9223372036854775807)(r:MR)(hf:gN s n=some r)(ha:iG r=true)(c:Nat)(hall:∀(j:Nat) (x:ByteArray),r.keys[j]?=some x->r.found j=c)(hone:c=0\/¬(s.mode=2/\1<r.keys.length)):
 Calls Tryz.prog 23 #[ptr b,.int .i64 n] w fun e w'=>∃ab C,e=.returned (.tuple #[.slice (some ⟨ab,0,none⟩) r.keys.length r.keys.length,.int .i64 0,.int .i64 0])/\aT w' ab C 62/\C.size=r.keys.length*3/\Ut C r.keys c (uS s c)/\w.heap.size<=ab/\aW w' τ aD b (Fc s (n-1).toNat r) A/\Stp aD τ w τ w':=by
 have LG:=nZ h n hn hn';obtain⟨h1,h2,hr,hc⟩:=pO hf;have hv:fQ s A n=(ptr (A.R.pr (n-1).toNat),true):=by unfold fQ;rw[hf]
 rw[hv]at LG;obtain⟨i,hi⟩:∃i:Nat,(n-1).toNat=i:=⟨_,rfl⟩
 have hni:n=(i:Int)+1:=by omega
 subst hni;rw[hi]at hr LG⊢;have c2:∀w1,u6 w w1->Calls Tryz.prog 42 #[ptr (A.R.pr i)] w1 fun e w'=>e=.returned (.bool true)/\Below w1.heap.size w1 w':=fun w1 hS=>by have:=pP (h.same hS) hr hc;rw[ha]at this;exact this
 have VU:dc s.rs A.R (.int .i64 ((i:Int)+1))=some (ptr (A.R.pr i)):=by have h9:fO s.rs ((i:Int)+1)=some r:=hf;simp only[dc,h9,hi]
 have hno:=h.told.no i r hr hc;have hok:∀(j:Nat) (x:ByteArray),r.keys[j]?=some x->c=0\/A.R.hv i j=true:=fun j x hx=>by
  by_cases e:c=0
  ·exact Or.inl e
  ·refine Or.inr ?_;rw[h.told.hv i r j x hr hc hx,hall j x hx,hno];rcases hone with e'|e'
   ·exact absurd e' e
   ·simp[e];by_cases e1:s.mode=2
    ·exact Or.inr (by have:¬1<r.keys.length:=fun h'=>e' ⟨e1,h'⟩;omega)
    ·exact Or.inl e1
 have hval:∀(j:Nat) (x:ByteArray),r.keys[j]?=some x->A.R.tv i j=uS s c x/\(A.R.tv i j).size<=64/\yl (A.R.ts i j):=fun j x hx=>by
  by_cases e:c=0
  ·have hv0:A.R.hv i j=false:=by rw[h.told.hv i r j x hr hc hx,hall j x hx];simp[e]
   obtain⟨t1,t2⟩:=h.told.t0 i r j x hr hc hx hv0;refine⟨by rw[t1];simp[uS,e],by rw[t1];exact Nat.zero_le _,Or.inl t2⟩
  ·have hv1:A.R.hv i j=true:=(hok j x hx).resolve_left e;obtain⟨m,hm,t1,t2⟩:=h.told.tv i r j x hr hc hx hv1;rw[hall j x hx]at hm t2;refine⟨by simp[uS,e,hm,t1],yQ (h.ok.items _ m hm).2 t1,by rw[t2];exact h.told.sv _ m hm⟩
 have c3:∀w2:World,aW w2 τ aD b s A->Calls Tryz.prog 43 #[ptr b,.int .i64 ((i:Int)+1)] w2 fun e w'=>e=.returned (.bool true)/\aW w' τ aD b (Fc s i r) A/\Stp aD τ w2 τ w'/\Seen w' A i r:=fun w2 h2'=>by
  have:=pQ b A.R.rm _ _ h2'.blk rfl rfl h2'.reads.qR ((i:Int)+1) hn hn';rw[VU]at this;refine this.mono ?_;rintro e w3 ⟨rfl,G0,lU⟩;have hne:∀{k g g':Nat},τ k=(aD,g,g')->g≠10->w3.heap[k]?=w2.heap[k]? :=fun ht hg=>lU.block _ (fun e=>by rw[e,h2'.reads.gS]at ht;simp at ht;omega);obtain⟨k1,k2,k3,k4⟩:=h2'.ok.keys i r hr;refine⟨rfl,h2'.fin hr hc lU.block G0,⟨lU.os,lU.tape,lU.output,Nat.le_of_eq lU.size.symm,fun _ _=>rfl,fun k _ hk=>lU.block k (fun e=>hk (by rw[e,h2'.reads.gS]))⟩,⟨k4,k1,k2,fun x hx=>(dG (k3 x hx)).2,?_,?_,fun j x hx=>⟨ptr (A.pb (partOf s.parts x).toNat),?_⟩,?_,fun j x hx=>(hval j x hx).2.2⟩⟩
  ·exact(h2'.reads.rd i r hr hc).of_eq (hne (h2'.reads.iI i r hr hc) (by omega))
  ·exact(h2'.reads.u5 i r hr hc).of_eq (hne (h2'.reads.l5 i r hr hc) (by omega))
  ·exact(h2'.reads.q i r j x hr hc hx).of_eq (hne (h2'.reads.lA i r j x hr hc hx) (by omega))
  ·exact ak (h2'.reads.ky i r hr hc) (fun k hk=>hne (h2'.reads.dF i r k hr hc hk) (by omega))
 have c4:=fun(w3:World) (h3:Seen w3 A i r)=>FC h3 c hall hok (fun j x hx=>(hval j x hx).2.1);have HV:Hid (∀(C:Array Value),BU C r.keys c (A.R.tv i) r.keys.length->Ut C r.keys c (uS s c)):=fun C hC j x hx=>by obtain⟨a1,a2,a3⟩:=hC j x (aE hx) hx;rw[(hval j x hx).1]at a3;exact⟨a1,a2,a3⟩
 have H0:Hid (aW w τ aD b s A):=h;unfold ptr at LG c2 c3 c4⊢;clear hf hv ha hall hone VU hno hok hval h hi h1 h2;have HN:∃m:Int,(i:Int)+1=m:=⟨_,rfl⟩
 obtain⟨m,hm⟩:=HN;rw[hm]at LG c3 hn hn'⊢;clear hm;go_enter Tryz.func23,Tryz.ntmps23;go_wp2_with fail
 refine LG.mono ?_;rintro e w1 ⟨rfl,hS⟩;have d2:=c2 w1 hS;have HR1:Hid (aW w1 τ aD b s A):=H0.out.same hS;clear LG c2;go_wp2_with fail
 refine d2.mono ?_;rintro e w2 ⟨rfl,hB⟩;have HR2:Hid (aW w2 τ aD b s A):=HR1.out.below hB;have d3:=c3 w2 HR2.out;clear d2 c3;go_wp2_with fail
 refine d3.mono ?_;rintro e w3 ⟨rfl,RY,Em,Rg⟩;have d4:=c4 w3 Rg;clear d3 c4;go_wp2_with fail
 refine d4.mono ?_;rintro e w4 ⟨C,rfl,hC,Xy,hA,rj⟩;have hR4:=RY.below rj;have Lb:Stp aD τ w τ w4:=((hS.nG _ _).trans (iw hB)).trans (Em.trans (iw rj));have hsz:w.heap.size<=w3.heap.size:=by
  have a1:=hB.size;have a2:=Em.size;have a3:w1.heap.size=w.heap.size:=by rw[hS.heap]
  omega
 have HO:=HV.out C hA;clear d4 hA;have Ry:Hid _:=HO;clear HO;go_wp2_with fail
 go_ret3
 exact⟨w3.heap.size,C,rfl,hC,Xy,Ry.out,hsz,hR4,Lb⟩
end
end
end Go.Proofs.YteoahlieielcdaaGreat
