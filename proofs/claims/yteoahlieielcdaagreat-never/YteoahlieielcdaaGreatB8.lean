import Derived.Test.YteoahlieielcdaaGreatB5
import Derived.Test.YteoahlieielcdaaGreatA5
set_option linter.all false
set_option maxHeartbeats 40000000
set_option maxRecDepth 100000
namespace Go.Proofs.YteoahlieielcdaaGreat
open Go.Proofs.Tryz
open Go Go.RowKit Go.MuLone Go.Conc
abbrev zc2:=@RowKit.Below.heap_alloc
abbrev zc3:=@Nat.le_refl
abbrev zc4:=@List.getElem?_eq_getElem
abbrev zc5:=@World.cell?_of_block
abbrev zc6:=@List.mem_of_getElem?
abbrev zc7:=@List.eraseIdx_of_length_le
abbrev zc8:=@List.length_pos_iff
abbrev zc9:=@List.length_take
abbrev zda:=@List.mem_cons
abbrev zdb:=@List.mem_of_mem_eraseIdx
variable{i rb n lc xb sb at_ ab wg j cv m' cap:Nat}{Q:ak->List ak->af->Prop}{b cl:ak}{a:Act}{k kk:List Item}{c:List ak}{la av a0:Option aA}{w W:af}{RL RX:List jX}{v2 v u sv:aj}{wn:Nat->Nat}{vl:Nat->ah}{Sb:Nat->Prop}
section
noncomputable def bW:Code:=f16.body.getD .skip
noncomputable def Dp:Code:=bz 10 bW
def Kh:bW=.seq (cA bW) (.seq (cA (bz 1 bW)) (.seq (cA (bz 2 bW)) (bz 3 bW))):=by kernel_rfl
structure qT(a:Act)(xb at_ rb:Nat)(last:Bool):Prop where
 d:a.defers= []
 s:a.tmps.size=195
 t0:a.tmps[0]?=some (.pointer (some ⟨xb,0,none⟩))
 t1:a.tmps[1]?=some (.int .i64 at_)
 t2:a.tmps[2]?=some (.bool last)
 t7:a.tmps[7]?=some (.pointer (some ⟨rb,0,none⟩))
def NU:(prog.info? 3).map (fun i=>(i.zero,i.size,i.bytes))=some (some (.int .i64 0),1,8):=by kernel_rfl
def DY{P:Nat}{D:List mY}{d:mY}(hd:D[i]?=some d):cK P (D.take (i+1))=cK P (D.take i)++(if oI P d then [d.k.n]else []):=by obtain⟨hi,rfl⟩:=List.getElem?_eq_some_iff.1 hd;unfold cK;rw[List.take_succ_eq_append_getElem hi,List.filter_append,List.map_append];cases h:oI P D[i]<;>simp[h]
section
variable {Z:Nat->Prop}{w0 w:af}{τ:Nat->Tag}{sb xb:Nat}{s:MS}{A:SA}{wv rv:aj}{D:List mY}{RL:List jX}{R:jX}{at_:Nat}
def NV(hR:RL[at_]?=some R):RL.set at_ R=RL:=by obtain⟨h,rfl⟩:=List.getElem?_eq_some_iff.1 hR;simp
def Gc(hR:RL[at_]?=some R)(R':jX):(RL.set at_ R')[at_]?=some R':=List.getElem?_set_self (List.getElem?_eq_some_iff.1 hR).1
def UF(hR:RL[at_]?=some R){R':jX}(e:R'.n=R.n):(RL.set at_ R').map (·.n)=RL.map (·.n):=by
 apply List.ext_getElem?;intro j;rw[List.getElem?_map,List.getElem?_map,List.getElem?_set];split
 ·rename_i e';subst e';rw[hR];have:=(List.getElem?_eq_some_iff.1 hR).1;simp[this,e]
 ·rfl
def RG{last:Bool}(hM:eG Z w0 w τ sb xb s A wv rv D RL)(hI:oq s D RL)(hR:RL[at_]?=some R)(hnew:R.left.length=R.ks.length->R.sure= [])(gW:qT a xb at_ R.rb last)
 (hQ:∀(a':Act) (w':af) (τ':Nat->Tag) (sv:aj),qT a' xb at_ R.rb last->eG Z w0 w' τ' sb xb s A wv rv D (RL.set at_ (R.dA sv (if R.left.length=R.ks.length then cK s.parts D else R.sure)))->To prog Q (b.at a' k) c w'):
 To prog Q (b.at a (.code (cA (bz 2 bW)):: k)) c w:=by
 obtain⟨pi,hpi,Zj,Zk,Zl⟩:=info_parts NU;obtain⟨tms,w8⟩:=a;obtain⟨hd,hs,t0,t1,t2,t7⟩:=gW;simp only at hd hs t0 t1 t2 t7;subst hd;obtain⟨fv,hT,aL⟩:=DK tms hs;replace t0:=aL 0 _ t0;replace t1:=aL 1 _ t1;replace t2:=aL 2 _ t2;replace t7:=aL 7 _ t7;clear hs aL;simp only[List.range,List.range.loop,List.map_cons,List.map_nil,t0,t1,t2,t7]at hT;subst hT;clear t0 t1 t2 t7;have HM:Hid (eG Z w0 w τ sb xb s A wv rv D RL):=hM;have HI:Hid (oq s D RL):=hI;have HR:Hid (RL[at_]?=some R):=hR;have HQ:Hid _:=hQ;have zF:=hI.BI;have hr:=hM.rd R (zc6 hR);have r1:=hr.blk.cell (o:=1) (v:=.slice (some ⟨R.kg,0,none⟩) R.ks.length R.kc) rfl;have r2:=hr.blk.cell (o:=2) (v:=.slice R.la R.left.length R.lc) rfl;clear hQ hM hI hR hr;refine To.BG fun K hK=>?_;dsimp only[bW,bz,cA,cB,f16,Option.getD_some];by_cases hlen:R.left.length=R.ks.length
 ·have hsr:=hnew hlen;have ZH:Hid _:=HQ.out;simp only[hlen,if_true]at ZH;have q0:((R.left.length:Int)==(R.ks.length:Int))=true:=by rw[beq_iff_eq];omega
  have HSR:Hid (R.sure= []):=hsr;clear HQ hnew hsr;go_wp2_with fail
  go_region_held3 (fun W=>W.cell? ⟨R.rb,1,none⟩=some (.slice (some ⟨R.kg,0,none⟩) R.ks.length R.kc)/\W.cell? ⟨R.rb,2,none⟩=some (.slice R.la R.left.length R.lc)) (simp[*]) (fail)
  have HM0:Hid (eG Z w0 w.drew τ sb xb s A wv rv D RL):=HM.out.drew;clear HM r1 r2;generalize w.drew=w1 at *;obtain⟨bv,cv,Si⟩:=cy HM0.out.row;subst Si;go_wp2_with fail
  go_loopw [8] (fun u wr=>∃(i:Nat) (τ':Nat->Tag) (sv:aj),i<=D.length/\u=.int .i64 i/\Hid (eG Z w0 wr τ' sb xb s A (.slice bv D.length cv) rv D (RL.set at_ (R.dA sv (cK s.parts (D.take i)))))) (fun u _=>D.length-(intOf u).toNat)
  case atStart=>
   refine⟨0,τ,R.sv,Nat.zero_le _,rfl,?_⟩;have e:RL.set at_ (R.dA R.sv (cK s.parts (D.take 0)))=RL:=by
    have:R.dA R.sv (cK s.parts (D.take 0))=R:=by unfold jX.dA cK;rw[List.take_zero,List.filter_nil,List.map_nil,<-HSR.out]
    rw[this];exact NV HR.out
   unfold Hid;rw[e];exact HM0.out
  case round=>
   obtain⟨i,τ',sv,hi,rfl,HN⟩:=hrel;have y1:=HN.out.x.cell (o:=1) (v:=.slice bv D.length cv) rfl;clear HM0;by_cases hil:i<D.length
   ·have hd:D[i]?=some D[i]:=zc4 hil;have Wh:Hid _:=DY (P:=s.parts) hd;generalize D[i]=d at *;have HD:Hid (D[i]?=some d):=hd;obtain⟨g,cap,e,hc⟩:=HN.out.at_ hd;cases e;have cw:=Ky HN.out HI.out.ws hd;unfold ptr at cw;have q1:(i:Int)< (D.length:Int):=by omega
    clear hd;go_wp2_with fail
    refine cw.mono ?_;rintro e w2 ⟨rfl,dQ⟩;clear cw y1 hc;have Sl:Hid _:=HN.out.below dQ;clear HN dQ;cases hwh:oI s.parts d with
    |false=>
     have HN3:Hid (eG Z w0 w2 τ' sb xb s A (.slice (some ⟨g,0,none⟩) D.length cv) rv D (RL.set at_ (R.dA sv (cK s.parts (D.take (i+1)))))):=by have h:=Sl.out;have e:=Wh.out;rw[hwh]at e;simp only[Bool.false_eq_true,if_false,List.append_nil]at e;unfold Hid;rw[e];exact h
     clear hwh Wh Sl;go_wp2_with fail
     go_roundw
     case rel=>exact⟨i+1,τ',sv,by omega,by go_num,HN3⟩
     case measure=>simp[intOf];omega
    |true=>
     have ZI:Hid (cK s.parts (D.take (i+1))=cK s.parts (D.take i)++ [d.k.n]):=by have e:=Wh.out;rw[hwh]at e;exact e
     clear hwh Wh;have hmem:R.dA sv (cK s.parts (D.take i))∈RL.set at_ (R.dA sv (cK s.parts (D.take i))):=zc6 (Gc HR.out _);have hr:=Sl.out.rd _ hmem;have hrow:w2.ownsRow w0.heap.size 3 1 sv (cK s.parts (D.take i)).length ((cK s.parts (D.take i)).map fun m=>.int .i64 (m:Nat)):=hr.row;have hll:(cK s.parts (D.take i)).length<=60:=by unfold cK;rw[List.length_map];exact Nat.le_trans (List.length_filter_le _ _) (by rw[zc9];omega)
     obtain⟨av,gZ,zG⟩:=cy hrow;have hrl:=hr.blk.lt;have r3:w2.cell? ⟨R.rb,3,none⟩=some sv:=hr.blk.cell (o:=3) rfl;have Wc:=Sl.out.env.below.size;have HG:Hid (∀(w4:af) (v4:aj) (nq:Nat) (o:Obj),((w2.drewN nq).alloc o).grownBy w4 sv.ownBlock->w4.ownsRow w0.heap.size 3 1 v4 ((cK s.parts (D.take i)).length+1) (((cK s.parts (D.take i)).map fun m=>.int .i64 (m:Nat))++ [.int .i64 (d.k.n:Nat)])->(v4.ownBlock=sv.ownBlock\/v4.ownBlock=some ((w2.drewN nq).alloc o).heap.size)->
      w4.cell? ⟨R.rb,3,none⟩=some sv/\w4.frozen? ⟨R.rb,3,none⟩=false/\∃aet,eG Z w0 (w4.setCell ⟨R.rb,3,none⟩ v4) aet sb xb s A (.slice (some ⟨g,0,none⟩) D.length cv) rv D (RL.set at_ (R.dA v4 (cK s.parts (D.take (i+1)))))):=fun w4 v4 nq o a1 a2 a3=>by
      have wJ:Below w2.heap.size w2 (w2.drewN nq):=⟨rfl,rfl,rfl,zc3 _,fun _ _=>rfl⟩
      have hm:=Sl.out.below wJ;have hr':=hm.rd _ hmem;have RR:∀q,sv.ownBlock=some q->τ' q=(1,26,R.n):=hr'.dw;have UL:bg w4 R.rb _ _:=hr'.blk.of_eq ((a1.block R.rb (by simp;exact Nat.lt_succ_of_lt hrl) (fun e=>by have h1:=RR R.rb e.symm;have h2:τ' R.rb=(1,25,R.n):=hr'.tag;rw[h2]at h1;simp at h1)).trans (zc2 _ _ _ hrl));obtain⟨τ4,h4,_⟩:=hm.ZF (R:=R.dA sv (cK s.parts (D.take i))) (m:=d.k.n) (Gc HR.out _) (by rw[UF HR.out (R':=R.dA sv (cK s.parts (D.take i))) rfl];exact HI.out.nd) a1 a2 (show v4.ownBlock=sv.ownBlock\/v4.ownBlock=some (w2.heap.size+1)from by simpa using a3);rw[List.set_set]at h4;refine⟨UL.cell (o:=3) rfl,UL.frozen 3,τ4,?_⟩;rw[ZI.out];exact h4
     have y1:=Sl.out.x.cell (o:=1) (v:=.slice (some ⟨g,0,none⟩) D.length cv) rfl;obtain⟨g',cap',e',hc⟩:=Sl.out.at_ HD.out;cases e';have n0:=(Sl.out.kn i d HD.out).blk.cell (o:=0) (v:=.int .i64 (d.k.n:Int)) rfl;have r3b:∀o:Obj,(w2.alloc o).cell? ⟨R.rb,3,none⟩=some sv:=fun o=>(zc5 (w:=w2) (zc2 w2 o R.rb hrl)).trans r3;clear hr hmem ZI Sl;subst zG;generalize ((cK s.parts (D.take i)).map fun m=>Value.int .i64 (m:Nat))=xs at *;generalize (cK s.parts (D.take i)).length=ln at *;go_wp2_with fail
     go_region_law (refine iD rfl (.tmp 61) (.tmp 72) 58 rfl w0.heap.size 3 pi _ 1 8 underlying58 hpi Zj Zk Zl rfl (by decide) (.slice av ln gZ) ln xs rfl (hrow.alloc _) ⟨_,0,none⟩ 1 1 [.int .i64 (d.k.n:Nat)] rfl rfl (cell_one_new _ _ _) (by simp[Value.oneCell']) (by unfold maxLen;omega) (by omega) (by simp;omega) ?_;intro v4 w4 Ku Kv YG Je;obtain⟨d4,e4,Sj⟩:=HG.out w4 v4 1 _ Kv Ku Je;obtain⟨g4,akt,We,-⟩:=cJ Ku (by omega);rw[We])
     all_goals
      rw[We]at Sj
      have ZC:Hid _:=Sj
      clear Sj We Ku Kv YG Je d4 e4 HG
      go_wp2_with fail
      go_roundw
      case rel=>
       obtain⟨τ4,h4⟩:=ZC.out
       exact⟨i+1,τ4,_,by omega,by go_num,h4⟩
      case measure=>simp[intOf];omega
   ·have hin:i=D.length:=by omega
    subst hin;go_wp2_with fail
    refine ZH.out _ _ τ' sv ⟨rfl,rfl,rfl,rfl,rfl,rfl⟩ ?_;have h:=HN.out;rw[List.take_length]at h;exact h
 ·have ZH:Hid _:=HQ.out;simp only[hlen,if_false]at ZH;have q0:((R.left.length:Int)==(R.ks.length:Int))=false:=by rw[beq_eq_false_iff_ne];omega
  clear HQ hnew hlen;go_wp2_with fail
  go_region_held3 (fun W=>W.cell? ⟨R.rb,1,none⟩=some (.slice (some ⟨R.kg,0,none⟩) R.ks.length R.kc)/\W.cell? ⟨R.rb,2,none⟩=some (.slice R.la R.left.length R.lc)) (simp[*]) (fail)
  go_wp2_with fail
  refine ZH.out _ _ τ R.sv ⟨rfl,rfl,rfl,rfl,rfl,rfl⟩ ?_;have e:RL.set at_ (R.dA R.sv R.sure)=RL:=NV HR.out;rw[e];exact HM.out.drew
end
end
section
def Wi:bz 3 bW=.seq (cA (bz 3 bW)) (.seq (cA (bz 4 bW)) (.seq (cA (bz 5 bW)) (.seq (cA (bz 6 bW)) (.seq (cA (bz 7 bW)) (.seq (cA (bz 8 bW)) (bz 9 bW)))))):=by kernel_rfl
def xe{α:Type}{l:List α}{k:Nat}{x:α}(hx:l[i]?=some x):(l.take (i+1)).eraseIdx k=if i=k then(l.take i).eraseIdx k else(l.take i).eraseIdx k++ [x]:=by
 obtain⟨hi,rfl⟩:=List.getElem?_eq_some_iff.1 hx;rw[List.take_succ_eq_append_getElem hi];have hl:(l.take i).length=i:=by rw[zc9];omega
 by_cases e:i=k
 ·subst e;rw[if_pos rfl,List.eraseIdx_append_of_length_le (by omega),hl,Nat.sub_self,show [l[i]].eraseIdx 0= []from rfl,List.append_nil,zc7 (l:=l.take i) (by omega)]
 ·rw[if_neg e];rcases Nat.lt_or_ge k i with h|h
  ·rw[List.eraseIdx_append_of_lt_length (by omega)]
  ·rw[zc7 (by simp;omega),zc7 (by omega)]
section
variable {Z:Nat->Prop}{w0 w:af}{τ:Nat->Tag}{sb xb:Nat}{s s':MS}{A:SA}{wv rv:aj}{D:List mY}{RL:List jX}{R:jX}{at_:Nat}
def aeu{last:Bool}{k:Nat}{rest:Code}(r2:w.cell? ⟨rb,2,none⟩=some (.slice la n lc))(gW:qT a xb at_ rb last)(hk:k=if last then n-1 else 0)(hn:1<=n)(hn6:n<=6)
 (hQ:∀a',qT a' xb at_ rb last->a'.tmps[10]?=some (.int .i64 k)->To prog Q (b.at a' (.code rest :: kk)) c w):To prog Q (b.at a (.code (.seq (cA (bz 3 bW)) (.seq (cA (bz 4 bW)) rest)):: kk)) c w:=by
 obtain⟨tms,w8⟩:=a;obtain⟨hd,hs,t0,t1,t2,t7⟩:=gW;simp only at hd hs t0 t1 t2 t7;subst hd;obtain⟨fv,hT,aL⟩:=DK tms hs;replace t0:=aL 0 _ t0;replace t1:=aL 1 _ t1;replace t2:=aL 2 _ t2;replace t7:=aL 7 _ t7;clear hs aL;simp only[List.range,List.range.loop,List.map_cons,List.map_nil,t0,t1,t2,t7]at hT;subst hT;clear t0 t1 t2 t7;have HQ:Hid _:=hQ;clear hQ;refine To.cj fun K hK=>?_;dsimp only[bW,bz,cA,cB,f16,Option.getD_some];go_wp2_with fail
 refine To.cj fun K hK=>?_;dsimp only[bW,bz,cA,cB,f16,Option.getD_some];cases last with
 |true=>
  simp only[if_true]at hk;have q2:IntKind.i64.wrap ((n:Int)-1)=(k:Int):=by rw[IntWalk.i64_in _ (by omega)];omega
  clear hk;go_wp2_with fail
  exact HQ.out _ ⟨rfl,rfl,rfl,rfl,rfl,rfl⟩ rfl
 |false=>
  simp only[Bool.false_eq_true,if_false]at hk;subst hk;go_wp2_with fail
  exact HQ.out _ ⟨rfl,rfl,rfl,rfl,rfl,rfl⟩ rfl
def VI{last:Bool}(hM:eG Z w0 w τ sb xb s A wv rv D RL)(hR:RL[at_]?=some R)(hnd:(RL.map (·.n)).Nodup)(gW:qT a xb at_ R.rb last){k:Nat}{x:ah}(hk:k=if last then R.left.length-1 else 0)(hx:R.left[k]?=some x)(hz:x.size<=8)(hl6:R.left.length<=6)(hn:R.n<=8796093022208)(Ki:kE s (R.n:Int) x=(0,s'))
 (hQ:∀(a':Act) (w':af) (τ':Nat->Tag) (A':SA) (la:Option aA) (lc:Nat),qT a' xb at_ R.rb last->a'.tmps[11]?=some (.int .i64 0)->a'.tmps[12]?=some (.slice la (R.left.eraseIdx k).length lc)->eG Z w0 w' τ' sb xb s' A' wv rv D (RL.set at_ (R.oF la lc (R.left.eraseIdx k)))->To prog Q (b.at a' (.code (bz 9 bW):: kk)) c w'):
 To prog Q (b.at a (.code (bz 3 bW):: kk)) c w:=by
 obtain⟨si,hsi,Wj,Wl,Wm⟩:=info_parts sM;have ot:=(List.getElem?_eq_some_iff.1 hx).1;have hr:=hM.rd R (zc6 hR);obtain⟨gl,hla,g1,g2,g3⟩:=hr.left.at_ k x hx;have x0:=hM.x.cell (o:=0) (v:=.pointer (some ⟨sb,0,none⟩)) rfl;have r0:=hr.blk.cell (o:=0) (v:=.int .i64 (R.n:Int)) rfl;have r2:=hr.blk.cell (o:=2) (v:=.slice R.la R.left.length R.lc) rfl;rw[hla]at r2;rw[Wi];refine aeu r2 gW hk (by omega) hl6 fun a gW t10=>?_;obtain⟨tms,w8⟩:=a;obtain⟨hd,hs,t0,t1,t2,t7⟩:=gW;simp only at hd hs t0 t1 t2 t7 t10;subst hd;obtain⟨fv,hT,aL⟩:=DK tms hs;replace t0:=aL 0 _ t0;replace t1:=aL 1 _ t1;replace t2:=aL 2 _ t2;replace t7:=aL 7 _ t7;replace t10:=aL 10 _ t10;clear hs aL;simp only[List.range,List.range.loop,List.map_cons,List.map_nil,t0,t1,t2,t7,t10]at hT;subst hT;clear t0 t1 t2 t7 t10;have ca:=ZJ hM.drew.rep (R.n:Int) x (by unfold maxLen;omega) (by omega) (by omega);rw[Ki]at ca;unfold ptr at ca;have HM:Hid (eG Z w0 w τ sb xb s A wv rv D RL):=hM;have HR:Hid (RL[at_]?=some R):=hR;have HND:Hid ((RL.map (·.n)).Nodup):=hnd;have HQ:Hid _:=hQ;have HLA:Hid (R.la=some ⟨gl,0,none⟩):=hla;have q1:(k:Int)< (R.left.length:Int):=by omega
 have HF:Hid (∀(we:af) (A5:SA),a9 we τ 2 sb s' A5->Stp 2 τ w.drew τ we->eG Z w0 we τ sb xb s' A5 wv rv D RL/\we.cell? ⟨xb,0,none⟩=some (.pointer (some ⟨sb,0,none⟩))/\we.cell? ⟨R.rb,0,none⟩=some (.int .i64 (R.n:Int))/\we.cell? ⟨R.rb,2,none⟩=some (.slice (some ⟨gl,0,none⟩) R.left.length R.lc)/\we.cell? ⟨gl,k,none⟩=some (.string x)):=fun we A5 h1 h2=>by have m:=HM.out.drew.step h1 h2;have hr':=m.rd R (zc6 HR.out);have e2:=hr'.blk.cell (o:=2) (v:=.slice R.la R.left.length R.lc) rfl;rw[HLA.out]at e2;obtain⟨gl',NW,_,_,g3'⟩:=hr'.left.at_ k x hx;rw[HLA.out]at NW;cases NW;exact⟨m,m.x.cell (o:=0) rfl,hr'.blk.cell (o:=0) rfl,e2,g3'⟩
 clear hQ hM hR hr hx Ki hnd hla hk;refine To.cj fun K hK=>?_;dsimp only[bW,bz,cA,cB,f16,Option.getD_some];go_region_held3 (fun W=>W.cell? ⟨xb,0,none⟩=some (.pointer (some ⟨sb,0,none⟩))/\W.cell? ⟨R.rb,0,none⟩=some (.int .i64 (R.n:Int))/\W.cell? ⟨R.rb,2,none⟩=some (.slice (some ⟨gl,0,none⟩) R.left.length R.lc)/\W.cell? ⟨gl,k,none⟩=some (.string x)) (simp[*]) ((go_at_call 22;refine ca.mono ?_;rintro e we ⟨A5,rfl,YK,hP5⟩;obtain⟨Jf,m1,m2,m3,m4⟩:=HF.out we A5 YK hP5))
 have HM5:Hid (eG Z w0 we τ sb xb s' A5 wv rv D RL):=Jf;have HL:Hid (∀(i:Nat) (y:ah),R.left[i]?=some y->we.cell? ⟨gl,i,none⟩=some (.string y)):=fun i y hy=>by obtain⟨gl',NW,_,_,g3'⟩:=(Jf.rd R (zc6 HR.out)).left.at_ i y hy;rw[HLA.out]at NW;cases NW;exact g3'
 clear Jf YK hP5 m1 m2 m4 ca HF HM x0 r0 r2 g1 g2 g3 HLA;go_wp2_with fail
 refine To.cj fun K hK=>?_;dsimp only[bW,bz,cA,cB,f16,Option.getD_some];go_wp2_with fail
 refine To.cj fun K hK=>?_;dsimp only[bW,bz,cA,cB,f16,Option.getD_some];go_wp2_with fail
 go_loopw [12,13] (fun NY u wr=>∃i:Nat,i<=R.left.length/\u=.int .i64 i/\wr.ownsRow we.heap.size 9 1 NY ((R.left.take i).eraseIdx k).length (((R.left.take i).eraseIdx k).map Value.string)/\Below we.heap.size we wr) (fun _ u _=>R.left.length-(intOf u).toNat)
 case atStart=>exact⟨0,Nat.zero_le _,rfl,by simpa using World.ownsRow_nil _ _ _ _,Below.refl _ _⟩
 case round=>
  obtain⟨i,hi,rfl,hrow,hB⟩:=hrel;have r2:=aW hB m3;obtain⟨av,gZ,hv⟩:=cy hrow;have hle:((R.left.take i).eraseIdx k).length<=6:=by have:=List.length_eraseIdx_le (R.left.take i) k;rw[zc9]at this;omega
  have hsz:=hB.size;by_cases hil:i<R.left.length
  ·have hy:R.left[i]?=some R.left[i]:=zc4 hil;have HE:Hid _:=xe (k:=k) hy;have c1:=aW hB (HL.out i _ hy);generalize R.left[i]=y at *;have q5:(i:Int)< (R.left.length:Int):=by omega
   clear hy;by_cases hik:i=k
   ·have b0:((i:Int)==(k:Int))=true:=by rw[beq_iff_eq];omega
    have HW:Hid (wr.ownsRow we.heap.size 9 1 (.slice av ((R.left.take i).eraseIdx k).length gZ) ((R.left.take (i+1)).eraseIdx k).length (((R.left.take (i+1)).eraseIdx k).map Value.string)):=by have e:=HE.out;rw[if_pos hik]at e;unfold Hid;rw[e,<-hv];exact hrow
    subst hv;clear hrow HE hik;go_wp2_with fail
    go_roundw
    case rel=>exact⟨i+1,by omega,by go_num,HW.out,hB⟩
    case measure=>simp[intOf];omega
   ·have b0:((i:Int)==(k:Int))=false:=by rw[beq_eq_false_iff_ne];omega
    have HX:Hid (∀(w2:af) (v2:aj),w2.ownsRow we.heap.size 9 1 v2 (((R.left.take i).eraseIdx k).length+1) (((R.left.take i).eraseIdx k).map Value.string++ [.string y])->w2.ownsRow we.heap.size 9 1 v2 ((R.left.take (i+1)).eraseIdx k).length (((R.left.take (i+1)).eraseIdx k).map Value.string)):=fun w2 v2 h=>by have e:=HE.out;rw[if_neg hik]at e;rw[e,List.length_append,List.map_append];exact h
    have hrw:=hrow;generalize ((R.left.take i).eraseIdx k).map Value.string=xs at *;generalize ((R.left.take i).eraseIdx k).length=nk at *;subst hv;clear HE hik;go_wp2_with (at_builtin;refine wpList_append_own_at _ rfl (.tmp 111) (.tmp 119) 38 rfl we.heap.size 9 si _ 1 16 underlying38 hsi Wj Wl Wm rfl (by decide) (.slice av nk gZ) nk xs rfl (hrow.alloc _) ⟨_,0,none⟩ 1 1 [.string y] rfl rfl (cell_one_new _ _ _) (by simp[Value.oneCell']) (by unfold maxLen;omega) (by omega) (by simp;omega) ?_;intro v2 w2 vR oG Ja hA2)
    have Zm:=HX.out w2 v2 vR;have kB:Below we.heap.size we w2:=(hB.alloc hsz _).grown oG (by simp;omega) (fun q e=>(aQ hrw q e).1);clear Ja hA2;go_wp2_with fail
    go_roundw
    case rel=>exact⟨i+1,by omega,by go_num,Zm,kB⟩
    case measure=>simp[intOf];omega
  ·have hin:i=R.left.length:=by omega
   subst hin;rw[List.take_length]at hrow hv hle;have HN:Hid (eG Z w0 wr (fresh τ we.heap.size) sb xb s' A5 wv rv D RL):=HM5.out.fresh hB;have HK:Hid (FW wr (fresh τ we.heap.size) av (R.left.eraseIdx k)):=⟨fun j y hy=>by have hj:=(List.getElem?_eq_some_iff.1 hy).1;obtain⟨g,cap,e,_,_,hc,_⟩:=cJ hrow (by omega);rw[hv]at e;cases e;obtain⟨h1,h2⟩:=aQ hrow g (by rw[hv];rfl);exact⟨g,rfl,h2,lZ h1,by rw[hc j (by omega),List.getElem?_map,hy];rfl⟩⟩
   have hr:=HN.out.rd R (zc6 HR.out);have f2:=hr.blk.frozen 2;have HF:Hid _:=HN.out.ZG (lc:=gZ) HR.out HND.out HK.out;subst hv;clear hr hrow;go_wp2_with fail
   refine To.cj fun K hK=>?_;dsimp only[bW,bz,cA,cB,f16,Option.getD_some];go_wp2_with fail
   exact HQ.out _ _ _ _ _ _ ⟨rfl,rfl,rfl,rfl,rfl,rfl⟩ rfl rfl HF.out
end
end
noncomputable def Ax:Array Oper:=opsOf (cA Dp)
def VK:Dp=.seq (.region 22 Ax true) (cB Dp):=by kernel_rfl
def DL:Ax.size=16:=by kernel_rfl
def Nh(i:Nat):List Nat:=if i<4 then List.range i else if i<8 then(List.range i).drop 4 else List.range 8
def m8:Nat->Op
 | 0=>.move (.tmp 0)
 | 1=>.nilCheck (.tmp 135)
 | 2=>.fieldAddr 32 (.tmp 136) 0
 | 3=>.load 26 (.tmp 137)
 | 4=>.move (.tmp 7)
 | 5=>.nilCheck (.tmp 139)
 | 6=>.fieldAddr 60 (.tmp 140) 0
 |_=>.load 3 (.tmp 141)
def VL:∀i,i<8->∃o,Ax[i]?=some o/\o.guard=none/\o.dst=some (135+i)/\o.op=m8 i:=by
 intro i hi;refine⟨(Ax[i]?).getD default,?_⟩;match i,hi with
 | 0,_| 1,_| 2,_| 3,_| 4,_| 5,_| 6,_| 7,_=>refine⟨?_,?_,?_,?_⟩ <;>kernel_rfl
def Ni:∃o,Ax[8]?=some o/\o.guard=none/\o.dst=some 143/\∃cl:Call,o.op=.call cl/\cl.callee=.value (.func 23)/\cl.args=#[.tmp 138,.tmp 142]:=by refine⟨(Ax[8]?).getD default,?_,?_,?_,(match ((Ax[8]?).getD default).op with|.call cl=>cl|_=>default),?_,?_,?_⟩ <;>kernel_rfl
def Nj:uo Ax 8 Nh=true:=by kernel_rfl
def RI:Region.ready .any Ax (upTo 16 8)= [8]:=by kernel_rfl
def sD(xb sb rb n:Nat)(i:Nat):aj:=if i<3 then .pointer (some ⟨xb,0,none⟩)else if i<4 then .pointer (some ⟨sb,0,none⟩)else if i<7 then .pointer (some ⟨rb,0,none⟩)else .int .i64 n
noncomputable abbrev VM(b:ak)(a:Act)(t:Nat)(k:List Item):ak:=b.at a (.inRegion Ax (8 :: Region.linearise.go .any Ax 7 t ((upTo 16 8).setIfInBounds 8 true) []):: .code (cB Dp):: k)
def RJ{last:Bool}(gW:qT a xb at_ rb last)(x0:w.cell? ⟨xb,0,none⟩=some (.pointer (some ⟨sb,0,none⟩)))(r0:w.cell? ⟨rb,0,none⟩=some (.int .i64 n))
 (h:∀(a':Act) (t:Nat),qT a' xb at_ rb last->To prog Q (Frame.enter prog 23 #[ptr sb,.int .i64 n] .normal) (VM b a' t k :: c) w.drew):To prog Q (b.at a (.code Dp :: k)) c w:=by
 rw[VK];refine .step (fun _=>step_seq) (To.drawn Nh Nj rfl (fun i=>135+i) (sD xb sb rb n) (by intro i j _ _ e;omega) (by intro i hi;rw[gW.s];omega) (by rw[DL];omega) ?_ ?_)
 ·intro i hi a' is hv ht hg;obtain⟨o,q1,q2,q3,q4⟩:=VL i hi;have x0':w.drew.cell? ⟨xb,0,none⟩=some (.pointer (some ⟨sb,0,none⟩)):=x0;have r0':w.drew.cell? ⟨rb,0,none⟩=some (.int .i64 n):=r0;have ev:∀j u,a'.tmps[j]?=some u->a'.eval (.tmp j)=u:=fun j u e=>by simp[Act.eval,Array.getD_eq_getD_getElem?,e]
  have e0:=ev 0 _ ((ht 0 (by intro j hj;omega)).trans gW.t0);have e7:=ev 7 _ ((ht 7 (by intro j hj;omega)).trans gW.t7);have hr:(execOp a'.eval o).run prog w.drew=.ok (.value (sD xb sb rb n i)) w.drew:=by
   unfold execOp;rw[q4];match i,hi with
   | 0,_=>simp only[m8,e0];go_simp;rfl
   | 1,_=>simp only[m8,ev _ _ (hv 0 (by decide))];simp only[sD];go_simp
   | 2,_=>simp only[m8,ev _ _ (hv 1 (by decide))];simp only[sD];go_simp
   | 3,_=>simp only[m8,ev _ _ (hv 2 (by decide))];simp only[sD];go_simp
   | 4,_=>simp only[m8,e7];go_simp;rfl
   | 5,_=>simp only[m8,ev _ _ (hv 4 (by decide))];simp only[sD];go_simp
   | 6,_=>simp only[m8,ev _ _ (hv 5 (by decide))];simp only[sD];go_simp
   | 7,_=>simp only[m8,ev _ _ (hv 6 (by decide))];simp only[sD];go_simp
  refine To.op q1 (cU q2 _) hr ?_;rw[q3];exact hg
 ·intro a' t hv ht hd hz;rw[DL,Gd RI];obtain⟨o,r1,r2,r3,cl,r4,r5,r6⟩:=Ni;refine To.call r1 r2 r4 r5 func23 (by kernel_rfl) rfl ?_ (h a' t ⟨hd.trans gW.d,hz.trans gW.s,(ht 0 (by intro j hj;omega)).trans gW.t0,(ht 1 (by intro j hj;omega)).trans gW.t1,(ht 2 (by intro j hj;omega)).trans gW.t2,(ht 7 (by intro j hj;omega)).trans gW.t7⟩);have e3:=hv 3 (by decide);have e7:=hv 7 (by decide);rw[r6];simp only[Nat.reduceAdd]at e3 e7;simp[Act.eval,Array.getD_eq_getD_getElem?,e3,e7,sD,ptr]
section
def VG:bz 9 bW=.seq (cA (bz 9 bW)) Dp:=by kernel_rfl
def ql(RL:List jX):Nat:=(RL.map fun R=>R.left.length).sum
def Ng{R:jX}:∀{at_:Nat} (_:RL[at_]?=some R) (R':jX),ql (RL.set at_ R')+R.left.length=ql RL+R'.left.length:=by
 induction RL with
 |nil=>intro at_ h;simp at h
 |cons x l ih=>
  intro at_ h R';unfold ql at ih⊢;cases at_ with
  |zero=>
   simp only[List.getElem?_cons_zero,Option.some.injEq]at h;subst h;simp only[List.set_cons_zero,List.map_cons,List.sum_cons];omega
  |succ i=>
   simp only[List.getElem?_cons_succ]at h;have:=ih h R';simp only[List.set_cons_succ,List.map_cons,List.sum_cons];omega
def Gb{R:jX}:∀{at_:Nat} (_:RL[at_]?=some R),ql (RL.eraseIdx at_)+R.left.length=ql RL:=by
 induction RL with
 |nil=>intro at_ h;simp at h
 |cons x l ih=>
  intro at_ h;unfold ql at ih⊢;cases at_ with
  |zero=>
   simp only[List.getElem?_cons_zero,Option.some.injEq]at h;subst h;simp only[List.eraseIdx_cons_zero,List.map_cons,List.sum_cons];omega
  |succ i=>
   simp only[List.getElem?_cons_succ]at h;have:=ih h;simp only[List.eraseIdx_cons_succ,List.map_cons,List.sum_cons];omega
def RE(Z:Nat->Prop)(w0:af)(sb xb m n:Nat)(w:af):Prop:=∃τ s A wv rv D RL,eG Z w0 w τ sb xb s A wv rv D RL/\oq s D RL/\s.rs.length<=m/\(∀R∈RL,R.left≠ [])/\ql RL<n
section
variable {Z:Nat->Prop}{w0 w:af}{τ:Nat->Tag}{sb xb:Nat}{s:MS}{A:SA}{wv rv:aj}{D:List mY}{RL:List jX}{R:jX}{r:MR}{at_:Nat}
def VH{last:Bool}(hb:b.fn=16)(hk:b.kind=.normal)(gW:qT a xb at_ rb last)(t11:a.tmps[11]?=some (.int .i64 0))(t12:a.tmps[12]?=some (.slice la n lc))
 (Dq:n≠0->∀fr:ak,(∀u,fr.leaving prog u (.returned (.bool true)))->To prog Q fr c w) (rY:n=0->∀a',qT a' xb at_ rb last->To prog Q (b.at a' [.code Dp]) c w):To prog Q (b.at a [.code (bz 9 bW)]) c w:=by
 obtain⟨tms,w8⟩:=a;obtain⟨hd,hs,t0,t1,t2,t7⟩:=gW;simp only at hd hs t0 t1 t2 t7 t11 t12;subst hd;obtain⟨fv,hT,aL⟩:=DK tms hs;replace t0:=aL 0 _ t0;replace t1:=aL 1 _ t1;replace t2:=aL 2 _ t2;replace t7:=aL 7 _ t7;replace t11:=aL 11 _ t11;replace t12:=aL 12 _ t12;clear hs aL;simp only[List.range,List.range.loop,List.map_cons,List.map_nil,t0,t1,t2,t7,t11,t12]at hT;subst hT;clear t0 t1 t2 t7 t11 t12;have HQ1:Hid _:=Dq;have HQ2:Hid _:=rY;clear Dq rY;by_cases h0:n=0
 ·subst h0;rw[VG];refine To.cj fun K hK=>?_;dsimp only[bW,bz,cA,cB,f16,Option.getD_some];go_wp2_with fail
  exact HQ2.out (by trivial) _ ⟨rfl,rfl,rfl,rfl,rfl,rfl⟩
 ·have q0:(0:Int)< (n:Int):=by omega
  refine To.last (R:=fun a' w'=>w'=w/\a'.defers= []/\a'.tmps.getD 6 undef=.bool true) ?_ rfl ?_
  ·dsimp only[bW,bz,cA,cB,f16,Option.getD_some];go_wp2_with fail
  ·rintro a' todo w' ⟨rfl,e0,q8⟩;refine HQ1.out h0 _ fun u=>⟨rfl,e0,hk,f16,by show prog.funcs[b.fn]?=_;rw[hb];exact func16,?_⟩
   rw[<-q8];exact results_tmp rfl _ _ _
def RF(last:Bool)(hM:eG Z w0 w τ sb xb s A wv rv D RL)(hI:oq s D RL)(hR:RL[at_]?=some R)(hO:zE s D R r)(hne:∀R∈RL,R.left≠ [])(hrs:s.rs.length<=8796093022208)
 (Dq:∀(fr:ak) (w':af),(∀u,fr.leaving prog u (.returned (.bool true)))->RE Z w0 sb xb s.rs.length (ql RL) w'->To prog Q fr c w')
 (rY:∀(b:ak) (a:Act) (w':af) (τ':Nat->Tag) (A':SA) (s':MS) (R':jX) (r':MR),b.fn=16->b.kind=.normal->qT a xb at_ R'.rb last->eG Z w0 w' τ' sb xb s' A' wv rv D (RL.set at_ R')->oq s' D (RL.set at_ R')->zE s' D R' r'->R'.left= []->s'.rs.length=s.rs.length->To prog Q (b.at a [.code Dp]) c w'):
 To prog Q (Frame.enter prog 16 #[ptr xb,.int .i64 at_,.bool last] .normal) c w:=by
 have hRm:=zc6 hR;have hat:=(List.getElem?_eq_some_iff.1 hR).1;obtain⟨k1,k2,k3,k4,-,-⟩:=hO.I5.ok;have UE:1<=R.left.length:=zc8.2 (hne R hRm);have hl6:R.left.length<=6:=Nat.le_trans hO.left.length_le k4;have hRn:R.n<=8796093022208:=by have:=(List.getElem?_eq_some_iff.1 hO.at_).1;omega
 obtain⟨k,hk⟩:∃k,k=if last then R.left.length-1 else 0:=⟨_,rfl⟩
 have ot:k<R.left.length:=by rw[hk];split<;>omega
 have hx:R.left[k]?=some R.left[k]:=zc4 ot;have hxz:R.left[k].size<=8:=(cZ (k2 _ (hO.left.subset (zc6 hx)))).2;generalize R.left[k]=x at hx hxz;obtain⟨g,cap,FU,hc⟩:=hM.atR hR;have y2:=hM.x.cell (o:=2) (v:=rv) rfl;rw[FU]at y2;have q0:(at_:Int)< (RL.length:Int):=by omega
 have HM:Hid (eG Z w0 w τ sb xb s A wv rv D RL):=hM;have HI:Hid (oq s D RL):=hI;have HR:Hid (RL[at_]?=some R):=hR;have HO:Hid (zE s D R r):=hO;have I6:Hid (∀R∈RL,R.left≠ []):=hne;have HQ1:Hid _:=Dq;have HQ2:Hid _:=rY;have HX:Hid (R.left[k]?=some x):=hx;have HK:Hid _:=hk;clear hM hI hR hO hne Dq rY hx hk k1 k2 k3 k4 hRm;unfold ptr;rw[enter_at (body:=bW) func16 rfl,Kh];walk_nrmf ntmps16;refine To.cj fun K hK=>?_;dsimp only[bW,bz,cA,cB,f16,Option.getD_some];go_wp2_with fail
 refine To.cj fun K hK=>?_;dsimp only[bW,bz,cA,cB,f16,Option.getD_some];go_wp2_with fail
 refine .step (fun _=>step_seq) (RG (last:=last) HM.out HI.out HR.out HO.out.new ⟨rfl,rfl,rfl,rfl,rfl,rfl⟩ fun a' w' τ' sv gW sw=>?_);obtain⟨Ki,uk⟩:=HO.out.ask HI.out.ws HX.out (sure:=if R.left.length=R.ks.length then cK s.parts D else R.sure) rfl none 0 sv;refine VI (R:=R.dA sv (if R.left.length=R.ks.length then cK s.parts D else R.sure)) sw (Gc HR.out _) (by rw[UF HR.out (R':=R.dA sv _) rfl];exact HI.out.nd) gW HK.out HX.out hxz hl6 hRn Ki fun a2 w2 τ2 A2 la lc VJ t11 t12 sC=>?_;rw[List.set_set]at sC;have vR:=(HO.out.ask HI.out.ws HX.out (sure:=if R.left.length=R.ks.length then cK s.parts D else R.sure) rfl la lc sv).2;have hI2:=HI.out.asked (R':=(R.dA sv (if R.left.length=R.ks.length then cK s.parts D else R.sure)).oF la lc (R.left.eraseIdx k)) HR.out HO.out (r':=w9 s r (bH R.ks x) x) HO.out.fin rfl vR;refine VH rfl rfl VJ t11 t12 (fun h0 fr hl=>HQ1.out fr w2 hl ⟨_,_,_,_,_,_,_,sC,hI2,by simp,fun R0 RH=>?_,?_⟩) (fun h0 a3 ad6=>HQ2.out _ a3 w2 τ2 A2 _ ((R.dA sv (if R.left.length=R.ks.length then cK s.parts D else R.sure)).oF la lc (R.left.eraseIdx k)) (w9 s r (bH R.ks x) x) rfl rfl ad6 sC hI2 vR (List.length_eq_zero_iff.1 h0) (by simp))
 ·rcases um HR.out HI.out.nd RH with rfl|⟨h1,_⟩
  ·exact fun e=>h0 (by show (R.left.eraseIdx k).length=0;exact List.length_eq_zero_iff.2 e)
  ·exact I6.out R0 h1
 ·refine Nat.lt_of_add_lt_add_right (n:=R.left.length) ?_;rw[Ng HR.out];refine Nat.add_lt_add_left ?_ _;show (R.left.eraseIdx k).length<_;rw[List.length_eraseIdx_of_lt ot];omega
end
end
section
def lY(n:Nat)(w:af):af:={w with heap:=w.heap.extract 0 n}
section
variable {Z Z':Nat->Prop}{w0 w w' v W:af}{τ τ':Nat->Tag}{sb xb n:Nat}{s s':MS}{A A':SA}{wv rv:aj}{D:List mY}{RL:List jX}{R:jX}{r:MR}
def qU(h:n<=w.heap.size):(lY n w).heap.size=n:=by show (w.heap.extract 0 n).size=n;rw[Array.size_extract];omega
def sE{k:Nat}(h:k<n):(lY n w).heap[k]?=w.heap[k]? :=by show (w.heap.extract 0 n)[k]?=_;rw[Array.getElem?_extract];simp;omega
def eG.move(h:eG Z w0 w τ sb xb s A wv rv D RL)(hR:a9 w' τ' 2 sb s' A')(hz:w.heap.size<=w'.heap.size)(hs:sF (fun t=>t.1≠2/\t≠(0,1,0)) τ τ' w w')(hZ:∀k,Z' k->k<w'.heap.size/\τ' k=(0,1,0)):eG Z' (lY w0.heap.size w') w' τ' sb xb s' A' wv rv D RL:=by
 have n:∀{q:Nat} {t:Tag},q<w.heap.size->τ q=t->t.1≠2/\t≠(0,1,0)->w'.heap[q]?=w.heap[q]? /\τ' q=t:=fun h1 h2 h3=>by obtain⟨e1,e2⟩:=hs _ h1 (by rw[h2];exact h3);exact⟨e1,e2.trans h2⟩
 have h0:=h.env.below.size;have eb:(lY w0.heap.size w').heap.size=w0.heap.size:=qU (by omega);refine⟨hR,⟨⟨rfl,rfl,rfl,by omega,fun k hk=>(sE (by omega)).symm⟩,fun k hk=>(n (by omega) (h.env.lm k (by omega)) (by decide)).2⟩,hZ,h.x.of_eq (n h.x.lt h.iO (by decide)).1,(n h.x.lt h.iO (by decide)).2,?_,fun q hq=>(n (aQ h.row q hq).2 (h.dw q hq) (by decide)).2,?_,fun q hq=>(n (aQ h.lJ q hq).2 (h.gB q hq) (by decide)).2,fun i d hd=>(h.kn i d hd).same hs (by decide) (by simp),fun R hR=>?_⟩
 ·rw[eb];exact aH h.row fun q hq=>(n (aQ h.row q hq).2 (h.dw q hq) (by decide)).1
 ·rw[eb];exact aH h.lJ fun q hq=>(n (aQ h.lJ q hq).2 (h.gB q hq) (by decide)).1
 ·obtain⟨a1,a2,a3,a4,a5,a6,a7⟩:=(h.rd R hR).same hs (by decide) (by simp) (by simp);exact⟨a1,a2,a3,a4,by rw[eb];exact a5,a6,a7⟩
def eG.lone(h:eG Z w0 v τ sb xb s A wv rv D RL)(e:w.heap=v.heap):eG Z (lY w0.heap.size w) w τ sb xb s A wv rv D RL:=
 h.move (h.rep.frame fun k _ _=>⟨by rw[e],rfl⟩) (by rw[e];exact zc3 _) (fun q _ _=>⟨by rw[e],rfl⟩) fun k hk=>by rw[e];exact h.zs k hk
def eG.phase(h:eG Z w0 v τ sb xb s A wv rv D RL)(hF:Nk v τ 2 sb s A i r Z ab wg W)(hw:cx (fun k=>Z k\/k=wg) w W):
 ∃τ',eG (fun k=>Z k\/k=wg) (lY w0.heap.size w) w τ' sb xb (nW s i r) A wv rv D RL/\τ' ab=(0,0,0)/\ab<w.heap.size/\w.heap[ab]?=W.heap[ab]? :=by
 obtain⟨h1,h2,h3⟩:=hF.abo;have hz:=hw.size;have hnz:∀{q:Nat},v.heap.size<=q->¬Z q:=fun{q} hq hk=>by have:=(h.zs q hk).1;omega
 have ht:∀{q:Nat},q<v.heap.size->(if q=wg then((0,1,0):Tag)else Go.Proofs.YteoahlieielcdaaGreat.fresh τ ab q)=τ q:=fun{q} hq=>by rw[if_neg (by omega),sG (by omega)]
 refine⟨fun q=>if q=wg then(0,1,0)else Go.Proofs.YteoahlieielcdaaGreat.fresh τ ab q,h.move (hF.rep.frame fun q _ e=>?_) (by omega) (fun q hq hg=>?_) fun k hk=>?_,?_,by omega,hw.same ab fun e=>e.elim (hnz h1) (by omega)⟩
 ·have hq:q<ab:=by
   rcases Nat.lt_or_ge q ab with e'|e'
   ·exact e'
   ·rw[lZ e']at e;cases e
  refine⟨hw.same q fun e'=>?_,if_neg (by omega)⟩;rcases e' with e'|e'
  ·have fA:=h.zs q e';rw[sG hq,fA.2]at e;cases e
  ·omega
 ·have BJ:¬Z q:=fun e=>hg.2 (h.zs q e).2;exact⟨(hw.same q fun e=>e.elim BJ (by omega)).trans (hF.keep q hq hg.1 BJ),ht hq⟩
 ·rcases hk with hk|rfl
  ·have:=h.zs k hk;exact⟨by omega,(ht this.1).trans this.2⟩
  ·exact⟨by omega,if_pos rfl⟩
 ·show (if ab=wg then _ else _)=_;rw[if_neg (by omega),lZ (zc3 _)]
def eG.ad8(h:eG Z w0 w τ sb xb s A wv rv D RL)(hN:eG Z w0 (w.setCell ⟨xb,2,none⟩ v2) τ' sb xb s A wv v2 D RX)(hI:oq s D RX)(hR:R∈RL)(hks:BH R.ks)(hsu:∀m∈R.sure,m<=1000)(hfs:R.sure.length<=1000){iP:Nat}(hab:τ ab=(0,0,0))(hwn:∀(j:Nat) (x:ah),R.ks[j]?=some x->wn j<=1000)(ha:∀(j:Nat) (x:ah),R.ks[j]?=some x->Ge ab j x (wn j) (vl j) w):
 ∃a xa sa DN,Kj (w.setCell ⟨xb,2,none⟩ v2) xb R.rb xa a (D.map (·.k)) ⟨R.ks,R.kg,R.kc,R.sure,sa,DN,ab,iP,wn,vl⟩:=by
 have hne:∀{q:Nat},τ q≠(1,21,0)->(w.setCell ⟨xb,2,none⟩ v2).heap[q]?=w.heap[q]? :=fun{q} hq=>Below.heap_setCell _ _ _ _ fun e=>hq (by have e':q=xb:=e;rw[e',h.iO])
 have hc:∀{q o:Nat} {u:aj},τ q≠(1,21,0)->w.cell? ⟨q,o,none⟩=some u->(w.setCell ⟨xb,2,none⟩ v2).cell? ⟨q,o,none⟩=some u:=fun{q o u} hq e=>(zc5 (w:=w) (a:=⟨q,o,none⟩) (hne hq)).trans e;have hr:=h.rd R hR;have h6:=hks.ok;obtain⟨a,xa,e,hk⟩:=hN.VN hI;obtain⟨sa,DN,es⟩:=cy hr.row;refine⟨a,xa,sa,DN,⟨?_,?_,hc (by rw[hr.tag];simp) (hr.blk.cell (o:=1) rfl),hc (by rw[hr.tag];simp) (es▸hr.blk.cell (o:=3) (v:=R.sv) rfl),fun j x hx=>?_,fun j m hm=>⟨hsu m (zc6 hm),?_⟩,fun j x hx=>?_,by have:=h6.2.2.2.1;show R.ks.length<=8;omega,hfs⟩⟩
 ·rw[List.length_map];exact e▸hN.x.cell (o:=1) (v:=wv) rfl
 ·exact hk
 ·obtain⟨g,e1,_,g2,g3⟩:=hr.keys.at_ j x hx;cases e1;exact⟨hc (by rw[g2];simp) g3,by have:=(cZ (h6.2.1 x (zc6 hx))).2;omega⟩
 ·have hj:j<R.sure.length:=(List.getElem?_eq_some_iff.1 hm).1;obtain⟨g,cap,e1,_,_,g3,_⟩:=cJ hr.row (by omega);rw[es]at e1;cases e1;refine⟨g,rfl,hc (by rw[hr.dw g (by rw[es];rfl)];simp) ?_⟩;rw[g3 j (by omega),List.getElem?_map,show R.sure[j]?=some m from hm];rfl
 ·obtain⟨a1,a2,a3⟩:=ha j x hx;exact⟨hwn j x hx,hc (by rw[hab];simp) a1,hc (by rw[hab];simp) a2,hc (by rw[hab];simp) a3⟩
end
end
def I7:Nat->Nat
 | 0=>134
 | 1=>144
 | 2=>145
 | 3=>146
 |i+4=>14+i
def Nl:Nat->Op
 | 0=>.move (.tmp 143)
 | 1=>.extract (.tmp 134) 0
 | 2=>.extract (.tmp 134) 1
 | 3=>.extract (.tmp 134) 2
 |i+4=>.assign (.tmp (144+i))
def Nm:∀i,i<7->∃o,Ax[9+i]?=some o/\o.guard=none/\o.dst=some (I7 i)/\o.op=Nl i:=by
 intro i hi;refine⟨(Ax[9+i]?).getD default,?_⟩;match i,hi with
 | 0,_| 1,_| 2,_| 3,_| 4,_| 5,_| 6,_=>refine⟨?_,?_,?_,?_⟩ <;>kernel_rfl
def VO:∀i,i<7->(Region.noSelect Ax && Region.free .any Ax (upTo 16 (9+i)) (9+i)&&(Region.ready .any Ax (upTo 16 (9+i))).contains (9+i))=true/\(upTo 16 (9+i)).setIfInBounds (9+i) true=upTo 16 (10+i):=by
 intro i hi;match i,hi with
 | 0,_| 1,_| 2,_| 3,_| 4,_| 5,_| 6,_=>exact⟨by kernel_rfl,by kernel_rfl⟩
def RK:Region.ready .any Ax (upTo 16 16)= []:=by kernel_rfl
def Nn:(upTo 16 8).setIfInBounds 8 true=upTo 16 9:=by kernel_rfl
def xd{K:Act->af->Prop}{fuel:Nat}(i:Nat)(hi:i<7)(hr:∀(o:Oper) (W:af),o.op=Nl i->(execOp a.eval o).run prog W=.ok (.value v) W)(h:wpAnyH prog .any Ax (Exit.then K fun _ _ _=>False) (fun _=>True) fuel (upTo 16 (10+i)) (a.put (some (I7 i)) v) w):wpAnyH prog .any Ax (Exit.then K fun _ _ _=>False) (fun _=>True) (fuel+1) (upTo 16 (9+i)) a w:=by obtain⟨o,p1,p2,p3,p4⟩:=Nm i hi;obtain⟨h1,h2⟩:=VO i hi;refine VP p1 (fun W _=>hr o W p4) h1 (fun _ _ _ h=>h) (cU p2 _) trivial ?_;rw[p3,h2];exact h
def qV(h:j<a.tmps.size):(a.put (some j) v).eval (.tmp j)=v:=by simp[Act.eval,Act.put,Array.getD_eq_getD_getElem?,h]
def sH(h:i≠j):(a.put (some i) v).eval (.tmp j)=a.eval (.tmp j):=by simp[Act.eval,Act.put,Array.getD_eq_getD_getElem?,h]
def kA:(a.put (some j) v).tmps.size=a.tmps.size:=by simp[Act.put]
def VQ:(a.put (some j) v).defers=a.defers:=rfl
def I8(h:i≠j):(a.put (some i) v).tmps[j]?=a.tmps[j]? :=by simp[Act.put,h]
def VR(h:j<a.tmps.size):(a.put (some j) v).tmps[j]?=some v:=by simp[Act.put,h]
def RN{t:Nat}{last:Bool}{v0 v1:aj}(gW:qT a xb at_ rb last)
 (h:∀a':Act,qT a' xb at_ rb last->a'.tmps[14]?=some v0->a'.tmps[15]?=some v1->a'.tmps[16]?=some v2->To prog Q (b.at a' (.code (cB Dp):: k)) c w):To prog Q ((VM b a t k).finish (.tuple #[v0,v1,v2])) c w:=by
 have hz:=gW.s;have key:∀K:Act->af->Prop,(∀a w,To prog Q (b.at a (.code (cB Dp):: k)) c w->K a w)->wpAnyH prog .any Ax (Exit.then K fun _ _ _=>False) (fun _=>True) 7 (upTo 16 9) (a.put (some 143) (.tuple #[v0,v1,v2])) w:=fun K hK=>by
  refine xd (v:=.tuple #[v0,v1,v2]) 0 (by decide) (fun o W e=>?_) (xd (v:=v0) 1 (by decide) (fun o W e=>?_) (xd (v:=v1) 2 (by decide) (fun o W e=>?_) (xd (v:=v2) 3 (by decide) (fun o W e=>?_) (xd (v:=v0) 4 (by decide) (fun o W e=>?_) (xd (v:=v1) 5 (by decide) (fun o W e=>?_) (xd (v:=v2) 6 (by decide) (fun o W e=>?_) ?_))))));any_goals
   unfold execOp
   rw[e]
   simp only[Nl,I7,Nat.reduceAdd]
   simp only[sH,qV,kA,hz,ne_eq,Nat.reduceEqDiff,not_false_eq_true,Nat.reduceLT]
   go_simp
  refine⟨RK,?_⟩;simp only[I7,Nat.reduceAdd];refine hK _ _ (h _ ⟨?_,?_,?_,?_,?_,?_⟩ ?_ ?_ ?_)
  ·simp only[VQ];exact gW.d
  ·simp only[kA];exact hz
  all_goals simp only[I8,VR,kA,hz,gW.t0,gW.t1,gW.t2,gW.t7,ne_eq,Nat.reduceEqDiff,not_false_eq_true,Nat.reduceLT]
 obtain⟨o8,r1,-,r3,-⟩:=Ni;rw[dc r1,r3,Nn];exact To.Ay fun K hK=>wpAny_sound 7 t _ _ _ (wpAny_of_held (S:=fun _=>True) _ _ _ _ (key K hK))
section
def RO:cB Dp=.seq (cA (cB Dp)) (.seq (cA (bz 1 (cB Dp))) (bz 2 (cB Dp))):=by kernel_rfl
section
variable {Z:Nat->Prop}{w0 w:af}{τ:Nat->Tag}{sb xb:Nat}{s:MS}{A:SA}{wv rv:aj}{D:List mY}{RL:List jX}{R:jX}{at_:Nat}
def RP{last:Bool}{ask:Nat}(hb:b.fn=16)(hk:b.kind=.normal)(hM:eG Z w0 w τ sb xb s A wv rv D RL)(hI:oq s D (RL.eraseIdx at_))(hR:RL[at_]?=some R)(hne:∀R∈RL.eraseIdx at_,R.left≠ [])(aj8:RL.length<=20)(hks:BH R.ks)(hsu:∀m∈R.sure,m<=1000)(hfs:R.sure.length<=1000)(hab:τ ab=(0,0,0))(DO:ab<w.heap.size)
 (hwn:∀(j:Nat) (x:ah),R.ks[j]?=some x->wn j<=1000) (ha:∀(j:Nat) (x:ah),R.ks[j]?=some x->Ge ab j x (wn j) (vl j) w) (hok:RB (D.map (·.k)) R.ks R.sure wn vl) (Ki:ask<=R.ks.length) (gW:qT a xb at_ R.rb last) (t14:a.tmps[14]?=some (.slice (some ⟨ab,0,none⟩) R.ks.length R.ks.length)) (t15:a.tmps[15]?=some (.int .i64 ask)) (t16:a.tmps[16]?=some (.int .i64 0))
 {n:Nat} (hln:ql (RL.eraseIdx at_)<n)
 (hQ:∀(fr:ak) (w':af),(∀u,fr.leaving prog u (.returned (.bool true)))->RE Z w0 sb xb s.rs.length n w'->To prog Q fr c w'):
 To prog Q (b.at a [.code (cB Dp)]) c w:=by
 obtain⟨pi,hpi,Zj,Zk,Zl⟩:=info_parts I9;have hat:=(List.getElem?_eq_some_iff.1 hR).1;have h6:=hks.ok.2.2.2.1;obtain⟨tms,w8⟩:=a;obtain⟨hd,hs,t0,t1,t2,t7⟩:=gW;simp only at hd hs t0 t1 t2 t7 t14 t15 t16;subst hd;obtain⟨fv,hT,aL⟩:=DK tms hs;replace t0:=aL 0 _ t0;replace t1:=aL 1 _ t1;replace t2:=aL 2 _ t2;replace t7:=aL 7 _ t7;replace t14:=aL 14 _ t14;replace t15:=aL 15 _ t15;replace t16:=aL 16 _ t16;clear hs aL;simp only[List.range,List.range.loop,List.map_cons,List.map_nil,t0,t1,t2,t7,t14,t15,t16]at hT;subst hT;clear t0 t1 t2 t7 t14 t15 t16;have HM:Hid (eG Z w0 w τ sb xb s A wv rv D RL):=hM;have HR:Hid (RL[at_]?=some R):=hR;obtain⟨gr,cr,FU,-⟩:=hM.atR hR;have x2:=hM.x.cell (o:=2) (v:=rv) rfl;rw[FU]at x2;have HL:Hid (∀(i:Nat) (R0:jX),RL[i]?=some R0->w.cell? ⟨gr,i,none⟩=some (.pointer (some ⟨R0.rb,0,none⟩))):=fun i R0 h0=>by obtain⟨g',c',e',h'⟩:=HM.out.atR h0;rw[FU]at e';cases e';exact h'
 have HE:Hid (∀(wr:af) (v2:aj),Below w.heap.size w wr->wr.ownsRow w.heap.size 57 1 v2 (RL.eraseIdx at_).length ((RL.eraseIdx at_).map fun R=>ptr R.rb)->(∃τ',eG Z w0 (wr.setCell ⟨xb,2,none⟩ v2) τ' sb xb s A wv v2 D (RL.eraseIdx at_))/\wr.frozen? ⟨xb,2,none⟩=false/\
  Calls prog 24 #[ptr xb,ptr R.rb,.slice (some ⟨ab,0,none⟩) R.ks.length R.ks.length] (wr.setCell ⟨xb,2,none⟩ v2) fun e w'=>e=.returned (.bool true)/\Below (wr.setCell ⟨xb,2,none⟩ v2).heap.size (wr.setCell ⟨xb,2,none⟩ v2) w'):=fun wr v2 hB hO=>by
  have m:=HM.out.fresh hB;have h0:=HM.out.env.below.size;obtain⟨τ2,m2⟩:=m.VS (RQ:=RL.eraseIdx at_) (v2:=v2) (fun R0 h0=>zdb h0) (sI hO h0) (fun q hq=>by
   obtain⟨q1,q2⟩:=aQ hO q hq;refine⟨lZ q1,fun hz=>?_,by omega,fun i d hd e=>?_,fun R0 h0=>⟨fun e=>?_,fun e=>?_⟩⟩
   ·have:=(HM.out.zs q hz).1;omega
   ·have hk:=(hI.ws.w i d hd).2.2.2.ok;obtain⟨g,e1,g1,_⟩:=(HM.out.kn i d hd).keys.at_ 0 _ (zc4 (by omega));cases e1;omega
   ·obtain⟨r0,BK⟩:=hI.rd R0 h0;have hk:=BK.I5.ok;obtain⟨g,e1,g1,_⟩:=(HM.out.rd R0 (zdb h0)).keys.at_ 0 _ (zc4 (by omega));cases e1;omega
   ·have hl:=zc8.2 (hne R0 h0);obtain⟨g,e1,g1,_⟩:=(HM.out.rd R0 (zdb h0)).left.at_ 0 _ (zc4 hl);rw[e]at e1;cases e1;omega)
  obtain⟨a',xa,sa,DN,RR⟩:=m.ad8 (iP:=R.ks.length) m2 hI (zc6 hR) hks hsu hfs (by rw[sG DO];exact hab) hwn (fun j x hx=>by obtain⟨a1,a2,a3⟩:=ha j x hx;exact⟨aW hB a1,aW hB a2,aW hB a3⟩)
  have cr:=Kk RR hok;exact⟨⟨τ2,m2⟩,m.x.frozen 2,cr⟩
 have HI:Hid (oq s D (RL.eraseIdx at_)):=hI;have I6:Hid (∀R∈RL.eraseIdx at_,R.left≠ []):=hne;have HQ:Hid _:=hQ;have HRK:Hid (∀(wr:af) (v2:aj),Below w.heap.size w wr->(wr.setCell ⟨xb,2,none⟩ v2).cell? ⟨R.rb,1,none⟩=some (.slice (some ⟨R.kg,0,none⟩) R.ks.length R.kc)):=fun wr v2 hB=>by have hr:=HM.out.rd R (zc6 hR);refine(zc5 (w:=wr) (a:=⟨R.rb,1,none⟩) (Below.heap_setCell _ _ _ _ fun e=>?_)).trans (aW hB (hr.blk.cell (o:=1) rfl));have e':R.rb=xb:=e;have h1:=hr.tag;rw[e',HM.out.iO]at h1;cases h1
 clear hM hI hR hne hks hsu hfs hab DO hwn ha hok hQ;rw[RO];refine To.cj fun K hK=>?_;dsimp only[Dp,bW,bz,cA,cB,f16,Option.getD_some];go_wp2_with fail
 refine To.cj fun K hK=>?_;dsimp only[Dp,bW,bz,cA,cB,f16,Option.getD_some];go_wp2_with fail
 go_loopw [17,18] (fun VT u wr=>∃i:Nat,i<=RL.length/\u=.int .i64 i/\wr.ownsRow w.heap.size 57 1 VT ((RL.take i).eraseIdx at_).length (((RL.take i).eraseIdx at_).map fun R=>ptr R.rb)/\Below w.heap.size w wr) (fun _ u _=>RL.length-(intOf u).toNat)
 case atStart=>exact⟨0,Nat.zero_le _,rfl,by simpa using World.ownsRow_nil _ _ _ _,Below.refl _ _⟩
 case round=>
  obtain⟨i,hi,rfl,hrow,hB⟩:=hrel;have r2:=aW hB x2;obtain⟨av,gZ,hv⟩:=cy hrow;have hle:((RL.take i).eraseIdx at_).length<=20:=by have:=List.length_eraseIdx_le (RL.take i) at_;rw[zc9]at this;omega
  have hsz:=hB.size;by_cases hil:i<RL.length
  ·have hy:RL[i]?=some RL[i]:=zc4 hil;have HS:Hid _:=xe (k:=at_) hy;have c1:=aW hB (HL.out i _ hy);generalize RL[i]=y at *;have q5:(i:Int)< (RL.length:Int):=by omega
   clear hy;by_cases hik:i=at_
   ·have b0:((i:Int)==(at_:Int))=true:=by rw[beq_iff_eq];omega
    have HW:Hid (wr.ownsRow w.heap.size 57 1 (.slice av ((RL.take i).eraseIdx at_).length gZ) ((RL.take (i+1)).eraseIdx at_).length (((RL.take (i+1)).eraseIdx at_).map fun R=>ptr R.rb)):=by have e:=HS.out;rw[if_pos hik]at e;unfold Hid;rw[e,<-hv];exact hrow
    subst hv;clear hrow HS hik;go_wp2_with fail
    go_roundw
    case rel=>exact⟨i+1,by omega,by go_num,HW.out,hB⟩
    case measure=>simp[intOf];omega
   ·have b0:((i:Int)==(at_:Int))=false:=by rw[beq_eq_false_iff_ne];omega
    have HX:Hid (∀(w2:af) (v2:aj),w2.ownsRow w.heap.size 57 1 v2 (((RL.take i).eraseIdx at_).length+1) (((RL.take i).eraseIdx at_).map (fun R=>ptr R.rb)++ [.pointer (some ⟨y.rb,0,none⟩)])->w2.ownsRow w.heap.size 57 1 v2 ((RL.take (i+1)).eraseIdx at_).length (((RL.take (i+1)).eraseIdx at_).map fun R=>ptr R.rb)):=fun w2 v2 h=>by have e:=HS.out;rw[if_neg hik]at e;rw[e,List.length_append,List.map_append];exact h
    have hrw:=hrow;generalize ((RL.take i).eraseIdx at_).map (fun R=>ptr R.rb)=xs at *;generalize ((RL.take i).eraseIdx at_).length=nk at *;subst hv;clear HS hik;go_wp2_with (at_builtin;refine wpList_append_own_at _ rfl (.tmp 159) (.tmp 167) 30 rfl w.heap.size 57 pi _ 1 8 underlying30 hpi Zj Zk Zl rfl (by decide) (.slice av nk gZ) nk xs rfl (hrow.alloc _) ⟨_,0,none⟩ 1 1 [.pointer (some ⟨y.rb,0,none⟩)] rfl rfl (cell_one_new _ _ _) (by simp[Value.oneCell']) (by unfold maxLen;omega) (by omega) (by simp;omega) ?_;intro v2 w2 vR oG Ja hA2)
    have Zm:=HX.out w2 v2 vR;have kB:Below w.heap.size w w2:=(hB.alloc hsz _).grown oG (by simp;omega) (fun q e=>(aQ hrw q e).1);clear Ja hA2;go_wp2_with fail
    go_roundw
    case rel=>exact⟨i+1,by omega,by go_num,Zm,kB⟩
    case measure=>simp[intOf];omega
  ·have hin:i=RL.length:=by omega
   subst hin;rw[List.take_length]at hrow hv hle;obtain⟨hN,f2,cr⟩:=HE.out wr _ hB hrow;have rk:=HRK.out wr (.slice av (RL.eraseIdx at_).length gZ) hB;have HN:Hid _:=hN;subst hv;unfold ptr at cr;clear hN hrow HE HRK HL HM;go_wp2_with fail
   have q7:(0:Int)<=(ask:Int):=by omega
   have q8:(ask:Int)<=(R.ks.length:Int):=by omega
   refine To.last (R:=fun a' w'=>RE Z w0 sb xb s.rs.length n w'/\a'.defers= []/\a'.tmps.getD 6 undef=.bool true) ?_ rfl ?_
   ·dsimp only[Dp,bW,bz,cA,cB,f16,Option.getD_some];go_wp2_with fail
    refine cr.mono ?_;rintro e w1 ⟨rfl,je⟩;have HP:Hid (RE Z w0 sb xb s.rs.length n w1):=by obtain⟨τ',m⟩:=HN.out;exact⟨_,_,_,_,_,_,_,m.below je,HI.out,zc3 _,I6.out,hln⟩
    have rk1:=aW je rk;clear cr je HN rk;go_wp2_with fail
    exact HP.out
   ·rintro a' todo w' ⟨hP,e0,q8⟩;refine HQ.out _ w' (fun u=>⟨rfl,e0,hk,f16,by show prog.funcs[b.fn]?=_;rw[hb];exact func16,?_⟩) hP;rw[<-q8];exact results_tmp rfl _ _ _
end
end
section
section
variable {Z:Nat->Prop}{W0 W w0 w v:af}{τ:Nat->Tag}{sb xb m:Nat}{s:MS}{A:SA}{wv rv:aj}{D:List mY}{RL:List jX}{R:jX}{r:MR}{at_:Nat}
def eG.kp(h:eG Z w0 v τ sb xb s A wv rv D RL)(hk:Kp W0 w0)(hz:v.heap.size<=w.heap.size)(hs:∀k,k<w0.heap.size->w.heap[k]?=v.heap[k]?)(ho:w.output=v.output)(hos:Go.ConcM.OsLater v.os w.os):Kp W0 (lY w0.heap.size w):=by
 have hB:=h.env.below;have h1:=hB.size;have h2:=hk.size;refine⟨fun k hk'=>?_,by rw[qU (by omega)];exact h2,?_,?_⟩
 ·rw[sE (by omega),hs k (by omega),hB.block k (by omega)];exact hk.blk k hk'
 ·exact ho.trans (hB.output.trans hk.out)
 ·have e:Go.ConcM.OsLater W0.os v.os:=by rw[hB.os];exact hk.os
  exact e.trans hos
def zE.ed(hO:zE s D R r):fP s (R.n:Int)=some r:=by have h1:=hO.lo;have h2:=hO.at_;have h3:=(List.getElem?_eq_some_iff.1 h2).1;unfold fP Go.Proofs.YteoahlieielcdaaGreat.ed;rw[if_neg (by omega),show ((R.n:Int)-1).toNat=R.n-1 by omega,h2];simp[hO.fin]
def zE.all(hO:zE s D R r)(hl:R.left= []):hU r=true:=by unfold hU;rw[List.all_eq_true];intro j hj;rw[List.mem_range,hO.keys]at hj;exact(hO.asked j _ (zc4 hj)).2 (by rw[hl];simp)
def MK(W0:af)(sb xb m n:Nat)(Sb:Nat->Prop)(W:af):Prop:=∃v w0,cx Sb v W/\Kp W0 w0/\RE Sb w0 sb xb m n v
def MK.lone{Sb:Nat->Prop}{n:Nat}(h:MK W0 sb xb m n Sb W)(hw:cx Sb w W):∃w0,Kp W0 w0/\RE Sb w0 sb xb m n w:=by obtain⟨v,w0,hv,hk,τ,s,A,wv,rv,D,RL,hM,hI,hm,hne⟩:=h;have e:=fB hv hw;exact⟨_,hM.kp hk (by rw[e];exact zc3 _) (fun k _=>by rw[e]) (hw.out.trans hv.out.symm) (by rw[hw.os,hv.os];exact .refl _),τ,s,A,wv,rv,D,RL,hM.lone e,hI,hm,hne⟩
def jI.asks{Q:(Nat->Prop)->ak->List ak->af->Prop}(last:Bool)(hv:cx Sb v W)(hk:Kp W0 w0)(hM:eG Sb w0 v τ sb xb s A wv rv D RL)(hI:oq s D RL)(hR:RL[at_]?=some R)(hne:∀R∈RL,R.left≠ [])(hrs:s.rs.length<=8796093022208)(hnp:∀x∈cl :: c,∀ch,x.mode≠.panicking ch)(hnf:∀u ch,(cl.finish u).mode≠.panicking ch)
 (hq:∀Jb W',MK W0 sb xb s.rs.length (ql RL) Jb W'->jI Q Jb (cl.finish (.bool true)) c W'):
 jI Q Sb (Frame.enter prog 16 #[ptr xb,.int .i64 at_,.bool last] .normal) (cl :: c) W:=by
 obtain⟨r,hO⟩:=hI.rd R (zc6 hR);have hnc:∀ch,∀x∈cl.finish (.bool true):: c,x.mode≠.panicking ch:=fun ch x hx=>by
  rcases zda.1 hx with rfl|hx
  ·exact hnf _ ch
  ·exact hnp x (List.mem_cons_of_mem _ hx) ch
 refine jI.walk (R:=fun v fr c' w=>(fr=cl.finish (.bool true)/\c'=c/\∃w1,Kp W0 w1/\RE Sb w1 sb xb s.rs.length (ql RL) w)\/∃(w1:af) (b:ak) (a:Act) (t:Nat) (τ':Nat->Tag) (A':SA) (s':MS) (R':jX) (r':MR),fr=Frame.enter prog 23 #[ptr sb,.int .i64 R'.n] .normal/\c'=VM b a t [] :: cl :: c/\b.fn=16/\b.kind=.normal/\qT a xb at_ R'.rb last/\Kp W0 w1/\eG Sb w1 w τ' sb xb s' A' wv rv D (RL.set at_ R')/\oq s' D (RL.set at_ R')/\zE s' D R' r'/\R'.left= []/\s'.rs.length=s.rs.length) (fun v fr c' w hr=>?_) (fun v' hv'=>?_) (fun v' fr c' w W1 hv' hr hw=>?_)
 ·rcases hr with⟨rfl,rfl,_⟩|⟨w1,b,a,t,τ',A',s',R',r',rfl,rfl,_⟩
  ·exact fun x hx ch=>hnc ch x hx
  ·rw[enter_at func23 rfl];intro x hx ch;rcases zda.1 hx with rfl|hx
   ·simp[Frame.at]
   ·rcases zda.1 hx with rfl|hx
    ·simp[Frame.at]
    ·exact hnp x hx ch
 ·have e:=fB hv hv';have hk':Kp W0 (lY w0.heap.size v'):=hM.kp hk (by rw[e];exact zc3 _) (fun k _=>by rw[e]) (hv'.out.trans hv.out.symm) (by rw[hv'.os,hv.os];exact .refl _);refine RF last (hM.lone e) hI hR hO hne hrs (fun fr w' hl hP=>To.leave (hl _) (To.done (.inl ⟨rfl,rfl,_,hk',hP⟩))) fun b a w' τ' A' s' R' r' hb hkd gW sw Az uk hl' hrl=>?_;have hat:=(List.getElem?_eq_some_iff.1 hR).1;have hR':R'∈RL.set at_ R':=zc6 (List.getElem?_set_self hat);refine RJ gW (sw.x.cell (o:=0) rfl) ((sw.rd R' hR').blk.cell (o:=0) rfl) fun a' t VU=>To.done (.inr ⟨_,b,a',t,τ',A',s',R',r',rfl,rfl,hb,hkd,VU,hk',sw.drew,Az,uk,hl',hrl⟩)
 ·rcases hr with⟨rfl,rfl,w1,hk1,hP⟩|⟨w1,b,a,t,τ',A',s',R',r',rfl,rfl,hb,hkd,gW,hk1,sw,Az,uk,hl',hrl⟩
  ·exact hq Sb W1 ⟨w,w1,hw,hk1,hP⟩
  have hat:=(List.getElem?_eq_some_iff.1 hR).1;have hR2:(RL.set at_ R')[at_]?=some R':=List.getElem?_set_self hat;have hlo:=uk.lo;have hhi:=(List.getElem?_eq_some_iff.1 uk.at_).1;have hD:=Az.BI;refine jI.finishing hw sw.rep (R'.n:Int) (by omega) (by omega) r' uk.ed (uk.all hl') (fun k hk=>by rw[(sw.zs k hk).2];decide) (fun x hx ch=>by
   rcases zda.1 hx with rfl|hx
   ·simp[Frame.at]
   ·exact hnp x hx ch) (fun u ch=>by obtain⟨o8,r1,_⟩:=Ni;rw[dc r1];simp[Frame.at]) (fun ab wg W2 hF=>?_)
  rw[show ((R'.n:Int)-1).toNat=R'.n-1 by omega]at hF;have hch:∀j:Nat,∃p:Nat×ah,∀x,R'.ks[j]?=some x->zI s' r' x p.1/\Ge ab j x (p.1:Int) p.2 W2/\(p.1=0->p.2=⟨#[]⟩)/\∀m,p.1≠0->s'.ws[p.1-1]?=some m->fO m.items x=some p.2:=fun j=>by
   cases h:R'.ks[j]? with
   |none=>exact⟨(0,⟨#[]⟩),fun x hx=>by cases hx⟩
   |some y=>
    obtain⟨n,val,h1,h2,h3,h4⟩:=hF.AA Az.ws.comm j y (by rw[uk.keys];exact h);exact⟨(n,val),fun x hx=>by cases hx;exact⟨h1,h2,h3,h4⟩⟩
  obtain⟨f,hf⟩:=Classical.axiomOfChoice hch;have hok:=Nd (wn:=fun j=>(f j).1) (vl:=fun j=>(f j).2) Az.ws uk hl' (fun j x hx h0=>by obtain⟨m,h1,h2,_⟩:=sw.rep.told.fm (R'.n-1) r' j x uk.at_ uk.fin (by rw[uk.keys];exact hx) h0;exact⟨h0,m,h1,h2⟩) (fun j x hx=>⟨(hf j x hx).1,(hf j x hx).2.2⟩)
  rw[uk.keys];obtain⟨Zn,Zo,ho3⟩:=hF.abo;refine jI.walk (R:=fun u fr c' w'=>fr=cl.finish (.bool true)/\c'=c/\∃w2,Kp W0 w2/\RE (fun k=>Sb k\/k=wg) w2 sb xb s.rs.length (ql RL) w') (fun u fr c' w' hr=>?_) (fun u hu=>?_) (fun u fr c' w' W3 hu hr xf=>?_)
  ·obtain⟨rfl,rfl,_⟩:=hr;exact fun x hx ch=>hnc ch x hx
  ·obtain⟨τ2,m2,hab,DO,he⟩:=sw.phase hF hu;have hu1:=hu.size;have hk2:Kp W0 (lY w1.heap.size u):=sw.kp hk1 (by omega) (fun k hk=>by
    have h1:=sw.env.lm k hk;have h2:=sw.env.below.size;have h3:¬Sb k:=fun e=>by have:=(sw.zs k e).2;rw[h1]at this;cases this
    rw[hu.same k (fun e=>e.elim h3 (by omega)),hF.keep k (by omega) (by rw[h1];decide) h3]) (hu.out.trans hF.out) (by rw[hu.os];exact hF.os)
   have hI3:=Az.fin hR2 uk;refine RN gW fun a' VU t14 t15 t16=>RP (n:=ql RL) (wn:=fun j=>(f j).1) (vl:=fun j=>(f j).2) hb hkd m2 hI3 hR2 (fun R0 h0=>?_) Az.Ga uk.I5 (fun m hm=>?_) (by have:=uk.FT;omega) hab DO (fun j x hx=>?_) (fun j x hx=>?_) hok ?_ VU t14 t15 t16 ?_ fun fr w' hl hP=>To.leave (hl _) (To.done ⟨rfl,rfl,_,hk2,?_⟩)
   ·rw[List.eraseIdx_set_eq]at h0;exact hne R0 (zdb h0)
   ·obtain⟨d,hd,hn,_⟩:=uk.sure m hm;obtain⟨i,hi,e⟩:=Az.ws.mem hd;have:=(List.getElem?_eq_some_iff.1 hi).1;omega
   ·show (f j).1<=1000;rcases(hf j x hx).1.one with e|⟨⟨_,m,hm,_⟩,_⟩
    ·omega
    ·have:=(List.getElem?_eq_some_iff.1 hm).1;rw[Az.ws.len]at this;omega
   ·obtain⟨a1,a2,a3⟩:=(hf j x hx).2.1;exact⟨(zc5 (w:=W2) (a:=⟨ab,_,none⟩) he).trans a1,(zc5 (w:=W2) (a:=⟨ab,_,none⟩) he).trans a2,(zc5 (w:=W2) (a:=⟨ab,_,none⟩) he).trans a3⟩
   ·unfold F9;rw[uk.keys];exact List.countP_le_length
   ·rw[List.eraseIdx_set_eq];have:=Gb hR;have:=zc8.2 (hne R (zc6 hR));omega
   ·have e:(nW s' (R'.n-1) r').rs.length=s.rs.length:=by rw[<-hrl];simp[nW]
    rw[e]at hP;exact hP
  ·obtain⟨rfl,rfl,w2,hk2,hP⟩:=hr;exact hq _ W3 ⟨w',w2,xf,hk2,hP⟩
end
end
section
def To.calls{P:aB}{f:ay}{args:Array aj}{R:af->Prop}(h:Calls P f args w fun e w'=>e=.returned u/\R w')(hq:∀w',R w'->To P Q (cl.finish u) c w'):To P Q (Frame.enter P f args .normal) (cl :: c) w:=fun cs=>by obtain⟨e,w',fr,⟨rfl,hr⟩,hs,_,hl⟩:=h (cl :: c++cs);obtain⟨f2,c2,w2,h2,s2⟩:=To.leave hl (hq w' hr) cs;exact⟨f2,c2,w2,h2,Steps.trans hs s2⟩
noncomputable def iQ:Code:=f15.body.getD .skip
noncomputable def RU:Code:=cI (cB (cA (bz 2 iQ)))
noncomputable def UG:Code:=cE (cB RU)
noncomputable def YB:Code:=cE (cB UG)
noncomputable def UH:Code:=cT (cB YB)
noncomputable def stZ:Code:=bz 3 iQ
noncomputable def AB:Array Oper:=opsOf (cA (cB UH))
def Kl:iQ=.seq (cA iQ) (.seq (cA (bz 1 iQ)) (.seq (.seq (cA (cA (bz 2 iQ))) (.block 0 RU)) stZ)):=by kernel_rfl
def VV:RU=.seq (cA RU) (.cond (.tmp 22) (cT (cB RU)) UG):=by kernel_rfl
def VW:UG=.seq (cA UG) (.cond (.tmp 51) (cT (cB UG)) YB):=by kernel_rfl
def VX:YB=.seq (cA YB) (.cond (.tmp 84) UH .skip):=by kernel_rfl
def DQ:AB.size=15:=by kernel_rfl
def Np(i:Nat):List Nat:=if i=2 then [1]else if i<3 then []else if i<8 then(List.range i).drop 3 else if i=8 then(List.range i).drop 1 else if i<13 then(List.range i).drop 9 else List.range 13
def jQ:Nat->Op
 | 0=>.move (.tmp 0)
 | 1=>.fieldAddr 35 (.tmp 3) 1
 | 2=>.load 3 (.tmp 93)
 | 3=>.move (.tmp 0)
 | 4=>.nilCheck (.tmp 95)
 | 5=>.fieldAddr 32 (.tmp 96) 2
 | 6=>.load 30 (.tmp 97)
 | 9=>.fieldAddr 35 (.tmp 3) 2
 | 10=>.load 3 (.tmp 101)
 | 11=>.binOp .and 3 (.tmp 102) (.const (.int .i64 1)) 3
 |_=>.binOp .eql 3 (.tmp 103) (.const (.int .i64 1)) 3
def VY:∀i,i<13->∃o,AB[i]?=some o/\o.guard=none/\o.dst=some (92+i)/\(i≠7->i≠8->o.op=jQ i):=by
 intro i hi;refine⟨(AB[i]?).getD default,?_⟩;match i,hi with
 | 0,_| 1,_| 2,_| 3,_| 4,_| 5,_| 6,_| 9,_| 10,_| 11,_| 12,_=>refine⟨?_,?_,?_,fun _ _=>?_⟩ <;>kernel_rfl
 | 7,_| 8,_=>refine⟨?_,?_,?_,fun _ _=>by omega⟩ <;>kernel_rfl
def Zp:∃o,AB[7]?=some o/\∃cl:Call,o.op=.call cl/\cl.callee=.builtin .len/\cl.args=#[.tmp 98]/\cl.argTypes=#[30]:=by refine⟨(AB[7]?).getD default,?_,(match ((AB[7]?).getD default).op with|.call cl=>cl|_=>default),?_,?_,?_,?_⟩ <;>kernel_rfl
def Zq:∃o,AB[8]?=some o/\∃cl:Call,o.op=.call cl/\cl.callee=.value (.func 18)/\cl.args=#[.tmp 94,.tmp 99]:=by refine⟨(AB[8]?).getD default,?_,(match ((AB[8]?).getD default).op with|.call cl=>cl|_=>default),?_,?_,?_⟩ <;>kernel_rfl
def Gf:∃o,AB[13]?=some o/\o.guard=none/\o.dst=some 105/\∃cl:Call,o.op=.call cl/\cl.callee=.value (.func 16)/\cl.args=#[.tmp 92,.tmp 100,.tmp 104]:=by refine⟨(AB[13]?).getD default,?_,?_,?_,(match ((AB[13]?).getD default).op with|.call cl=>cl|_=>default),?_,?_,?_⟩ <;>kernel_rfl
def VZ:∃o,AB[14]?=some o/\o.guard=none/\o.dst=some 4/\o.op=.assign (.tmp 105):=by refine⟨(AB[14]?).getD default,?_,?_,?_,?_⟩ <;>kernel_rfl
def Nq:uo AB 13 Np=true:=by kernel_rfl
def RV:Region.ready .any AB (upTo 15 13)= [13]:=by kernel_rfl
def RY:Region.ready .any AB ((upTo 15 13).setIfInBounds 13 true)= [14]:=by kernel_rfl
def Km(b:Int):Bool:=Go.bits BinOp.and IntKind.i64 b 1 == 1
def l7(xb pb n at_:Nat)(rv:aj)(a b:Int)(i:Nat):aj:=
 if i=0 then .pointer (some ⟨xb,0,none⟩)else if i=1 then .pointer (some ⟨pb,1,none⟩)else if i=2 then .int .i64 a else if i<5 then .pointer (some ⟨xb,0,none⟩)else if i=5 then .pointer (some ⟨xb,2,none⟩)else if i=6 then rv else if i=7 then .int .i64 n else if i=8 then .int .i64 at_ else if i=9 then .pointer (some ⟨pb,2,none⟩)else if i=10 then .int .i64 b else if i=11 then .int .i64 (Go.bits BinOp.and IntKind.i64 b 1)else .bool (Km b)
noncomputable abbrev RZ(b:ak)(a:Act)(t:Nat):ak:=b.at a [.inRegion AB (13 :: Region.linearise.go .any AB 1 t ((upTo 15 13).setIfInBounds 13 true) []),.code .ret,.inBlock 0,.code stZ]
section
variable {Q:ak->List ak->af->Prop}{f:ak}{t:Act}{c:List ak}{w:af}{xb pb n at_:Nat}{rv:aj}{a b:Int}
def R1(hd:t.defers= [])(hs:t.tmps.size=202)(t0:t.tmps[0]?=some (.pointer (some ⟨xb,0,none⟩)))(t3:t.tmps[3]?=some (.pointer (some ⟨pb,0,none⟩)))(p1:w.cell? ⟨pb,1,none⟩=some (.int .i64 a))(p2:w.cell? ⟨pb,2,none⟩=some (.int .i64 b))(x2:w.cell? ⟨xb,2,none⟩=some rv)(FU:rv=.slice av n cv)
 (h1: -9223372036854775808<=a) (h2:a<=9223372036854775807) (hn:0<n) (hn':n<=1000) (hp:fC a n=(at_:Int))
 (h:∀(a':Act) (u:Nat),a'.defers= []->a'.tmps.size=202->To prog Q (Frame.enter prog 16 #[ptr xb,.int .i64 at_,.bool (Km b)] .normal) (RZ f a' u :: c) w.drew):To prog Q (f.at t [.code (cB UH),.inBlock 0,.code stZ]) c w:=by
 rw[show cB UH=.seq (.region 18 AB true) .ret from by kernel_rfl];refine .step (fun _=>step_seq) (To.drawn Np Nq rfl (fun i=>92+i) (l7 xb pb n at_ rv a b) (by intro i j _ _ e;omega) (by intro i hi;rw[hs];omega) (by rw[DQ];omega) ?_ ?_)
 ·intro i hi a' is hv ht hg;obtain⟨o,q1,q2,q3,q4⟩:=VY i hi;have p1':w.drew.cell? ⟨pb,1,none⟩=some (.int .i64 a):=p1;have p2':w.drew.cell? ⟨pb,2,none⟩=some (.int .i64 b):=p2;have x2':w.drew.cell? ⟨xb,2,none⟩=some rv:=x2;have ev:∀j u,a'.tmps[j]?=some u->a'.eval (.tmp j)=u:=fun j u e=>by simp[Act.eval,Array.getD_eq_getD_getElem?,e]
  have e0:=ev 0 _ ((ht 0 (by intro j hj;omega)).trans t0);have e3:=ev 3 _ ((ht 3 (by intro j hj;omega)).trans t3);by_cases h8:i=8
  ·subst h8;obtain⟨o',r1,cl,r2,r3,r4⟩:=Zq;obtain rfl:o=o':=Option.some.inj (q1.symm.trans r1);refine To.call q1 q2 r2 r3 func18 (by kernel_rfl) rfl (args:=#[.int .i64 a,.int .i64 n]) ?_ (To.calls (u:=.int .i64 at_) (R:=fun w'=>w'=w.drew) ?_ ?_)
   ·rw[r4];simp[ev _ _ (hv 2 (by decide)),ev _ _ (hv 7 (by decide)),l7]
   ·have:=jr a n w.drew h1 h2 (by omega) (by omega);rw[hp]at this;exact this
   ·rintro w' rfl;rw[dc q1,q3];exact hg
  ·have hr:(execOp a'.eval o).run prog w.drew=.ok (.value (l7 xb pb n at_ rv a b i)) w.drew:=by
    by_cases h7:i=7
    ·subst h7;obtain⟨o',r1,cl,r2,r3,r4,r5⟩:=Zp;obtain rfl:o=o':=Option.some.inj (q1.symm.trans r1);have e6:=hv 6 (by decide);simp only[Nat.reduceAdd,l7,FU]at e6;unfold execOp;rw[r2];simp only[l7];go_simp
    ·unfold execOp;rw[q4 h7 h8];match i,hi with
     | 0,_=>simp only[jQ,e0];go_simp;rfl
     | 1,_=>simp only[jQ,e3];go_simp;rfl
     | 2,_=>simp only[jQ,ev _ _ (hv 1 (by decide))];simp only[l7];go_simp
     | 3,_=>simp only[jQ,e0];go_simp;rfl
     | 4,_=>simp only[jQ,ev _ _ (hv 3 (by decide))];simp only[l7];go_simp
     | 5,_=>simp only[jQ,ev _ _ (hv 4 (by decide))];simp only[l7];go_simp
     | 6,_=>simp only[jQ,ev _ _ (hv 5 (by decide))];simp only[l7];go_simp
     | 9,_=>simp only[jQ,e3];go_simp;rfl
     | 10,_=>simp only[jQ,ev _ _ (hv 9 (by decide))];simp only[l7];go_simp
     | 11,_=>simp only[jQ,ev _ _ (hv 10 (by decide))];simp only[l7];go_simp
     | 12,_=>simp only[jQ,ev _ _ (hv 11 (by decide))];simp only[l7,Km];go_simp
   refine To.op q1 (cU q2 _) hr ?_;rw[q3];exact hg
 ·intro a' u hv ht sJ hz;rw[DQ,Gd RV];obtain⟨o,r1,r2,r3,cl,r4,r5,r6⟩:=Gf;refine To.call r1 r2 r4 r5 func16 (by kernel_rfl) rfl ?_ (h a' u (sJ.trans hd) (hz.trans hs));have e0:=hv 0 (by decide);have e8:=hv 8 (by decide);have Zr:=hv 12 (by decide);rw[r6];simp only[Nat.reduceAdd]at e0 e8 Zr;simp[Act.eval,Array.getD_eq_getD_getElem?,e0,e8,Zr,l7,ptr]
def R4(hb:f.fn=15)(hk:f.kind=.normal)(hd:t.defers= [])(hs:t.tmps.size=202){u:Nat}(h:∀fr:ak,(∀v,fr.leaving prog v (.returned (.bool true)))->To prog Q fr c w):To prog Q ((RZ f t u).finish (.bool true)) c w:=by
 obtain⟨o,r1,r2,r3,-⟩:=Gf;obtain⟨o',q1,q2,q3,q4⟩:=VZ;rw[dc r1,r3,Gd RY];have e:(execOp (t.put (some 105) (.bool true)).eval o').run prog w=.ok (.value (.bool true)) w:=by unfold execOp;rw[q4];simp only[Act.eval,Act.put,Array.getD_eq_getD_getElem?];rw[Array.getElem?_setIfInBounds_self_of_lt (by omega)];go_simp
 refine To.op q1 (cU q2 _) e ?_;rw[q3];refine To.over (.step (fun _=>step_ret) (h _ fun v=>⟨rfl,hd,hk,f15,by show prog.funcs[f.fn]?=_;rw[hb];exact func15,?_⟩));have q8:((t.put (some 105) (.bool true)).put (some 4) (.bool true)).tmps.getD 4 undef=.bool true:=by simp only[Act.put,Array.getD_eq_getD_getElem?];rw[Array.getElem?_setIfInBounds_self_of_lt (by rw[Array.size_setIfInBounds];omega)];rfl
 exact(results_tmp (fn:=f15) rfl _ _ _).trans (congrArg (fun x=>Result.ok x v) q8)
end
section
variable {Z:Nat->Prop}{W0 W w0 w v:af}{τ:Nat->Tag}{sb xb m n:Nat}{s:MS}{A:SA}{wv rv:aj}{D:List mY}{RL:List jX}{a b:Int}
def R5(hM:eG Z w0 w τ sb xb s A wv rv D RL)(hI:oq s D RL)(h1: -9223372036854775808<=a)(h2:a<=9223372036854775807)(h0:RL≠ [])
 (hQ:∀(f:ak) (t:Act) (u at_:Nat) (w':af) (τ':Nat->Tag),f.fn=15->f.kind=.normal->t.defers= []->t.tmps.size=202->at_<RL.length->eG Z w0 w' τ' sb xb s A wv rv D RL->To prog Q (Frame.enter prog 16 #[ptr xb,.int .i64 at_,.bool (Km b)] .normal) (RZ f t u :: c) w'):
 To prog Q (Frame.enter prog 15 #[ptr xb,.agg #[.int .i64 5,.int .i64 a,.int .i64 b]] .normal) c w:=by
 obtain⟨B0,sK,e0⟩:=l9 a 63 (by omega);rw[show ((63:Nat):Int)=63 from rfl]at e0;have c0:∀W,_:=fun W=>jr a 63 W h1 h2 (by omega) (by omega);rw[e0]at c0;have k0:∀W:af,Calls prog 17 #[.int .i64 (1+(B0:Int))] W _:=fun W=>by have:=I4 (w:=W) (B0+1) (by omega) (by omega);rw[show ((B0+1:Nat):Int)=1+(B0:Int)from by omega]at this;exact this
 have hl:0<RL.length:=zc8.2 h0;have hfr:=hI.Ga;obtain⟨at_,hat,eat⟩:=l9 a RL.length hl;obtain⟨av,cv,FU⟩:=cy hM.lJ;have HQ:Hid _:=hQ;have HM:Hid (eG Z w0 w τ sb xb s A wv rv D RL):=hM;clear e0 hI hM hQ;unfold ptr;rw[enter_at (body:=iQ) func15 rfl,Kl];walk_nrmf ntmps15;refine To.cj fun K hK=>?_;dsimp only[iQ,bz,cA,cB,f15,Option.getD_some];go_wp2_with fail
 refine To.cj fun K hK=>?_;dsimp only[iQ,bz,cA,cB,f15,Option.getD_some];go_wp2_with fail
 refine(c0 _).mono ?_;rintro e w1 ⟨rfl,rfl⟩;clear c0;go_wp2_with fail
 refine(k0 _).mono ?_;rintro e w2 ⟨kg,bX,rfl,KA,bB⟩;clear k0;have HS:Hid (eG Z w0 w2 (fresh (fresh τ w.heap.size) (w.heap.size+1)) sb xb s A wv rv D RL/\bg w2 w.heap.size #[.int .i64 5,.int .i64 a,.int .i64 b] 35):=by
  have iz:Below w.heap.size w (w.alloc (.cells #[.int .i64 5,.int .i64 a,.int .i64 b] 35)):=(Below.refl _ _).alloc (zc3 _) _;have hz:(w.alloc (.cells #[.int .i64 5,.int .i64 a,.int .i64 b] 35)).heap.size=w.heap.size+1:=by simp
  have m2:=(HM.out.fresh iz).fresh bB;rw[hz]at m2 bB;exact⟨m2,(bg.new w _ _).of_eq (bB.block _ (by omega))⟩
 generalize w.heap.size=pb at *;have p0:=HS.out.2.cell (o:=0) (v:=.int .i64 5) rfl;have p1:=HS.out.2.cell (o:=1) (v:=.int .i64 a) rfl;have p2:=HS.out.2.cell (o:=2) (v:=.int .i64 b) rfl;have x2:=HS.out.1.x.cell (o:=2) (v:=rv) rfl;clear KA bB HM;go_wp2_with fail
 refine .step (fun _=>step_seq) (To.cj fun K hK=>?_);dsimp only[iQ,bz,cA,cB,f15,Option.getD_some];go_wp2_with fail
 refine .step (fun _=>step_block) ?_;rw[VV];refine To.cj fun K hK=>?_;dsimp only[RU,iQ,bz,cA,cB,cI,f15,Option.getD_some];go_wp2_with fail
 refine .step (fun _=>step_cond (t:=false) rfl) ?_;simp only[Bool.false_eq_true,if_false];rw[VW];refine To.cj fun K hK=>?_;dsimp only[UG,RU,iQ,bz,cA,cB,cI,cE,f15,Option.getD_some];go_wp2_with fail
 refine .step (fun _=>step_cond (t:=false) rfl) ?_;simp only[Bool.false_eq_true,if_false];rw[VX];refine To.cj fun K hK=>?_;dsimp only[YB,UG,RU,iQ,bz,cA,cB,cI,cE,f15,Option.getD_some];go_wp2_with fail
 refine .step (fun _=>step_cond (t:=true) rfl) ?_;simp only[if_true];rw[show UH=.seq (cA UH) (cB UH)from by kernel_rfl];rw[FU]at x2;have q0:((RL.length:Int)== 0)=false:=by rw[beq_eq_false_iff_ne];omega
 refine To.cj fun K hK=>?_;dsimp only[UH,YB,UG,RU,iQ,bz,cA,cB,cI,cE,cT,f15,Option.getD_some];go_wp2_with fail
 exact R1 rfl rfl rfl rfl p1 p2 x2 rfl h1 h2 hl (by omega) eat fun a' u e1 e2=>HQ.out _ a' u at_ _ _ rfl rfl e1 e2 hat HS.out.1.drew
def MK.mono(h:MK W0 sb xb m n Sb W)(hm:m<=m'):MK W0 sb xb m' n Sb W:=by obtain⟨v,w0,hv,hk,τ,s,A,wv,rv,D,RL,hM,hI,hm',hne⟩:=h;exact⟨v,w0,hv,hk,τ,s,A,wv,rv,D,RL,hM,hI,by omega,hne⟩
def jI.Nr{Q:(Nat->Prop)->ak->List ak->af->Prop}(hC:MK W0 sb xb m n Sb W)(hm:m<8796093022208)(kind:Int)(h1: -9223372036854775808<=a)(h2:a<=9223372036854775807)(h3: -9223372036854775808<=b)(h4:b<=9223372036854775807)(hnp:∀x∈cl :: c,∀ch,x.mode≠.panicking ch)(hnf:∀u ch,(cl.finish u).mode≠.panicking ch)
 (hq:∀n' Jb W',MK W0 sb xb (m+1) n' Jb W'->jI Q Jb (cl.finish (.bool true)) c W'):
 jI Q Sb (Frame.enter prog 15 #[ptr xb,.agg #[.int .i64 kind,.int .i64 a,.int .i64 b]] .normal) (cl :: c) W:=by
 obtain⟨v,w0,hv,hk,τ,s,A,wv,rv,D,RL,hM,hI,hm',hne,hls⟩:=hC;have hnc:∀x∈cl.finish (.bool true):: c,∀ch,x.mode≠.panicking ch:=fun x hx ch=>by
  rcases zda.1 hx with rfl|hx
  ·exact hnf _ ch
  ·exact hnp x (List.mem_cons_of_mem _ hx) ch
 have hkp:∀{v':af},cx Sb v' W->Kp W0 (lY w0.heap.size v'):=fun{v'} hv'=>by have e:=fB hv hv';exact hM.kp hk (by rw[e];exact zc3 _) (fun k _=>by rw[e]) (hv'.out.trans hv.out.symm) (by rw[hv'.os,hv.os];exact .refl _)
 by_cases h5:kind=5/\RL≠ []
 ·obtain⟨rfl,h0⟩:=h5;refine jI.walk (R:=fun v fr c' w=>∃(w1:af) (f:ak) (t:Act) (u at_:Nat) (τ':Nat->Tag),fr=Frame.enter prog 16 #[ptr xb,.int .i64 at_,.bool (Km b)] .normal/\c'=RZ f t u :: cl :: c/\f.fn=15/\f.kind=.normal/\t.defers= []/\t.tmps.size=202/\at_<RL.length/\Kp W0 w1/\eG Sb w1 w τ' sb xb s A wv rv D RL) (fun v fr c' w hr=>?_) (fun v' hv'=>?_) (fun v' fr c' w W1 hv' hr hw=>?_)
  ·obtain⟨w1,f,t,u,at_,τ',rfl,rfl,_⟩:=hr;rw[enter_at func16 rfl];intro x hx ch;rcases zda.1 hx with rfl|hx
   ·simp[Frame.at]
   ·rcases zda.1 hx with rfl|hx
    ·simp[Frame.at]
    ·exact hnp x hx ch
  ·exact R5 (hM.lone (fB hv hv')) hI h1 h2 h0 fun f t u at_ w' τ' e1 e2 e3 e4 e5 sw=>To.done ⟨_,f,t,u,at_,τ',rfl,rfl,e1,e2,e3,e4,e5,hkp hv',sw⟩
  ·obtain⟨w1,f,t,u,at_,τ',rfl,rfl,e1,e2,e3,e4,e5,hk1,sw⟩:=hr;refine jI.asks (Km b) hw hk1 sw hI (zc4 e5) hne (by omega) (fun x hx ch=>?_) (fun u' ch=>?_) fun Jb W2 Zs=>?_
   ·rcases zda.1 hx with rfl|hx
    ·simp[Frame.at]
    ·exact hnp x hx ch
   ·obtain⟨o,r1,_⟩:=Gf;rw[dc r1];simp[Frame.at]
   ·refine jI.walk (R:=fun u fr c' w'=>fr=cl.finish (.bool true)/\c'=c/\w'=u) (fun u fr c' w' hr=>?_) (fun u hu=>?_) (fun u fr c' w' W3 hu hr xf=>?_)
    ·obtain⟨rfl,rfl,_⟩:=hr;exact hnc
    ·exact R4 e1 e2 e3 e4 fun fr hl=>To.leave (hl _) (To.done ⟨rfl,rfl,rfl⟩)
    ·obtain⟨rfl,rfl,rfl⟩:=hr;obtain⟨w2,hk2,hL⟩:=Zs.lone hu;exact hq _ Jb W3 (MK.mono ⟨_,w2,xf,hk2,hL⟩ (by omega))
 ·refine jI.walk (R:=fun v fr c' w=>fr=cl.finish (.bool true)/\c'=c/\∃w1,Kp W0 w1/\NvP Sb w1 sb xb (s.rs.length+1) w) (fun v fr c' w hr=>?_) (fun v' hv'=>?_) (fun v' fr c' w W1 hv' hr hw=>?_)
  ·obtain⟨rfl,rfl,_⟩:=hr;exact hnc
  ·refine To.calls (Ns (hM.lone (fB hv hv')) hI kind a b h1 h2 h3 h4 (fun e=>Classical.byContradiction fun h=>h5 ⟨e,h⟩) (by omega) hne) fun w' hP=>To.done ⟨rfl,rfl,_,hkp hv',hP⟩
  ·obtain⟨rfl,rfl,w1,hk1,τ',s',A',wv',rv',D',RQ,q1,q2,q3,q4⟩:=hr;exact hq (ql RQ+1) Sb W1 ⟨w,w1,hw,hk1,τ',s',A',wv',rv',D',RQ,q1,q2,by omega,q4,Nat.lt_succ_self _⟩
end
end
section
def wI(W:af)(a0:Option aA)(T:List (Int×Int×Int)):Prop:=∀(i:Nat) (x:Int×Int×Int),T[i]?=some x->∃b o,a0=some ⟨b,o,none⟩/\b<W.heap.size/\W.cell? ⟨b,o+i*3,none⟩=some (.int .i64 x.1)/\W.cell? ⟨b,o+i*3+1,none⟩=some (.int .i64 x.2.1)/\W.cell? ⟨b,o+i*3+2,none⟩=some (.int .i64 x.2.2)/\-9223372036854775808<=x.2.1/\x.2.1<=9223372036854775807/\-9223372036854775808<=x.2.2/\x.2.2<=9223372036854775807
noncomputable def dx:Code:=Tryz.f6.body.getD .skip
noncomputable def ML:Array Oper:=opsOf (cA (bz 1 dx))
noncomputable def vk:Code:=cI (cI (cB (cA (bz 4 dx))))
noncomputable def Kn:Array Oper:=opsOf (cA (cI (cA (cB vk))))
noncomputable def YC:Code:=cB (cI (cA (cB vk)))
noncomputable def AD:Code:=cI (cI (cA (bz 5 dx)))
noncomputable def Ko:Array Oper:=opsOf (cA (cI (cB AD)))
noncomputable def YD:Code:=cB (cI (cB AD))
noncomputable def YE:Code:=bz 6 dx
noncomputable abbrev YF:Code:=.seq (.block 2 (.loop AD)) YE
def Kq:dx=.seq (cA dx) (.seq (.region 1 ML false) (.seq (cA (bz 2 dx)) (.seq (cA (bz 3 dx)) (.seq (.seq (cA (cA (bz 4 dx))) (.block 0 (.loop vk))) YF)))):=by kernel_rfl
def Nt:vk=.seq (.seq (cA (cA vk)) (.cond (.tmp 23) .skip (.exit 0))) (.seq (.block 1 (.seq (.region 8 Kn false) YC)) (cB (cB vk))):=by kernel_rfl
def Nu:AD=.seq (.seq (cA (cA AD)) (.cond (.tmp 39) .skip (.exit 2))) (.block 3 (.seq (.region 12 Ko false) YD)):=by kernel_rfl
def Nv:List.range Kn.size= [0,1,2,3,4,5,6]:=by kernel_rfl
def Nw:List.range Ko.size= [0,1,2]:=by kernel_rfl
def Gg:Nat->Op
 | 0=>.move (.tmp 8)
 | 1=>.move (.tmp 0)
 | 2=>.move (.tmp 9)
 | 3=>.indexAddr 25 (.tmp 27) (.tmp 28)
 |_=>.load 35 (.tmp 29)
def xg:∀i,i<5->∃o,Kn[i]?=some o/\o.guard=none/\o.dst=some (26+i)/\o.op=Gg i:=by
 intro i hi;refine⟨(Kn[i]?).getD default,?_⟩;match i,hi with
 | 0,_| 1,_| 2,_| 3,_| 4,_=>refine⟨?_,?_,?_,?_⟩ <;>kernel_rfl
def Ny:∃o,Kn[5]?=some o/\o.guard=none/\o.dst=some 31/\∃cl:Call,o.op=.call cl/\cl.callee=.value (.func 15)/\cl.args=#[.tmp 26,.tmp 30]:=by refine⟨(Kn[5]?).getD default,?_,?_,?_,(match ((Kn[5]?).getD default).op with|.call cl=>cl|_=>default),?_,?_,?_⟩ <;>kernel_rfl
def Zt:∃o,Ko[0]?=some o/\o.guard=none/\o.dst=some 40/\o.op=.move (.tmp 8):=by refine⟨(Ko[0]?).getD default,?_,?_,?_,?_⟩ <;>kernel_rfl
def Nz:∃o,Ko[1]?=some o/\o.guard=none/\o.dst=some 41/\∃cl:Call,o.op=.call cl/\cl.callee=.value (.func 16)/\cl.args=#[.tmp 40,.const (.int .i64 0),.const (.bool false)]:=by refine⟨(Ko[1]?).getD default,?_,?_,?_,(match ((Ko[1]?).getD default).op with|.call cl=>cl|_=>default),?_,?_,?_⟩ <;>kernel_rfl
def R6:List.range' 6 (Kn.toList.drop 6).length= [6]:=by kernel_rfl
def R7:List.range' 2 (Ko.toList.drop 2).length= [2]:=by kernel_rfl
structure ju(a:Act)(sv:aj)(xb i:Nat):Prop where
 d:a.defers= []
 s:a.tmps.size=44
 t0:a.tmps[0]?=some sv
 t8:a.tmps[8]?=some (ptr xb)
 t9:a.tmps[9]?=some (.int .i64 i)
def ju.opened(h:ju a sv xb i):∃f:Nat->aj,a=⟨((List.range 44).map f).toArray, []⟩/\f 0=sv/\f 8=.pointer (some ⟨xb,0,none⟩)/\f 9=.int .i64 i:=by obtain⟨tms,w8⟩:=a;obtain⟨hd,hs,t0,t8,t9⟩:=h;simp only at hd hs t0 t8 t9;subst hd;obtain⟨fv,hT,aL⟩:=DK tms hs;exact⟨fv,by rw[hT],aL 0 _ t0,aL 8 _ t8,aL 9 _ t9⟩
def ju.put{a:Act}{sv:aj}{xb i n:Nat}(h:ju a sv xb i)(hn:9<n)(u:aj):ju (a.put (some n) u) sv xb i:=
 ⟨h.d,kA.trans h.s,(I8 (by omega)).trans h.t0,(I8 (by omega)).trans h.t8,(I8 (by omega)).trans h.t9⟩
noncomputable abbrev Gh:List Item:= [.code vk,.inLoop vk,.inBlock 0,.code YF]
noncomputable abbrev Zu:List Item:= [.inBlock 1,.code (cB (cB vk)),.inLoop vk,.inBlock 0,.code YF]
noncomputable abbrev Gi:List Item:= [.code AD,.inLoop AD,.inBlock 2,.code YE]
noncomputable abbrev Zv:List Item:= [.inBlock 3,.inLoop AD,.inBlock 2,.code YE]
noncomputable abbrev nvS(b:ak)(a:Act):ak:=b.at a (.inRegion Kn (5 :: [6]):: .code YC :: Zu)
noncomputable abbrev nvT(b:ak)(a:Act):ak:=b.at a (.inRegion Ko (1 :: [2]):: .code YD :: Zv)
section
variable {Q:ak->List ak->af->Prop}{b:ak}{a:Act}{c:List ak}{w:af}{xb i:Nat}{a0:Option aA}{cap:Nat}{T:List (Int×Int×Int)}{x:Int×Int×Int}{sv:aj}
def R8(gW:ju a (.slice a0 T.length cap) xb i)(hT:wI w a0 T)(hx:T[i]?=some x)
 (h:∀a',ju a' (.slice a0 T.length cap) xb i->To prog Q (Frame.enter prog 15 #[ptr xb,.agg #[.int .i64 x.1,.int .i64 x.2.1,.int .i64 x.2.2]] .normal) (nvS b a' :: c) w):To prog Q (b.at a Gh) c w:=by
 have hi:=(List.getElem?_eq_some_iff.1 hx).1;obtain⟨ob,oo,rfl,-,c0,c1,c2,-⟩:=hT i x hx;have HQ:Hid _:=h;clear h;refine To.then (Q:=fun fr c' w'=>∃a',ju a' (.slice (some ⟨ob,oo,none⟩) T.length cap) xb i/\fr=b.at a' (.code (.seq (.region 8 Kn false) YC):: Zu)/\c'=c/\w'=w) ?_ ?_
 ·obtain⟨fv,rfl,t0,t8,t9⟩:=gW.opened;simp only[List.range,List.range.loop,List.map_cons,List.map_nil,t0,t8,t9];clear t0 t8 t9 gW;show To prog _ (b.at _ (.code vk :: [.inLoop vk,.inBlock 0,.code YF])) c w;rw[show (Item.code vk)=Item.code (.seq (.seq (cA (cA vk)) (.cond (.tmp 23) .skip (.exit 0))) (.seq (.block 1 (.seq (.region 8 Kn false) YC)) (cB (cB vk))))from congrArg Item.code Nt];refine .step (fun _=>step_seq) (To.cj fun K hK=>?_);have q:(i:Int)< (T.length:Int):=by omega
  dsimp only[vk,dx,bz,cA,cB,cI,Tryz.f6,Option.getD_some];go_wp2_with fail
  refine .step (fun _=>step_cond (t:=true) rfl) (.step (fun _=>step_skip) (.step (fun _=>step_seq) (.step (fun _=>step_block) (To.done ⟨_,⟨rfl,rfl,rfl,rfl,rfl⟩,rfl,rfl,rfl⟩))))
 ·rintro _ c' w' ⟨a',hs,rfl,ec,ew⟩;rw[ec,ew];clear ec ew;have ev:∀{t:Act} {j u},t.tmps[j]?=some u->t.eval (.tmp j)=u:=fun{t j u} e=>by simp[Act.eval,Array.getD_eq_getD_getElem?,e]
  refine .step (fun _=>step_seq) (.region ?_);rw[Nv];obtain⟨o0,q1,q2,q3,q4⟩:=xg 0 (by omega);refine To.op q1 (cU q2 _) (run_move q4 _) ?_;rw[q3,ev hs.t8];clear q1 q2 q3 q4 o0;obtain⟨o0,q1,q2,q3,q4⟩:=xg 1 (by omega);refine To.op q1 (cU q2 _) (run_move q4 _) ?_;rw[q3,sH (by decide),ev hs.t0];clear q1 q2 q3 q4 o0;obtain⟨o0,q1,q2,q3,q4⟩:=xg 2 (by omega);refine To.op q1 (cU q2 _) (run_move q4 _) ?_;rw[q3,sH (by decide),sH (by decide),ev hs.t9];clear q1 q2 q3 q4 o0;have z:=hs.s;have q:(i:Int)< (T.length:Int):=by omega
  obtain⟨o0,q1,q2,q3,q4⟩:=xg 3 (by omega);refine To.op q1 (cU q2 _) (v:=.pointer (some ⟨ob,oo+i*3,none⟩)) (w1:=w) ?_ ?_
  ·unfold execOp;rw[q4];simp only[Gg,Nat.reduceAdd];rw[sH (by decide),qV (by rw[kA];omega),qV (by rw[kA,kA];omega)];go_simp
  rw[q3];clear q1 q2 q3 q4 o0;obtain⟨o0,q1,q2,q3,q4⟩:=xg 4 (by omega);refine To.op q1 (cU q2 _) (v:=.agg #[.int .i64 x.1,.int .i64 x.2.1,.int .i64 x.2.2]) (w1:=w) ?_ ?_
  ·unfold execOp;rw[q4];simp only[Gg,Nat.reduceAdd];rw[qV (by rw[kA,kA,kA];omega)];go_simp
  rw[q3];clear q1 q2 q3 q4 o0;obtain⟨o,r1,r2,r3,cl,r4,r5,r6⟩:=Ny;refine To.call r1 r2 r4 r5 func15 (by kernel_rfl) rfl ?_ (HQ.out _ (((((hs.put (n:=26) (by decide) _).put (n:=27) (by decide) _).put (n:=28) (by decide) _).put (n:=29) (by decide) _).put (n:=30) (by decide) _));rw[r6];simp only[List.map_toArray,List.map_cons,List.map_nil,Nat.reduceAdd];rw[sH (by decide),sH (by decide),sH (by decide),sH (by decide),qV (by omega),qV (by simp only[kA];omega)]
def R9(gW:ju a sv xb i)(hi:i<=6000000000000)(h:∀a',ju a' sv xb (i+1)->To prog Q (b.at a' Gh) c w):To prog Q ((nvS b a).finish (.bool true)) c w:=by
 obtain⟨o,r1,r2,r3,-⟩:=Ny;rw[dc r1,r3,<-R6];clear r1 r2 r3;have HQ:Hid _:=h;clear h;obtain⟨fv,rfl,t0,t8,t9⟩:=gW.opened;simp only[List.range,List.range.loop,List.map_cons,List.map_nil,t0,t8,t9];clear t0 t8 t9 gW;refine To.Ay fun K hK=>?_;rw[kC];dsimp only[Kn,opsOf,vk,dx,bz,cA,cB,cI,Tryz.f6,Option.getD_some,Act.put];simp only[List.drop];go_wp2_with fail
 refine To.BG fun K hK=>?_;dsimp only[YC,vk,dx,bz,cA,cB,cI,Tryz.f6,Option.getD_some];go_wp2_with fail
 refine .step (fun _=>step_inBlock) (To.BG fun K hK=>?_);dsimp only[vk,dx,bz,cA,cB,cI,Tryz.f6,Option.getD_some];go_wp2_with fail
 refine .step (fun _=>step_inLoop) ?_;exact HQ.out _ ⟨rfl,rfl,rfl,rfl,by simp⟩
def Sa(gW:ju a (.slice a0 T.length cap) xb T.length)(h:∀a',ju a' (.slice a0 T.length cap) xb T.length->To prog Q (b.at a' Gi) c w):To prog Q (b.at a Gh) c w:=by
 have HQ:Hid _:=h;clear h;obtain⟨fv,rfl,t0,t8,t9⟩:=gW.opened;simp only[List.range,List.range.loop,List.map_cons,List.map_nil,t0,t8,t9];clear t0 t8 t9 gW;show To prog _ (b.at _ (.code vk :: [.inLoop vk,.inBlock 0,.code YF])) c w;rw[show (Item.code vk)=Item.code (.seq (.seq (cA (cA vk)) (.cond (.tmp 23) .skip (.exit 0))) (.seq (.block 1 (.seq (.region 8 Kn false) YC)) (cB (cB vk))))from congrArg Item.code Nt];refine .step (fun _=>step_seq) (To.cj fun K hK=>?_);dsimp only[vk,dx,bz,cA,cB,cI,Tryz.f6,Option.getD_some];go_wp2_with fail
 refine .step (fun _=>step_cond (t:=false) rfl) (.step (fun _=>step_exit rfl) (.step (fun _=>step_seq) (.step (fun _=>step_block) (.step (fun _=>step_loop) (HQ.out _ ⟨rfl,rfl,rfl,rfl,rfl⟩)))))
def V3(gW:ju a sv xb i)(x2:w.cell? ⟨xb,2,none⟩=some (.slice av n cv))(hn:0<n)(h:∀a',ju a' sv xb i->To prog Q (Frame.enter prog 16 #[ptr xb,.int .i64 ((0:Nat):Int),.bool false] .normal) (nvT b a' :: c) w):To prog Q (b.at a Gi) c w:=by
 have HQ:Hid _:=h;clear h;refine To.then (Q:=fun fr c' w'=>∃a',ju a' sv xb i/\fr=b.at a' (.code (.seq (.region 12 Ko false) YD):: Zv)/\c'=c/\w'=w) ?_ ?_
 ·obtain⟨fv,rfl,t0,t8,t9⟩:=gW.opened;simp only[List.range,List.range.loop,List.map_cons,List.map_nil,t0,t8,t9];clear t0 t8 t9 gW;show To prog _ (b.at _ (.code AD :: [.inLoop AD,.inBlock 2,.code YE])) c w;rw[show (Item.code AD)=Item.code (.seq (.seq (cA (cA AD)) (.cond (.tmp 39) .skip (.exit 2))) (.block 3 (.seq (.region 12 Ko false) YD)))from congrArg Item.code Nu];refine .step (fun _=>step_seq) (To.cj fun K hK=>?_);have q:(0:Int)< (n:Int):=by omega
  dsimp only[AD,dx,bz,cA,cB,cI,Tryz.f6,Option.getD_some];go_wp2_with fail
  refine .step (fun _=>step_cond (t:=true) rfl) (.step (fun _=>step_skip) (.step (fun _=>step_block) (To.done ⟨_,⟨rfl,rfl,rfl,rfl,rfl⟩,rfl,rfl,rfl⟩)))
 ·rintro _ c' w' ⟨a',hs,rfl,ec,ew⟩;rw[ec,ew];clear ec ew;have ev:∀{t:Act} {j u},t.tmps[j]?=some u->t.eval (.tmp j)=u:=fun{t j u} e=>by simp[Act.eval,Array.getD_eq_getD_getElem?,e]
  refine .step (fun _=>step_seq) (.region ?_);rw[Nw];obtain⟨o0,q1,q2,q3,q4⟩:=Zt;refine To.op q1 (cU q2 _) (run_move q4 _) ?_;rw[q3,ev hs.t8];obtain⟨o,r1,r2,r3,cl,r4,r5,r6⟩:=Nz;refine To.call r1 r2 r4 r5 func16 (by kernel_rfl) rfl ?_ (HQ.out _ (hs.put (n:=40) (by decide) _));have z:=hs.s;rw[r6];simp only[List.map_toArray,List.map_cons,List.map_nil];rw[qV (by omega)];rfl
def NA(gW:ju a sv xb i)(h:∀a',ju a' sv xb i->To prog Q (b.at a' Gi) c w):To prog Q ((nvT b a).finish (.bool true)) c w:=by
 obtain⟨o,r1,r2,r3,-⟩:=Nz;rw[dc r1,r3,<-R7];clear r1 r2 r3;have HQ:Hid _:=h;clear h;obtain⟨fv,rfl,t0,t8,t9⟩:=gW.opened;simp only[List.range,List.range.loop,List.map_cons,List.map_nil,t0,t8,t9];clear t0 t8 t9 gW;refine To.Ay fun K hK=>?_;rw[kC];dsimp only[Ko,opsOf,AD,dx,bz,cA,cB,cI,Tryz.f6,Option.getD_some,Act.put];simp only[List.drop];go_wp2_with fail
 refine To.BG fun K hK=>?_;dsimp only[YD,AD,dx,bz,cA,cB,cI,Tryz.f6,Option.getD_some];go_wp2_with fail
 refine .step (fun _=>step_inBlock) (.step (fun _=>step_inLoop) ?_);exact HQ.out _ ⟨rfl,rfl,rfl,rfl,rfl⟩
def V4(hb:b.fn=6)(hk:b.kind=.normal)(gW:ju a sv xb i)(x2:w.cell? ⟨xb,2,none⟩=some (.slice av 0 cv))(h:∀fr:ak,fr.fn=6->(∀u,fr.leaving prog u (.returned (.bool true)))->To prog Q fr c w):To prog Q (b.at a Gi) c w:=by
 have HQ:Hid _:=h;clear h;obtain⟨fv,rfl,t0,t8,t9⟩:=gW.opened;simp only[List.range,List.range.loop,List.map_cons,List.map_nil,t0,t8,t9];clear t0 t8 t9 gW;show To prog _ (b.at _ (.code AD :: [.inLoop AD,.inBlock 2,.code YE])) c w;rw[show (Item.code AD)=Item.code (.seq (.seq (cA (cA AD)) (.cond (.tmp 39) .skip (.exit 2))) (.block 3 (.seq (.region 12 Ko false) YD)))from congrArg Item.code Nu];refine .step (fun _=>step_seq) (To.cj fun K hK=>?_);dsimp only[AD,dx,bz,cA,cB,cI,Tryz.f6,Option.getD_some];go_wp2_with fail
 refine .step (fun _=>step_cond (t:=false) rfl) (.step (fun _=>step_exit rfl) ?_);refine To.last (R:=fun a' w'=>w'=w/\a'.defers= []/\a'.tmps.getD 6 undef=.bool true) ?_ rfl ?_
 ·dsimp only[YE,dx,bz,cA,cB,Tryz.f6,Option.getD_some];go_wp2_with fail
 ·rintro a' todo w' ⟨rfl,e0,q8⟩;refine HQ.out _ hb fun u=>⟨rfl,e0,hk,Tryz.f6,by show prog.funcs[b.fn]?=_;rw[hb];exact func6,?_⟩
  rw[<-q8];exact results_tmp rfl _ _ _
end
end
section
def V5:∃o,ML[0]?=some o/\o.guard=none/\o.dst=some 12/\o.op=.move (.tmp 1):=by refine⟨(ML[0]?).getD default,?_,?_,?_,?_⟩ <;>kernel_rfl
def Zw:∃o,ML[1]?=some o/\o.guard=none/\o.dst=some 13/\o.op=.move (.tmp 2):=by refine⟨(ML[1]?).getD default,?_,?_,?_,?_⟩ <;>kernel_rfl
def NB:∃o,ML[2]?=some o/\o.guard=none/\o.dst=some 14/\∃cl:Call,o.op=.call cl/\cl.callee=.value (.func 14)/\cl.args=#[.tmp 12,.tmp 13]:=by refine⟨(ML[2]?).getD default,?_,?_,?_,(match ((ML[2]?).getD default).op with|.call cl=>cl|_=>default),?_,?_,?_⟩ <;>kernel_rfl
def NC:List.range ML.size= [0,1,2,3]:=by kernel_rfl
def Sc:List.range' 3 (ML.toList.drop 3).length= [3]:=by kernel_rfl
noncomputable abbrev nvG:Code:=.seq (cA (bz 2 dx)) (.seq (cA (bz 3 dx)) (.seq (.seq (cA (cA (bz 4 dx))) (.block 0 (.loop vk))) YF))
noncomputable abbrev V6(b:ak)(a:Act):ak:=b.at a [.inRegion ML (2 :: [3]),.code nvG]
structure V7(a:Act)(sv:aj):Prop where
 d:a.defers= []
 s:a.tmps.size=44
 t0:a.tmps[0]?=some sv
section
variable {Q:ak->List ak->af->Prop}{b:ak}{a:Act}{c:List ak}{w:af}{xb i:Nat}{sv:aj}
def ND(z1 z2:Int)(h:∀b a,b.fn=6->b.kind=.normal->V7 a sv->To prog Q (Frame.enter prog 14 #[.int .i64 z1,.int .i64 z2] .normal) (V6 b a :: c) w):To prog Q (Frame.enter prog 6 #[sv,.int .i64 z1,.int .i64 z2] .normal) c w:=by
 have HQ:Hid _:=h;clear h;rw[enter_at (body:=dx) func6 rfl,Kq];walk_nrmf ntmps6;refine To.cj fun K hK=>?_;dsimp only[dx,cA,Tryz.f6,Option.getD_some];go_wp2_with fail
 refine .step (fun _=>step_seq) (.region ?_);rw[NC];obtain⟨o0,q1,q2,q3,q4⟩:=V5;refine To.op q1 (cU q2 _) (run_move q4 _) ?_;rw[q3];clear q1 q2 q3 q4 o0;obtain⟨o0,q1,q2,q3,q4⟩:=Zw;refine To.op q1 (cU q2 _) (run_move q4 _) ?_;rw[q3];clear q1 q2 q3 q4 o0;obtain⟨o,r1,r2,r3,cl,r4,r5,r6⟩:=NB;refine To.call r1 r2 r4 r5 func14 (by kernel_rfl) rfl ?_ (HQ.out _ _ rfl rfl ⟨rfl,rfl,rfl⟩);rw[r6];simp only[List.map_toArray,List.map_cons,List.map_nil];rfl
def Sd(hs:V7 a sv)(h:∀a',ju a' sv w.heap.size 0->To prog Q (b.at a' Gh) c (w.alloc (.cells #[ptr sb,.slice none 0 0,.slice none 0 0] 32))):To prog Q ((V6 b a).finish (ptr sb)) c w:=by
 obtain⟨o,r1,r2,r3,-⟩:=NB;rw[dc r1,r3,<-Sc];clear r1 r2 r3;have HQ:Hid _:=h;clear h;obtain⟨tms,w8⟩:=a;obtain⟨hd,hs,t0⟩:=hs;simp only at hd hs t0;subst hd;obtain⟨fv,hT,aL⟩:=DK tms hs;replace t0:=aL 0 _ t0;clear hs aL;simp only[List.range,List.range.loop,List.map_cons,List.map_nil,t0]at hT;subst hT;clear t0;unfold ptr at HQ⊢;refine To.Ay fun K hK=>?_;rw[kC];dsimp only[ML,opsOf,dx,bz,cA,cB,Tryz.f6,Option.getD_some,Act.put];simp only[List.drop];go_wp2_with fail
 refine To.cj fun K hK=>?_;dsimp only[dx,bz,cA,cB,Tryz.f6,Option.getD_some];go_wp2_with fail
 refine To.cj fun K hK=>?_;dsimp only[dx,bz,cA,cB,Tryz.f6,Option.getD_some];go_wp2_with fail
 refine .step (fun _=>step_seq) (To.cj fun K hK=>?_);dsimp only[dx,bz,cA,cB,Tryz.f6,Option.getD_some];go_wp2_with fail
 refine .step (fun _=>step_block) (.step (fun _=>step_loop) ?_);exact HQ.out _ ⟨rfl,rfl,rfl,rfl,rfl⟩
end
section
variable {Q:(Nat->Prop)->ak->List ak->af->Prop}{Sb:Nat->Prop}{W0 W:af}{b:ak}{a:Act}{sb xb m n i:Nat}{a0:Option aA}{cap:Nat}{T:List (Int×Int×Int)}{sv:aj}
def NE(hb:b.fn=6)(hk:b.kind=.normal)(hm:m<=8796093022208):∀(n:Nat) {Sb:Nat->Prop} {W:af} {a:Act},ju a sv xb i->MK W0 sb xb m n Sb W->jI (Se 6 W0) Sb (b.at a Gi) [] W:=by
 intro n;induction n using Nat.strongRecOn with
 |_ n ih=>
  intro Sb W a gW hC;obtain⟨v,w0,hv,hkp,τ,s,A,wv,rv,D,RL,hM,hI,hm',hne,hls⟩:=hC;have FV:∀{v':af},cx Sb v' W->v'.cell? ⟨xb,2,none⟩=some rv:=fun{v'} hv'=>(zc5 (w:=v) (a:=⟨xb,2,none⟩) (by rw[fB hv hv'])).trans (hM.x.cell (o:=2) (v:=rv) rfl);obtain⟨av,cv,FU⟩:=cy hM.lJ;have Kr:∀{v':af},cx Sb v' W->Kp W0 (lY w0.heap.size v'):=fun{v'} hv'=>by have e:=fB hv hv';exact hM.kp hkp (by rw[e];exact zc3 _) (fun k _=>by rw[e]) (hv'.out.trans hv.out.symm) (by rw[hv'.os,hv.os];exact .refl _)
  by_cases h0:RL= []
  ·subst h0;refine jI.walk (R:=fun v fr c w'=>c= []/\fr.fn=6/\(∀u,fr.leaving prog u (.returned (.bool true)))/\w'=v) (fun v fr c w hr=>?_) (fun v' hv'=>V4 hb hk gW (FU▸FV hv') fun fr e1 e2=>To.done ⟨rfl,e1,e2,rfl⟩) (fun v' fr c w W' hv' hr hw=>?_)
   ·obtain⟨rfl,_,h3,_⟩:=hr;intro x hx ch;simp only[List.mem_cons,List.not_mem_nil,or_false]at hx;subst hx;rw[(h3 w).1];simp
   ·obtain⟨rfl,h2,h3,rfl⟩:=hr;have sw:=hM.lone (fB hv hv');have hK:=Kr hv';have z1:=hK.size;have z2:=sw.env.below.size;have z3:=hw.size;refine jI.done ⟨rfl,h2,h3,⟨fun k hk'=>?_,by omega,?_,?_⟩⟩
    ·have ht:=sw.env.lm k (by omega);have hs:¬Sb k:=fun h=>by have:=(sw.zs k h).2;rw[ht]at this;cases this
     rw[<-hw.same k hs,sw.env.below.block k (by omega),hK.blk k hk']
    ·rw[<-hw.out,sw.env.below.output,hK.out]
    ·rw[<-hw.os,sw.env.below.os];exact hK.os
  ·have hl:0<RL.length:=zc8.2 h0;refine jI.walk (R:=fun v fr c w'=>∃a',ju a' sv xb i/\fr=Frame.enter prog 16 #[ptr xb,.int .i64 ((0:Nat):Int),.bool false] .normal/\c= [nvT b a']/\w'=v) (fun v fr c w hr=>?_) (fun v' hv'=>V3 gW (FU▸FV hv') hl fun a' hs'=>To.done ⟨a',hs',rfl,rfl,rfl⟩) (fun v' fr c w W' hv' hr hw=>?_)
   ·obtain⟨a',_,rfl,rfl,_⟩:=hr;rw[enter_at func16 rfl];intro x hx ch;simp only[List.mem_cons,List.not_mem_nil,or_false]at hx;rcases hx with rfl|rfl<;>simp[Frame.at]
   ·obtain⟨a',hs',rfl,rfl,rfl⟩:=hr;refine jI.asks false hw (Kr hv') (hM.lone (fB hv hv')) hI (zc4 hl) hne (by omega) (fun x hx ch=>?_) (fun u ch=>?_) fun Jb W2 Zs=>?_
    ·simp only[List.mem_cons,List.not_mem_nil,or_false]at hx;subst hx;simp[Frame.at]
    ·obtain⟨o,r1,_⟩:=Nz;rw[dc r1];simp[Frame.at]
    ·refine jI.walk (R:=fun u fr c w'=>∃a',ju a' sv xb i/\fr=b.at a' Gi/\c= []/\w'=u) (fun u fr c w' hr=>?_) (fun u hu=>NA hs' fun a2 h2=>To.done ⟨a2,h2,rfl,rfl,rfl⟩) (fun u fr c w' W3 hu hr xf=>?_)
     ·obtain⟨a',_,rfl,rfl,_⟩:=hr;intro x hx ch;simp only[List.mem_cons,List.not_mem_nil,or_false]at hx;subst hx;simp[Frame.at]
     ·obtain⟨a2,h2,rfl,rfl,rfl⟩:=hr;obtain⟨w2,hk2,hL⟩:=Zs.lone hu;exact ih (ql RL) hls h2 (MK.mono ⟨_,w2,xf,hk2,hL⟩ hm')
def NF(hb:b.fn=6)(hk:b.kind=.normal)(hT:wI W0 a0 T)(hl:T.length<=6000000000000):∀(d:Nat) {Sb:Nat->Prop} {W:af} {a:Act} {i n:Nat},d+i=T.length->ju a (.slice a0 T.length cap) xb i->MK W0 sb xb i n Sb W->jI (Se 6 W0) Sb (b.at a Gh) [] W:=by
 intro d;induction d with
 |zero=>
  intro Sb W a i n hi gW hC;rw[Nat.zero_add]at hi;subst hi;refine jI.walk (R:=fun v fr c w'=>∃a',ju a' (.slice a0 T.length cap) xb T.length/\fr=b.at a' Gi/\c= []/\w'=v) (fun v fr c w' hr=>?_) (fun v hv=>Sa gW fun a' h'=>To.done ⟨a',h',rfl,rfl,rfl⟩) (fun v fr c w' W' hv hr hw=>?_)
  ·obtain⟨a',_,rfl,rfl,_⟩:=hr;intro x hx ch;simp only[List.mem_cons,List.not_mem_nil,or_false]at hx;subst hx;simp[Frame.at]
  ·obtain⟨a',h',rfl,rfl,rfl⟩:=hr;obtain⟨w2,hk2,hL⟩:=hC.lone hv;exact NE hb hk (m:=T.length) (by omega) n h' ⟨_,w2,hw,hk2,hL⟩
 |succ d ih=>
  intro Sb W a i n hi gW hC;have hil:i<T.length:=by omega
  have hx:T[i]?=some T[i]:=zc4 hil;obtain⟨ob,oo,-,-,-,-,-,b1,b2,b3,b4⟩:=hT i _ hx;refine jI.walk (R:=fun v fr c w'=>∃a',ju a' (.slice a0 T.length cap) xb i/\fr=Frame.enter prog 15 #[ptr xb,.agg #[.int .i64 T[i].1,.int .i64 T[i].2.1,.int .i64 T[i].2.2]] .normal/\c= [nvS b a']/\w'=v) (fun v fr c w' hr=>?_) (fun v hv=>?_) (fun v fr c w' W' hv hr hw=>?_)
  ·obtain⟨a',_,rfl,rfl,_⟩:=hr;rw[enter_at func15 rfl];intro x hx ch;simp only[List.mem_cons,List.not_mem_nil,or_false]at hx;rcases hx with rfl|rfl<;>simp[Frame.at]
  ·refine R8 gW (fun j x hj=>?_) hx fun a' h'=>To.done ⟨a',h',rfl,rfl,rfl⟩;obtain⟨w2,hk2,τ,s,A,wv,rv,D,RL,hM,-⟩:=hC.lone hv;obtain⟨ob,oo,e,hlt,c0,c1,c2,hb⟩:=hT j x hj;have z1:=hk2.size;have z2:=hM.env.below.size;have he:v.heap[ob]?=W0.heap[ob]? :=(hM.env.below.block ob (by omega)).trans (hk2.blk ob hlt);exact⟨ob,oo,e,by omega,(zc5 (w:=W0) (a:=⟨ob,_,none⟩) he).trans c0,(zc5 (w:=W0) (a:=⟨ob,_,none⟩) he).trans c1,(zc5 (w:=W0) (a:=⟨ob,_,none⟩) he).trans c2,hb⟩
  ·obtain⟨a',h',rfl,rfl,rfl⟩:=hr;obtain⟨w2,hk2,hL⟩:=hC.lone hv;refine jI.Nr ⟨_,w2,hw,hk2,hL⟩ (by omega) _ b1 b2 b3 b4 (fun x hx ch=>?_) (fun u ch=>?_) fun n' Jb W2 Zs=>?_
   ·simp only[List.mem_cons,List.not_mem_nil,or_false]at hx;subst hx;simp[Frame.at]
   ·obtain⟨o,r1,_⟩:=Ny;rw[dc r1];simp[Frame.at]
   ·refine jI.walk (R:=fun u fr c w'=>∃a',ju a' (.slice a0 T.length cap) xb (i+1)/\fr=b.at a' Gh/\c= []/\w'=u) (fun u fr c w' hr=>?_) (fun u hu=>R9 h' (by omega) fun a2 h2=>To.done ⟨a2,h2,rfl,rfl,rfl⟩) (fun u fr c w' W3 hu hr xf=>?_)
    ·obtain⟨a',_,rfl,rfl,_⟩:=hr;intro x hx ch;simp only[List.mem_cons,List.not_mem_nil,or_false]at hx;subst hx;simp[Frame.at]
    ·obtain⟨a2,h2,rfl,rfl,rfl⟩:=hr;obtain⟨w2,hk2,hL⟩:=Zs.lone hu;exact ih (by omega) h2 ⟨_,w2,xf,hk2,hL⟩
def NG{τ:Nat->Tag}{P:Nat}{md:Int}{A:SA}{v v' u:af}(hS:a9 v' τ 2 sb (AE P md) A)(hK:Zx (fun _=>False) v τ wg v')(hv:v.heap=W0.heap)(hvo:v.output=W0.output)(hvs:v.os=W0.os)(hu:u.heap=v'.heap)(huo:u.output=v'.output)(Sf:u.os=v'.os):
 ∃w0,Kp W0 w0/\RE (fun k=>False\/k=wg) w0 sb u.heap.size 0 1 (u.alloc (.cells #[ptr sb,.slice none 0 0,.slice none 0 0] 32)):=by
 obtain⟨k1,k2⟩:=hK.size;have z0:v.heap.size=W0.heap.size:=by rw[hv]
 have zu:u.heap.size=v'.heap.size:=by rw[hu]
 have hbz:(lY W0.heap.size u).heap.size=W0.heap.size:=qU (by omega);refine⟨lY W0.heap.size u,⟨fun k hk=>?_,by omega,?_,?_⟩,fun q=>if q=wg then(0,1,0)else if q=u.heap.size then(1,21,0)else τ q,AE P md,A,.slice none 0 0,.slice none 0 0, [], [],⟨hS.frame fun k hk ht=>⟨?_,?_⟩,⟨⟨rfl,rfl,rfl,by simp;omega,fun k hk=>?_⟩,fun k hk=>?_⟩,fun k hk=>?_,bg.new _ _ _,?_,World.ownsRow_nil _ _ _ _,(fun q hq=>by cases hq),World.ownsRow_nil _ _ _ _,(fun q hq=>by cases hq),fun i d hd=>(by simp at hd),fun R hR=>(by cases hR)⟩,⟨⟨rfl,fun i d hd=>(by simp at hd)⟩,by simp,fun R hR=>(by cases hR),List.nodup_nil,rfl,by simp⟩,by simp[AE],fun R hR=>(by cases hR),by simp[ql]⟩
 ·rw[sE hk,hu,hK.keep k (by omega) id,hv]
 ·show u.output=_;rw[huo,hK.out,hvo]
 ·show ConcM.OsLater _ u.os;rw[Sf,<-hvs];exact hK.os
 ·rw[zc2 _ _ _ (by omega),hu]
 ·have h1:k≠wg:=fun e=>by rw[e,hK.wgt]at ht;cases ht
  rw[if_neg h1,if_neg (by omega)]
 ·rw[hbz]at hk;rw[zc2 _ _ _ (by omega)];exact(sE hk).symm
 ·rw[hbz]at hk;show (if k=wg then _ else if k=u.heap.size then _ else _)=_;rw[if_neg (by omega),if_neg (by omega),hK.lm k (by omega)]
 ·rcases hk with hk|rfl
  ·exact hk.elim
  ·exact⟨by simp;omega,if_pos rfl⟩
 ·show (if u.heap.size=wg then _ else if u.heap.size=u.heap.size then _ else _)=_;rw[if_neg (by omega),if_pos rfl]
end
def Ks(T:List (Int×Int×Int))(hT:wI W a0 T)(hl:T.length<=6000000000000)(z1 z2:Int)(h1: -9223372036854775808<=z1)(h1':z1<=9223372036854775807)(h2: -9223372036854775808<=z2)(h2':z2<=9223372036854775807):
 jI (Se 6 W) (fun _=>False) (Frame.enter prog 6 #[.slice a0 T.length cap,.int .i64 z1,.int .i64 z2] .normal) [] W:=by
 refine jI.walk (R:=fun v fr c w=>∃b a,b.fn=6/\b.kind=.normal/\V7 a (.slice a0 T.length cap)/\fr=Frame.enter prog 14 #[.int .i64 z1,.int .i64 z2] .normal/\c= [V6 b a]/\w=v) (fun v fr c w hr=>?_) (fun v hv=>ND z1 z2 fun b a e1 e2 e3=>To.done ⟨b,a,e1,e2,e3,rfl,rfl,rfl⟩) (fun v fr c w W1 hv hr hw=>?_)
 ·obtain⟨b,a,_,_,_,rfl,rfl,_⟩:=hr;rw[enter_at func14 rfl];intro x hx ch;simp only[List.mem_cons,List.not_mem_nil,or_false]at hx;rcases hx with rfl|rfl<;>simp[Frame.at]
 ·obtain⟨b,a,hb,hk,hs,rfl,rfl,rfl⟩:=hr;refine jI.empty hw z1 z2 h1 h1' h2 h2' (fun x hx ch=>?_) (fun u ch=>?_) fun τ sb wg A v' W2 hv' hS hK=>?_
  ·simp only[List.mem_cons,List.not_mem_nil,or_false]at hx;subst hx;simp[Frame.at]
  ·obtain⟨o,r1,_⟩:=NB;rw[dc r1];simp[Frame.at]
  ·refine jI.walk (R:=fun u fr c w'=>∃a',ju a' (.slice a0 T.length cap) u.heap.size 0/\fr=b.at a' Gh/\c= []/\w'=u.alloc (.cells #[ptr sb,.slice none 0 0,.slice none 0 0] 32)) (fun u fr c w' hr=>?_) (fun u hu=>Sd hs fun a' h'=>To.done ⟨a',h',rfl,rfl,rfl⟩) (fun u fr c w' W3 hu hr xf=>?_)
   ·obtain⟨a',_,rfl,rfl,_⟩:=hr;intro x hx ch;simp only[List.mem_cons,List.not_mem_nil,or_false]at hx;subst hx;simp[Frame.at]
   ·obtain⟨a',h',rfl,rfl,rfl⟩:=hr;obtain⟨w0,Zy,hL⟩:=NG hS hK (NH hv) hv.out hv.os (fB hv' hu) (hu.out.trans hv'.out.symm) (hu.os.trans hv'.os.symm);exact NF hb hk hT hl T.length rfl h' ⟨_,w0,xf,Zy,hL⟩
def DR:prog.inits.idxOf? 6=none:=by kernel_rfl
end
end Go.Proofs.YteoahlieielcdaaGreat
