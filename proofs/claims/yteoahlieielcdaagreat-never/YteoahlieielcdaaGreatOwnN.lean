/-
  Never (promise P7), at this commit: for every script of steps and every two numbers the call returns true, and the script reads afterwards as it read before.
  Conditions: none but the form's own reach.
-/
import Derived.Test.YteoahlieielcdaaGreatB8
import Derived.Test.YteoahlieielcdaaGreatOwnO
import Derived.Deep.SlicePairs
set_option linter.all false
set_option maxRecDepth 100000
namespace Go.Proofs.YteoahlieielcdaaGreat
open Go.Proofs.Tryz
open Go Go.ChangeShapes Go.WideShapes Go.ChangeAt Go.RowKit Go.Conc Go.Deep
theorem A1:prog.cellsOf 35=3:=by kernel_rfl
theorem Lj:prog.cellsOf 3=1:=by kernel_rfl
theorem Ll:prog.bytesOf 35=24:=by kernel_rfl
section
variable {H:Type}{enc:az×aj->H}{W:af}
/-- one step, opened out of its three cells -/
theorem Lm{n:Nat}{cs:List aj}{y:DataW H×List MemPlace}(h:DataW.trod enc prog W 0 (fun _=>true) true n 35 cs=some y):
 ∃x:Int×Int×Int,cs= [.int .i64 x.1,.int .i64 x.2.1,.int .i64 x.2.2]/\-9223372036854775808<=x.2.1/\x.2.1<=9223372036854775807/\-9223372036854775808<=x.2.2/\x.2.2<=9223372036854775807:=by
 obtain⟨xs,k,_,rfl,hl,hxl,hf⟩:=DataW.trod_struct underlying35 h;rw[A1]at hl;match cs,hl,xs,hxl with
 | [v0,v1,v2],_, [y0,y1,y2],_=>
   have g0:=hf 0 _ rfl;have g1:=hf 1 _ rfl;have g2:=hf 2 _ rfl;simp[Lj]at g0 g1 g2;obtain⟨kd,h0,_,_⟩:=DataW.trod_int underlying3 g0;obtain⟨A,h1,_,w1⟩:=DataW.trod_int underlying3 g1;obtain⟨B,h2,_,w2⟩:=DataW.trod_int underlying3 g2;simp only[List.cons.injEq,and_true]at h0 h1 h2;subst h0 h1 h2;obtain⟨a1,a2⟩:=pY w1;obtain⟨b1,b2⟩:=pY w2;exact⟨(kd,A,B),rfl,a1,a2,b1,b2⟩
theorem G4{a0:Option aA}{len cap:Nat}{d:DataW H}{p:List MemPlace}(h:DataW.Trod enc prog W 0 (fun _=>true) true 25 (.slice a0 len cap) d p)(hw:∀n∈d.weights prog 25,n<=reachBytes):
 ∃T:List (Int×Int×Int),T.length=len/\T.length<=6000000000000/\wI W a0 T:=by
 obtain⟨n,h⟩:=h;rcases open_slice underlying25 (cs:= [.slice a0 len cap]) h with⟨hc,_⟩|⟨a,len',cap',m,n',D,Pl,hc,_,hl,hm,hmm,hx,hall⟩
 ·simp only[List.cons.injEq,and_true,Value.slice.injEq]at hc;obtain⟨rfl,rfl,rfl⟩:=hc;exact⟨[],rfl,Nat.zero_le _,fun i x hx=>(by simp at hx)⟩
 ·simp only[List.cons.injEq,and_true,Value.slice.injEq]at hc;obtain⟨rfl,rfl,rfl⟩:=hc;simp only[if_true]at hmm;simp only[Prod.mk.injEq]at hx;obtain⟨rfl,_⟩:=hx;rw[A1]at hall;have hlen:len<=6000000000000:=by have h1:=hw ((len+(m-len))*24) (by simp only[DataW.weights,underlying25,List.length_map,List.length_range,Ll];exact List.mem_cons_self);unfold reachBytes at h1;omega
  have each:∀i,i<len->∃x:Int×Int×Int,(W.cells? 0 (a.add (i*3)) 3=some [.int .i64 x.1,.int .i64 x.2.1,.int .i64 x.2.2])/\-9223372036854775808<=x.2.1/\x.2.1<=9223372036854775807/\-9223372036854775808<=x.2.2/\x.2.2<=9223372036854775807:=fun i hi=>by obtain⟨cs',h1,h2⟩:=hall i (by omega);obtain⟨x,rfl,hok⟩:=Lm h2;exact⟨x,h1,hok⟩
  obtain⟨f,hf⟩:=choose_lt each;refine⟨(List.range len).map f,by simp,by simpa using hlen,fun i x hx=>?_⟩;have hi:i<len:=by have:=(List.getElem?_eq_some_iff.1 hx).1;simpa using this
  have hx':x=f i:=by simpa[hi]using hx.symm
  subst hx';obtain⟨_,_,hcell⟩:=World.cells?_some (hf i hi).1;obtain⟨b,o,spot⟩:=a;have abJ:spot=none:=by obtain⟨_,_,hc0⟩:=World.cells?_some (hf 0 (by omega)).1;simpa[Addr.add]using World.cell?_spot (hc0 0 (by omega))
  subst abJ;have k0:=hcell 0 (by omega);have k1:=hcell 1 (by omega);have k2:=hcell 2 (by omega);have ad:∀o j:Nat,(⟨b,o,none⟩:aA).add j=⟨b,o+j,none⟩:=fun o j=>by unfold Addr.add;split<;>simp_all
  rw[ad,ad]at k0 k1 k2;exact⟨b,o,rfl,World.block_lt_of_cell? W _ k0,k0,k1,k2,(hf i hi).2⟩
end
theorem Cs(os:Os)(started:os.Started)(H:Type)(enc:az×aj->H)(F:Stop.Interp):
 ReturnsInLeavingWide {calm:=true} Tryz.checked os 6 .any (Rows.neverSpec.pre6 enc prog Tryz.f6 Rows.neverRow.domain false) ((OpenSpec.ofChange Rows.neverSpec).postWith enc prog Tryz.f6 F (outsideKept [.timePasses]) false true false):=by
 refine returnsInLeavingWide_of_change_time (C:=Tryz.checked) aby started func6
  (ChangeSpec.witness6c (enc:=enc) (C:=Tryz.checked) ⟨#[],#[.slice none 0 0,.int .i64 0,.int .i64 0], []⟩ 8 (by kernel_rfl) (by kernel_rfl) (by kernel_rfl) (by kernel_rfl)) ?_
 intro W base args ds gs before hval hW _ hz _;have hW':=hW;obtain⟨p,q,hA0,hV,rfl,hfz,hnd⟩:=hW;have hA:DataW.TrodAll enc prog W 0 (fun _=>true) true Tryz.f6.params.toList args.toList ds p:=hA0;rw[Tryz.params6]at hA hval hz;obtain⟨v0,vs0,d0,ds0,p0,q0,hargs,rfl,rfl,h0,r0⟩:=trodAll_cons hA;obtain⟨v1,vs1,d1,ds1,p1,q1,agr,rfl,rfl,h1,r1⟩:=trodAll_cons r0;obtain⟨v2,vs2,d2,ds2,p2,q2,ags,rfl,rfl,h2,r2⟩:=trodAll_cons r1;obtain⟨rfl,rfl,rfl⟩:=trodAll_nil r2;obtain rfl:args=#[v0,v1,v2]:=by clear hz;cases args;simp_all
 obtain⟨rfl,rfl⟩:=trodVars_none hV;obtain⟨a0,alU,alV,rfl⟩:=okWide_slice underlying25 (hval 0 25 v0 rfl rfl);obtain⟨n1,rfl,rfl,rfl,f1⟩:=open_int underlying3 (hval 1 3 v1 rfl rfl) h1;obtain⟨n2,rfl,rfl,rfl,f2⟩:=open_int underlying3 (hval 2 3 v2 rfl rfl) h2;have g1:=pY f1;have g2:=pY f2;clear hA0;simp only[List.append_nil]at hW' hz;obtain⟨T,rfl,hn,hT⟩:=G4 h0 fun n hn=>by have:=List.all_eq_true.1 hz n (DataW.weights_mem_each (j:=0) (t:=25) (d:=d0) rfl rfl n hn);simpa using this
 have hlt:∀x∈p0,x.block<W.heap.size:=fun x hx=>by have:=hW'.lt x (by simp[hx]);exact this
 refine N8 func6 rfl DR (G5 Cn (b:=0) (by kernel_rfl) (by omega) _ (fun n hn=>by
  have e:uu.vA 6= []:=by kernel_rfl
  rw[e]at hn;cases hn)) (Ks T hT hn n1 n2 g1.1 g1.2 g2.1 g2.2) fun W' hK=>⟨?_,hK.os⟩
 have dQ:Below W.heap.size W {W' with os:=W.os,tape:=W.tape}:=⟨rfl,rfl,hK.out,hK.size,hK.blk⟩
 have hkb:W.keptBut {W' with os:=W.os} (fun p=>p∈p0/\(p∈([]:List MemPlace)\/p∈p0++ []\/p∈([]:List MemPlace))):=by have h:=dQ.frame (fun p=>p∈p0/\(p∈([]:List MemPlace)\/p∈p0++ []\/p∈([]:List MemPlace)));unfold World.keptBut at h⊢;exact h
 refine⟨_,_,_, [],p0++ [], [],hW',?_,?_,rfl,hkb,fun h=>by cases h⟩
 ·exact trodAll_cons_mk (shut_bool underlying4 _) trodAll_mk0
 ·exact trodAll_cons_mk (WideElems.Trod_stays (by kernel_rfl) (by kernel_rfl) (of_decide_eq_true (by kernel_rfl)) h0 (fun x hx=>dQ.same (hlt x hx)) (fun x hx=>by simpa using hlt x hx)) (trodAll_cons_mk (shut_int underlying3 f1) (trodAll_cons_mk (shut_int underlying3 f2) trodAll_mk0))
theorem never_holds:Rows.NeverSaid:=
 OpenClaim.holds_of_wide_leaving_time 6 Tryz.f6 rfl rfl rfl rfl rfl rfl rfl ⟨rfl,rfl,rfl,rfl,rfl⟩ rfl rfl rfl rfl rfl (by kernel_rfl) func6 (by kernel_rfl)
  (of_decide_eq_true (by kernel_rfl)) (by unfold Func.isWrapper;first|(rw[if_pos (by decide+kernel)];kernel_rfl)|(rw[if_neg (by decide+kernel)];exact⟨rfl,rfl⟩))
  (fun os started H enc _ F=>Cs os started H enc F)
end Go.Proofs.YteoahlieielcdaaGreat
