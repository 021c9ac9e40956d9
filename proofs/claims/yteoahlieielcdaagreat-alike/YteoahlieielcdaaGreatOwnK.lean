/-
  Alike (promises P6, P7), at this commit: for every five numbers the call returns true.
  Conditions: none but the form's own reach.
-/
import Derived.Test.YteoahlieielcdaaGreatA4
import Derived.Test.YteoahlieielcdaaGreatOwnO
set_option linter.all false
set_option maxRecDepth 100000
namespace Go.Proofs.YteoahlieielcdaaGreat
open Go.Proofs.Tryz
open Go Go.ChangeShapes Go.WideShapes Go.ChangeAt Go.RowKit Go.Conc
theorem alike_lifted(os:Os)(started:os.Started)(H:Type)(enc:TypeId×Value->H)(F:Stop.Interp):
 ReturnsInLeavingWide {calm:=true} Tryz.checked os 7 .any (Rows.alikeSpec.pre6 enc prog Tryz.f7 Rows.alikeRow.domain false) ((OpenSpec.ofChange Rows.alikeSpec).postWith enc prog Tryz.f7 F (outsideKept [.timePasses]) false true false):=by
 refine returnsInLeavingWide_of_change_time (C:=Tryz.checked) ZI started func7
  (ChangeSpec.witness6c (enc:=enc) (C:=Tryz.checked) ⟨#[],#[.int .i64 0,.int .i64 0,.int .i64 0,.int .i64 0,.int .i64 0], []⟩ 8 (by kernel_rfl) (by kernel_rfl) (by kernel_rfl) (by kernel_rfl)) ?_
 intro W base args ds gs before hval hW _ _ _;have hW':=hW;obtain⟨p,q,hA0,hV,rfl,hfz,hnd⟩:=hW;have hA:DataW.TrodAll enc prog W 0 (fun _=>true) true Tryz.f7.params.toList args.toList ds p:=hA0;rw[Tryz.params7]at hA hval;obtain⟨v0,vs0,d0,ds0,p0,q0,hargs,rfl,rfl,h0,r0⟩:=trodAll_cons hA;obtain⟨v1,vs1,d1,ds1,p1,q1,aeL,rfl,rfl,h1,r1⟩:=trodAll_cons r0;obtain⟨v2,vs2,d2,ds2,p2,q2,aeM,rfl,rfl,h2,r2⟩:=trodAll_cons r1;obtain⟨v3,vs3,d3,ds3,p3,q3,aeN,rfl,rfl,h3,r3⟩:=trodAll_cons r2;obtain⟨v4,vs4,d4,ds4,p4,q4,hargs4,rfl,rfl,h4,r4⟩:=trodAll_cons r3;obtain⟨rfl,rfl,rfl⟩:=trodAll_nil r4;obtain rfl:args=#[v0,v1,v2,v3,v4]:=by cases args;simp_all
 obtain⟨rfl,rfl⟩:=trodVars_none hV;obtain⟨n0,rfl,rfl,rfl,f0⟩:=open_int underlying3 (hval 0 3 v0 rfl rfl) h0;obtain⟨n1,rfl,rfl,rfl,f1⟩:=open_int underlying3 (hval 1 3 v1 rfl rfl) h1;obtain⟨n2,rfl,rfl,rfl,f2⟩:=open_int underlying3 (hval 2 3 v2 rfl rfl) h2;obtain⟨n3,rfl,rfl,rfl,f3⟩:=open_int underlying3 (hval 3 3 v3 rfl rfl) h3;obtain⟨n4,rfl,rfl,rfl,f4⟩:=open_int underlying3 (hval 4 3 v4 rfl rfl) h4;have g0:=qw f0;have g1:=qw f1;have g2:=qw f2;have g3:=qw f3;have g4:=qw f4;clear hA0;simp only[List.append_nil]at hW';refine cto_ends func7 rfl alike_inits (Ii CR (b:=0) (by kernel_rfl) (by omega) _ (fun n hn=>by
  have e:w7.vY 7= []:=by kernel_rfl
  rw[e]at hn;cases hn)) (alike_all n0 n1 n2 n3 n4 g0.1 g0.2 g1.1 g1.2 g2.1 g2.2 g3.1 g3.2 g4.1 g4.2) fun W' hK=>⟨?_,hK.os⟩
 have dP:Below W.heap.size W {W' with os:=W.os,tape:=W.tape}:=⟨rfl,rfl,hK.out,hK.size,hK.blk⟩
 refine⟨_,_,_, [], [], [],hW',?_,?_,rfl,?_,fun h=>by cases h⟩
 ·exact trodAll_cons_mk (shut_bool underlying4 _) trodAll_mk0
 ·exact trodAll_cons_mk (shut_int underlying3 f0) (trodAll_cons_mk (shut_int underlying3 f1) (trodAll_cons_mk (shut_int underlying3 f2) (trodAll_cons_mk (shut_int underlying3 f3) (trodAll_cons_mk (shut_int underlying3 f4) trodAll_mk0))))
 ·have h:=dP.frame (fun p=>p∈([]:List MemPlace)/\(p∈([]:List MemPlace)\/p∈([]:List MemPlace)\/p∈([]:List MemPlace)));unfold World.keptBut at h⊢;exact h
theorem alike_holds:Rows.AlikeSaid:=
 OpenClaim.holds_of_wide_leaving_time 7 Tryz.f7 rfl rfl rfl rfl rfl rfl rfl ⟨rfl,rfl,rfl,rfl,rfl⟩ rfl rfl rfl rfl rfl (by kernel_rfl) func7 (by kernel_rfl)
  (of_decide_eq_true (by kernel_rfl)) (by unfold Func.isWrapper;first|(rw[if_pos (by decide+kernel)];kernel_rfl)|(rw[if_neg (by decide+kernel)];exact⟨rfl,rfl⟩))
  (fun os started H enc _ F=>alike_lifted os started H enc F)
end Go.Proofs.YteoahlieielcdaaGreat
