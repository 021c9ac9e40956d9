/-
  Firm (promises P1, P3, P4), at this commit: for every four numbers the call returns true.
  Conditions: none but the form's own reach.
-/
import Derived.Test.YteoahlieielcdaaGreatN13
import Derived.Test.YteoahlieielcdaaGreatOwnO
set_option linter.all false
set_option maxRecDepth 100000
namespace Go.Proofs.YteoahlieielcdaaGreat
open Go Go.ChangeShapes Go.WideShapes Go.ChangeAt Go.RowKit Go.Conc
theorem firm_lifted(os:Os)(started:os.Started)(H:Type)(enc:TypeId×Value->H)(F:Stop.Interp):
 ReturnsInLeavingWide {calm:=true} Tryz.checked os 11 .any (Rows.firmSpec.pre6 enc Tryz.prog Tryz.f11 Rows.firmRow.domain false) ((OpenSpec.ofChange Rows.firmSpec).postWith enc Tryz.prog Tryz.f11 F (outsideKept [.timePasses]) false true false):=by
 refine returnsInLeavingWide_of_change_time (C:=Tryz.checked) ZI started Tryz.func11
  (ChangeSpec.witness6c (enc:=enc) (C:=Tryz.checked) ⟨#[],#[.int .i64 0,.int .i64 0,.int .i64 0,.int .i64 0], []⟩ 8 (by kernel_rfl) (by kernel_rfl) (by kernel_rfl) (by kernel_rfl)) ?_
 intro W base args ds gs before hval hW _ _ _;have hW':=hW;obtain⟨p,q,hA0,hV,rfl,hfz,hnd⟩:=hW;have hA:DataW.TrodAll enc Tryz.prog W 0 (fun _=>true) true Tryz.f11.params.toList args.toList ds p:=hA0;rw[Tryz.params11]at hA hval;obtain⟨v0,vs0,d0,ds0,p0,q0,hargs,rfl,rfl,h0,r0⟩:=trodAll_cons hA;obtain⟨v1,vs1,d1,ds1,p1,q1,aeL,rfl,rfl,h1,r1⟩:=trodAll_cons r0;obtain⟨v2,vs2,d2,ds2,p2,q2,aeM,rfl,rfl,h2,r2⟩:=trodAll_cons r1;obtain⟨v3,vs3,d3,ds3,p3,q3,aeN,rfl,rfl,h3,r3⟩:=trodAll_cons r2;obtain⟨rfl,rfl,rfl⟩:=trodAll_nil r3;obtain rfl:args=#[v0,v1,v2,v3]:=by cases args;simp_all
 obtain⟨rfl,rfl⟩:=trodVars_none hV;obtain⟨n0,rfl,rfl,rfl,f0⟩:=open_int Tryz.underlying3 (hval 0 3 v0 rfl rfl) h0;obtain⟨n1,rfl,rfl,rfl,f1⟩:=open_int Tryz.underlying3 (hval 1 3 v1 rfl rfl) h1;obtain⟨n2,rfl,rfl,rfl,f2⟩:=open_int Tryz.underlying3 (hval 2 3 v2 rfl rfl) h2;obtain⟨n3,rfl,rfl,rfl,f3⟩:=open_int Tryz.underlying3 (hval 3 3 v3 rfl rfl) h3;have g0:=qw f0;have g1:=qw f1;have g2:=qw f2;have g3:=qw f3;clear hA0;simp only[List.append_nil]at hW';obtain⟨N,gs1,gC,c1,W1,sl1,t1,q1,d1,hrun,hq,hC⟩:=firm_first W n0 n1 n2 n3 g0.1 g0.2 g1.1 g1.2 g2.1 g2.2 g3.1 g3.2;obtain⟨N2,last,o,w',t',s1,s2,s3,s4⟩:=firm_second hq hC sl1 (Post:=fun v W'=>Rows.firmSpec.post enc Tryz.prog Tryz.f11 false true false false W #[.int .i64 n0,.int .i64 n1,.int .i64 n2,.int .i64 n3] v {W' with os:=W.os}/\ConcM.OsLater W.os W'.os) (fun W' hz hB hout hos=>⟨by
  have dP:Below W.heap.size W {W' with os:=W.os,tape:=W.tape}:=⟨rfl,rfl,hout,hz,hB⟩
  refine⟨_,_,_, [], [], [],hW',?_,?_,rfl,?_,fun h=>by cases h⟩
  ·exact trodAll_cons_mk (shut_bool Tryz.underlying4 _) trodAll_mk0
  ·exact trodAll_cons_mk (shut_int Tryz.underlying3 f0) (trodAll_cons_mk (shut_int Tryz.underlying3 f1) (trodAll_cons_mk (shut_int Tryz.underlying3 f2) (trodAll_cons_mk (shut_int Tryz.underlying3 f3) trodAll_mk0)))
  ·have h:=dP.frame (fun p=>p∈([]:List MemPlace)/\(p∈([]:List MemPlace)\/p∈([]:List MemPlace)\/p∈([]:List MemPlace)));unfold World.keptBut at h⊢;exact h,hos⟩)
 refine⟨N+N2,last,o,w',t',?_,?_,s3,s4⟩
 ·rw[Nat.add_assoc];exact(mS N _ hrun).trans s1
 ·exact(yN _ hrun).trans s2
theorem firm_holds:Rows.FirmSaid:=
 OpenClaim.holds_of_wide_leaving_time 11 Tryz.f11 rfl rfl rfl rfl rfl rfl rfl ⟨rfl,rfl,rfl,rfl,rfl⟩ rfl rfl rfl rfl rfl (by kernel_rfl) Tryz.func11 (by kernel_rfl)
  (of_decide_eq_true (by kernel_rfl)) (by unfold Func.isWrapper;first|(rw[if_pos (by decide+kernel)];kernel_rfl)|(rw[if_neg (by decide+kernel)];exact⟨rfl,rfl⟩))
  (fun os started H enc _ F=>firm_lifted os started H enc F)
end Go.Proofs.YteoahlieielcdaaGreat
