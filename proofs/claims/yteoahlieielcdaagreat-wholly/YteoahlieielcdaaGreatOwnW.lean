/-
  Wholly (promises P5, P7), at this commit: for every list of numbers and every three numbers the call returns true, and the list reads afterwards as it read before.
  Conditions: none but the form's own reach.
-/
import Derived.Test.YteoahlieielcdaaGreatY9
import Derived.Test.YteoahlieielcdaaGreatL7
set_option linter.all false
set_option maxRecDepth 100000
namespace Go.Proofs.YteoahlieielcdaaGreat
open Go Go.ChangeShapes Go.WideShapes Go.ChangeAt Go.RowKit Go.Conc
theorem AJ(os:Os)(started:os.Started)(H:Type)(enc:TypeId×Value->H)(F:Stop.Interp):
 ReturnsInLeavingWide {calm:=true} Tryz.checked os 8 .any (Rows.whollySpec.pre6 enc Tryz.prog Tryz.f8 Rows.whollyRow.domain false) ((OpenSpec.ofChange Rows.whollySpec).postWith enc Tryz.prog Tryz.f8 F (outsideKept [.timePasses]) false true false):=by
 refine returnsInLeavingWide_of_change_time (C:=Tryz.checked) ZI started Tryz.func8
  (ChangeSpec.witness6c (enc:=enc) (C:=Tryz.checked) ⟨#[],#[.slice none 0 0,.int .i64 0,.int .i64 0,.int .i64 0], []⟩ 8 (by kernel_rfl) (by kernel_rfl) (by kernel_rfl) (by kernel_rfl)) ?_
 intro W base args ds gs before hval hW _ _ _;have hW':=hW;obtain⟨p,q,hA0,hV,rfl,hfz,hnd⟩:=hW;have hA:DataW.TrodAll enc Tryz.prog W 0 (fun _=>true) true Tryz.f8.params.toList args.toList ds p:=hA0;rw[Tryz.params8]at hA hval;obtain⟨v0,vs0,d0,ds0,p0,q0,hargs,rfl,rfl,h0,r0⟩:=trodAll_cons hA;obtain⟨v1,vs1,d1,ds1,p1,q1,aeL,rfl,rfl,h1,r1⟩:=trodAll_cons r0;obtain⟨v2,vs2,d2,ds2,p2,q2,aeM,rfl,rfl,h2,r2⟩:=trodAll_cons r1;obtain⟨v3,vs3,d3,ds3,p3,q3,aeN,rfl,rfl,h3,r3⟩:=trodAll_cons r2;obtain⟨rfl,rfl,rfl⟩:=trodAll_nil r3;obtain rfl:args=#[v0,v1,v2,v3]:=by cases args;simp_all
 obtain⟨rfl,rfl⟩:=trodVars_none hV;obtain⟨a0,Sv,LO,rfl⟩:=okWide_slice Tryz.underlying58 (hval 0 58 v0 rfl rfl);obtain⟨oa,LA,O,he0,hO⟩:=LN h0;simp only[Value.slice.injEq]at he0;obtain⟨rfl,rfl,rfl⟩:=he0;obtain⟨n1,rfl,rfl,rfl,f1⟩:=open_int Tryz.underlying3 (hval 1 3 v1 rfl rfl) h1;obtain⟨n2,rfl,rfl,rfl,f2⟩:=open_int Tryz.underlying3 (hval 2 3 v2 rfl rfl) h2;obtain⟨n3,rfl,rfl,rfl,f3⟩:=open_int Tryz.underlying3 (hval 3 3 v3 rfl rfl) h3;have g1:=qw f1;have g2:=qw f2;have g3:=qw f3;clear hA0;simp only[List.append_nil]at hW';have hlt:∀x∈p0,x.block<W.heap.size:=fun x hx=>by have:=hW'.lt x (by simp[hx]);exact this
 obtain⟨N,gs1,gC,c1,W1,sl1,t1,q1,d1,hrun,hq,hC⟩:=CV W a0 LO O hO n1 n2 n3 g1.1 g1.2 g2.1 g2.2 g3.1 g3.2;obtain⟨N2,last,o,w',t',s1,s2,s3,s4⟩:=AH hq hC sl1 (Post:=fun v W'=>Rows.whollySpec.post enc Tryz.prog Tryz.f8 false true false false W #[.slice a0 O.length LO,.int .i64 n1,.int .i64 n2,.int .i64 n3] v {W' with os:=W.os}/\ConcM.OsLater W.os W'.os) (fun W' hz hB hout hos=>⟨by
  have dP:Below W.heap.size W {W' with os:=W.os,tape:=W.tape}:=⟨rfl,rfl,hout,hz,hB⟩
  have hkb:W.keptBut {W' with os:=W.os} (fun p=>p∈p0/\(p∈([]:List MemPlace)\/p∈p0++ []\/p∈([]:List MemPlace))):=by have h:=dP.frame (fun p=>p∈p0/\(p∈([]:List MemPlace)\/p∈p0++ []\/p∈([]:List MemPlace)));unfold World.keptBut at h⊢;exact h
  refine⟨_,_,_, [],p0++ [], [],hW',?_,?_,rfl,hkb,fun h=>by cases h⟩
  ·exact trodAll_cons_mk (shut_bool Tryz.underlying4 _) trodAll_mk0
  ·exact trodAll_cons_mk (WideElems.Trod_stays (by kernel_rfl) (by kernel_rfl) (of_decide_eq_true (by kernel_rfl)) h0 (fun x hx=>dP.same (hlt x hx)) (fun x hx=>by simpa using hlt x hx)) (trodAll_cons_mk (shut_int Tryz.underlying3 f1) (trodAll_cons_mk (shut_int Tryz.underlying3 f2) (trodAll_cons_mk (shut_int Tryz.underlying3 f3) trodAll_mk0))),hos⟩)
 refine⟨N+N2,last,o,w',t',?_,?_,s3,s4⟩
 ·rw[Nat.add_assoc];exact(mS N _ hrun).trans s1
 ·exact(yN _ hrun).trans s2
theorem wholly_holds:Rows.WhollySaid:=
 OpenClaim.holds_of_wide_leaving_time 8 Tryz.f8 rfl rfl rfl rfl rfl rfl rfl ⟨rfl,rfl,rfl,rfl,rfl⟩ rfl rfl rfl rfl rfl (by kernel_rfl) Tryz.func8 (by kernel_rfl)
  (of_decide_eq_true (by kernel_rfl)) (by unfold Func.isWrapper;first|(rw[if_pos (by decide+kernel)];kernel_rfl)|(rw[if_neg (by decide+kernel)];exact⟨rfl,rfl⟩))
  (fun os started H enc _ F=>AJ os started H enc F)
end Go.Proofs.YteoahlieielcdaaGreat
