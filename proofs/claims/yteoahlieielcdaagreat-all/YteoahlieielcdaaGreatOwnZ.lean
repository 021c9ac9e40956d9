/-
  All (promises P1 to P7), at this commit: for every script the call returns true, and the script reads afterwards as it read before.
  Conditions: none but the form's own reach.
-/
import Derived.Test.YteoahlieielcdaaGreatLawC
set_option linter.all false
set_option maxRecDepth 100000
namespace Go.Proofs.YteoahlieielcdaaGreat
open Go.Proofs.Tryz
open Go Go.ChangeShapes Go.WideShapes Go.ChangeAt Go.RowKit Go.Conc Go.Deep
theorem IQ(os:Os)(started:os.Started)(H:Type)(enc:az×aj->H)(wv:Stop.Interp):
 ReturnsInLeavingWide {calm:=true} Tryz.checked os 5 .any (Rows.allSpec.pre6 enc prog Tryz.f5 Rows.allRow.domain false) ((OpenSpec.ofChange Rows.allSpec).postWith enc prog Tryz.f5 wv (outsideKept [.timePasses]) false true false):=by
 refine returnsInLeavingWide_of_change_time (C:=Tryz.checked) ab4 started func5
  (ChangeSpec.witness6c (enc:=enc) (C:=Tryz.checked) ⟨#[],#[.slice none 0 0], []⟩ 8 Yl Yl Yl Yl) ?_
 intro W base args ds gs before hval hW _ hz _;have hW':=hW;obtain⟨p,q,hA0,hV,rfl,hfz,hnd⟩:=hW;have hA:DataW.TrodAll enc prog W 0 (λ_=>true) true Tryz.f5.params.toList args.toList ds p:=hA0;rw[Tryz.params5]at hA hval hz;obtain⟨v0,vs0,d0,ds0,p0,q0,hargs,rfl,rfl,h0,r0⟩:=trodAll_cons hA;obtain⟨rfl,rfl,rfl⟩:=trodAll_nil r0;obtain rfl:args=#[v0]:=by clear hz;cases args;simp_all
 obtain⟨rfl,rfl⟩:=trodVars_none hV;obtain⟨a0,len,cap,rfl⟩:=okWide_slice underlying22 (hval 0 22 v0 rfl rfl);clear hA0;simp only[List.append_nil]at hW' hz;have hb:wT 22 d0:=λn hn=>by have:=List.all_eq_true.1 hz n (DataW.weights_mem_each (j:=0) (t:=22) (d:=d0) rfl rfl n hn);simpa using this
 obtain⟨ops,rfl,hn,hO,hok⟩:=Qz h0 hb;have hlt:∀x∈p0,x.block<W.heap.size:=λx hx=>by simpa using hW'.lt x hx
 refine OD func5 rfl Mw (IU Da (b:=0) Yl I _ (λn hn=>by
  have e:vi.wU 5= []:=Yl
  rw[e]at hn;cases hn)) (Ue hn hO hok) λW' hK=>⟨?_,hK.os⟩
 have eH:Below W.heap.size W {W' with os:=W.os,tape:=W.tape}:=⟨rfl,rfl,hK.out,hK.size,hK.blk⟩
 have hkb:W.keptBut {W' with os:=W.os} (λp=>p∈p0/\(p∈([]:List MemPlace)\/p∈p0++ []\/p∈([]:List MemPlace))):=by have h:=eH.frame (λp=>p∈p0/\(p∈([]:List MemPlace)\/p∈p0++ []\/p∈([]:List MemPlace)));unfold World.keptBut at h⊢;exact h
 refine⟨_,_,_, [],p0++ [], [],hW',?_,?_,rfl,hkb,λh=>by cases h⟩
 ·exact trodAll_cons_mk (shut_bool underlying4 _) trodAll_mk0
 ·exact trodAll_cons_mk (WideElems.Trod_stays Yl Yl (of_decide_eq_true Yl) h0 (λx hx=>eH.same (hlt x hx)) (λx hx=>by simpa using hlt x hx)) trodAll_mk0
theorem all_holds:Rows.AllSaid:=
 OpenClaim.holds_of_wide_leaving_time 5 Tryz.f5 rfl rfl rfl rfl rfl rfl rfl ⟨rfl,rfl,rfl,rfl,rfl⟩ rfl rfl rfl rfl rfl Yl func5 Yl
  (of_decide_eq_true Yl) (by unfold Func.isWrapper;first|(rw[if_pos (by decide+kernel)];kernel_rfl)|(rw[if_neg (by decide+kernel)];exact⟨rfl,rfl⟩))
  (λos started H enc _ wv=>IQ os started H enc wv)
end Go.Proofs.YteoahlieielcdaaGreat
