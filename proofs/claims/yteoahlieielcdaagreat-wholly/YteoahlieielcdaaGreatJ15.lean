import Derived.Test.YteoahlieielcdaaGreatJ12
set_option linter.all false
set_option maxHeartbeats 4000000
set_option maxRecDepth 100000
namespace Go.Proofs.YteoahlieielcdaaGreat
open Go Go.Conc Go.ConcM Go.RowKit
variable {L:eg}{bI:Nat->Goroutine->World->(Nat->Prop)->(Nat->Prop)->Prop}
theorem acV:∃n,∀(O1:au) (W:World) (k:Nat) (O:au) (a:Act) (w:World) (Q:ew),sO a L.Wg->dM L O1 W k (.sp 0) O w->
 cO Tryz.prog true (iQ Tryz.prog L.tw L.Wg bI) (RX L) (DX L) 82 (cA gf) n (aX (fun O' a' w'=>sO a' L.Wg/\dM L O1 W k (.w1) O' w') Q) O a w:=by co_apply Exists.intro;intro O1 W k O a w Q hl hS;dsimp only[oW,gi,gf,cA,cB,cI,cT,cE,Tryz.f82,Option.getD_some];obtain⟨hd,hsz,g0⟩:=hl;obtain⟨fv,hT,aj⟩:=lf hd hsz;subst hT;simp only[aj 0 _ g0];clear hd hsz aj g0;(repeat(first|co_apply aQ|(co_apply aO;try co_then)|(first|co_apply fG (by rfl)|co_apply fH (by rfl))));co_apply jP (n:=0) hS.pos (c':=.w1) (by simp) (by simp) (fun x=>rfl) (fun _ _ _ _ hk _=>stepG_mark0 .disable (by simp) rfl (by rfl) hk rfl Tryz.func107 (by kernel_rfl) (by kernel_rfl) (by kernel_rfl) (by kernel_rfl)) (JO _) rfl (by simp);intro W1 x hR hG;replace hS:=(hS.rely hR).jump (c':=.w1) (bl.refl L.Wg W1) hG;generalize au.jump _ _ _=O2 at hS⊢;clear hR hG;walk_nrm;(repeat(first|co_apply aQ|(co_apply aO;try co_then)|(first|co_apply fG (by rfl)|co_apply fH (by rfl))));exact⟨⟨rfl,rfl,rfl⟩,hS.weak (by omega)⟩
theorem acW:∃n,∀(O1:au) (W:World) (k:Nat) (O:au) (a:Act) (w:World) (Q:ew) (v:Nat),sO a L.Wg->a.tmps[2]?=some (.int .u64 ((v*4294967296+b1 false:Nat):Int))->a.tmps[3]?=some (.int .i32 ((v:Nat):Int))->a.tmps[4]?=some (.int .u32 0)->dM L O1 W k (if v=0 then .ke else .w2 v) O w->
 cO Tryz.prog true (iQ Tryz.prog L.tw L.Wg bI) (RX L) (DX L) 82 (cA (cA (cB (cB (cB gi))))) n (aX (fun O' a' w'=>sO a' L.Wg/\a'.tmps[2]?=some (.int .u64 ((v*4294967296+b1 false:Nat):Int))/\a'.tmps[4]?=some (.int .u32 0)/\a'.tmps[19]?=some (.bool (decide (v=0)))/\dM L O1 W k (if v=0 then .ke else .w2 v) O' w') Q) O a w:=by
 co_apply Exists.intro;intro O1 W k O a w Q v hl h2 h3 h4 hS;dsimp only[oW,gi,gf,cA,cB,cI,cT,cE,Tryz.f82,Option.getD_some];obtain⟨hd,hsz,g0⟩:=hl;obtain⟨fv,hT,aj⟩:=lf hd hsz;subst hT;simp only[aj 0 _ g0,aj 2 _ h2,aj 3 _ h3,aj 4 _ h4];clear hd hsz aj g0 h2 h3 h4;have hb:(((v:Nat):Int)== 0)=decide (v=0):=by by_cases h:v=0<;>simp[h]
 generalize hy:((v*4294967296+b1 false:Nat):Int)=y;generalize hz:((v:Nat):Int)=z at hb⊢;(repeat(first|co_apply aQ|(co_apply aP rfl (by rfl);intro _ hR;replace hS:=hS.rely hR;clear hR;refine⟨by simp[*,go_sem],fun K z=>?_⟩;go_simp;refine z _ ?_;clear z K;try walk_nrm)|(co_apply aO;try co_then)));exact⟨⟨rfl,rfl,rfl⟩,rfl,rfl,rfl,hS⟩
theorem U5:∃n,∀(O1:au) (W:World) (k:Nat) (O:au) (w:World),dM L O1 W k (.sp 0) O w->
 bu Tryz.prog true (iQ Tryz.prog L.tw L.Wg bI) (RX L) (DX L) 82 #[.pointer (some ⟨L.Wg,0,none⟩)] n O w fun O' v w'=>v=.tuple #[]/\dM L O1 W k (.rt) O' w':=by
 obtain⟨n0,h0⟩:=acV (L:=L) (bI:=bI);obtain⟨n1,h1⟩:=acQ (L:=L) (bI:=bI);obtain⟨n2,h2⟩:=acR (L:=L) (bI:=bI);obtain⟨n3,h3⟩:=acS (L:=L) (bI:=bI);obtain⟨n4,h4⟩:=acW (L:=L) (bI:=bI);obtain⟨n5,h5⟩:=acT (L:=L) (bI:=bI);obtain⟨n7,h7⟩:=acU (L:=L) (bI:=bI);obtain⟨n10,JQ⟩:=Yl (L:=L) (bI:=bI);obtain⟨n11,Yt⟩:=Ym (L:=L) (bI:=bI);obtain⟨n13,Yu⟩:=Yo (L:=L) (bI:=bI);obtain⟨n14,U6⟩:=Yn (L:=L) (bI:=bI);obtain⟨n19,Yj⟩:=Yp (L:=L) (bI:=bI);obtain⟨n20,U3⟩:=Yq (L:=L) (bI:=bI);obtain⟨n21,h21⟩:=Yr (L:=L) (bI:=bI);obtain⟨n23,h23⟩:=Ys (L:=L) (bI:=bI);co_apply Exists.intro;intro O1 W k O w hS;co_apply bz Tryz.func82 (by rfl) rfl;walk_nrmf Tryz.ntmps82;change cO Tryz.prog true (iQ Tryz.prog L.tw L.Wg bI) (RX L) (DX L) 82 gf _ _ _ _ _;co_apply ay (ah L) (x:=cA gf) (y:=.block 0 (.loop (.block 1 gi))) _;focus exact h0 O1 W k _ _ _ _ ⟨rfl,rfl,rfl⟩ hS
 rintro O a w ⟨hl,hS⟩;co_apply fJ (ah L);co_apply uN (ah L) (fun O a w=>O.fu<=k/\sO a L.Wg/\dM L O1 W O.fu (.w1) O w) _
 ·exact⟨hS.fu,hl,hS.fr,hS.ok,hS.pos,hS.no,Nat.le_refl _,hS.live⟩
 rintro O a w ⟨hk,hl,hS⟩ hfu;have hQ:Hid (∀O' a' w',a'.defers= []->dM L O1 W O.fu (.rt) O' w'->oF Tryz.prog true (iQ Tryz.prog L.tw L.Wg bI) (RX L) (DX L) 0 82 Tryz.f82 (fun O' v w'=>v=.tuple #[]/\dM L O1 W k (.rt) O' w') O' .ret a' w'):=
  fun O' a' w' hd h=>.inl ⟨hd,_,bP (ah L) (resultsC_none (by rfl) _),rfl,h.weak hk⟩
 generalize hK:O.fu=Kf at hk hS hfu hQ;co_apply fJ (ah L);co_apply ay (ah L) (x:=cA gi) (y:=cB gi) _;focus exact h1 O1 W Kf O a w _ hl hS
 rintro O a w ⟨hl,v,hv,q2,hS⟩;co_apply ay (ah L) (x:=cA (cB gi)) (y:=cB (cB gi)) _;focus exact h2 O1 W (Kf-1) O a w _ v hv hl q2 hS
 rintro O a w ⟨hl,q2,q3,hS⟩;co_apply ay (ah L) (x:=cA (cB (cB gi))) (y:=cB (cB (cB gi))) _;focus exact h3 O1 W (Kf-1) O a w _ v hv hl q2 q3 hS
 rintro O a w ⟨hl,q2,q3,q4,hS⟩;co_apply ay (ah L) (x:=cA (cB (cB (cB gi)))) (y:=cB (cB (cB (cB gi)))) (fun O' a' w'=>sO a' L.Wg/\a'.tmps[2]?=some (.int .u64 ((v*4294967296+b1 false:Nat):Int))/\a'.tmps[4]?=some (.int .u32 0)/\v≠0/\dM L O1 W (Kf-1) (.w2 v) O' w')
 ·co_apply ay (ah L) (x:=cA (cA (cB (cB (cB gi))))) (y:=cB (cA (cB (cB (cB gi))))) _;focus exact h4 O1 W (Kf-1) O a w _ v hl q2 q3 q4 hS
  rintro O a w ⟨hl,q2,q4,q19,hS⟩;have e19:a.eval (.tmp 19)=.bool (decide (v=0)):=by simp[Act.eval,q19]
  co_apply aN (ah L) (t:=decide (v=0)) (x:=cT (cB (cA (cB (cB (cB gi)))))) (y:=.skip) e19
  ·intro h;obtain rfl:v=0:=by simpa using h
   simp only[if_true]at hS;co_apply ay (ah L) (x:=cA (cT (cB (cA (cB (cB (cB gi))))))) (y:=cB (cT (cB (cA (cB (cB (cB gi))))))) _;focus exact h5 O1 W (Kf-1) O a w _ hl hS
   rintro O' a' w' ⟨hl,q2',q4',hS⟩;refine h7 O1 W (Kf-1) O' a' w' _ hl (by rw[q2',q2];rfl) (by rw[q4',q4]) hS ?_;exact fun O' a' w' hd h=>hQ.out O' a' w' hd (h.weak (by omega))
  ·intro h;have hv0:¬v=0:=by simpa using h
   simp only[hv0,if_false]at hS;co_apply iZ (ah L);exact⟨hl,q2,q4,hv0,hS⟩
 rintro O a w ⟨hl,q2,q4,hv0,hS⟩;co_apply ay (ah L) (x:=cA (cB (cB (cB (cB gi))))) (y:=cB (cB (cB (cB (cB gi))))) _;focus exact JQ O1 W (Kf-1) O a w _ v hv hl q2 q4 hS
 rintro O a w ⟨hl,q2,q4,b,q48,hS⟩;have e48:a.eval (.tmp 48)=.bool b:=by simp[Act.eval,q48]
 co_apply aN (ah L) (t:=b) (x:=oW) (y:=.skip) e48
 ·intro h;subst h;simp only[if_true]at hS;co_apply ay (ah L) (x:=cA oW) (y:=cB oW) _;focus exact Yt O1 W (Kf-1) O a w _ hl q4 hS
  rintro O' a' w' ⟨hl,q2',hS⟩;rw[q2]at q2';co_apply ay (ah L) (x:=cA (cB oW)) (y:=cB (cB oW)) _;focus exact Yu O1 W (Kf-1) O' a' w' _ v hl q2' hS
  rintro O a w ⟨hl,q2,hS⟩;co_apply ay (ah L) (x:=cA (cB (cB oW))) (y:=cB (cB (cB oW))) _;focus exact U6 O1 W (Kf-1) O a w _ v hv hl q2 hS
  rintro O a w ⟨hl,hS⟩;co_apply ay (ah L) (x:=cA (cB (cB (cB oW)))) (y:=cB (cB (cB (cB oW)))) _;focus exact Yj O1 W (Kf-1) O a w _ hl hS
  rintro O a w ⟨hl,hS⟩;co_apply ay (ah L) (x:=cA (cB (cB (cB (cB oW))))) (y:=cB (cB (cB (cB (cB oW))))) _;focus exact U3 O1 W (Kf-1) O a w _ hl hS
  rintro O a w ⟨hl,q6,hS⟩;co_apply ay (ah L) (x:=cA (cB (cB (cB (cB (cB oW)))))) (y:=cB (cB (cB (cB (cB (cB oW)))))) _;focus exact h21 O1 W (Kf-1) O a w _ hl q6 hS
  rintro O a w ⟨hl,q6,hS⟩;refine h23 O1 W (Kf-1) O a w _ hl q6 hS ?_;exact fun O' a' w' hd h=>hQ.out O' a' w' hd (h.weak (by omega))
 ·intro h;subst h;simp only[Bool.false_eq_true,if_false]at hS;co_apply iZ (ah L);exact⟨by have:=hS.fu;omega,by have:=hS.fu;omega,hl,hS.fr,hS.ok,hS.pos,hS.no,Nat.le_refl _,hS.live⟩
end Go.Proofs.YteoahlieielcdaaGreat
