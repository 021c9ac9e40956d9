import Derived.Test.YteoahlieielcdaaGreatX4
set_option linter.all false
set_option maxHeartbeats 4000000
set_option maxRecDepth 100000
open Option renaming some->Y,none->F,getD_some->aa0
open Bool renaming false->E,true->Z6
open Exists renaming intro->aa1
open Option.some renaming injEq->ac6
open BitVec renaming ofInt->ad0,toNat_ofNat->ap7
namespace Go.Proofs.YteoahlieielcdaaGreat
open Go.Proofs.Tryz
open Go Go.Conc Go.ConcM Go.RowKit
variable{a:Act}{ds:List Deferred}{f:ay}{fn':Func}
section
variable {L:eI}{bT:Nat->au->af->(Nat->Prop)->(Nat->Prop)->Prop}
def lu(hd:a.defers=ds)(h:a.tmps.size=117):∃f:Nat->aj,a=⟨#[f 0,f 1,f 2,f 3,f 4,f 5,f 6,f 7,f 8,f 9,f 10,f 11,f 12,f 13,f 14,f 15,f 16,f 17,f 18,f 19,f 20,f 21,f 22,f 23,f 24,f 25,f 26,f 27,f 28,f 29,f 30,f 31,f 32,f 33,f 34,f 35,f 36,f 37,f 38,f 39,f 40,f 41,f 42,f 43,f 44,f 45,f 46,f 47,f 48,f 49,f 50,f 51,f 52,f 53,f 54,f 55,f 56,f 57,f 58,f 59,f 60,f 61,f 62,f 63,f 64,f 65,f 66,f 67,f 68,f 69,f 70,f 71,f 72,f 73,f 74,f 75,f 76,f 77,f 78,f 79,f 80,f 81,f 82,f 83,f 84,f 85,f 86,f 87,f 88,f 89,f 90,f 91,f 92,f 93,f 94,f 95,f 96,f 97,f 98,f 99,f 100,f 101,f 102,f 103,f 104,f 105,f 106,f 107,f 108,f 109,f 110,f 111,f 112,f 113,f 114,f 115,f 116],ds⟩/\∀i v,a.tmps[i]?=Y v->f i=v:=vp hd (pG a.tmps 117 h)
structure AL(a:Act)(Wg:Nat)(ds:List Deferred):Prop where
 d:a.defers=ds
 size:a.tmps.size=117
 g0:a.tmps[0]?=Y (.pointer (Y ⟨Wg,0,F⟩))
 g1:a.tmps[1]?=Y (.int .i64 1)
noncomputable def bF:Code:=f117.body.getD .skip
abbrev yF:List Deferred:= [dcall 109 #[]]
def CM(w:af):(callFunc 126 #[]).run prog w=.ok (.value (.bool E)) w:=by rw[run_callFunc_extern func126 Yl Yl Yl (e:=λ_=>pure (.bool E)) Yl];rfl
def Xi:∃n,∀(O1:aL) (W:af) (k r:Nat) (O:aL) (w:af),dZ L O1 W k (.a1 r) O w->
 bG prog Z6 (jc prog L.tw L.Wg bT) (RX L) (DX L) 144 #[.pointer (Y ⟨L.Wg,0,F⟩),.int .u64 4294967296] n O w λO' v w'=>∃v0:Nat,v0<=1000/\v=.int .u64 (((v0+1)*4294967296+b1 E:Nat):Int)/\dZ L O1 W k (if v0=0 then .ar r else .ae r) O' w':=by co_apply aa1;intro O1 W k r O w hS;co_apply bH func144 Ym rfl;walk_nrmf ntmps144;co_apply (eG);intro _ hS;co_apply LJ (n:=0) hS.pos rfl Ym rfl func152 Yl Yl Yl Yl Ym Ym;intro W1 hR v s hv W2 hG hE;replace hS:=(hS.rely hR).jump (c':=if v=0 then .ar r else .ae r) hE hG;generalize aL.jump _ _ _=O2 at hS⊢;clear hR hE hG;generalize hy:(((v+1)*4294967296+b1 E:Nat):Int)=y;walk_nrm;co_apply (eG);intro _ hS;exact .inl ⟨rfl,_,bW (aF L) (resultsC_tmp Ym _),v,hv,by rw[hy];rfl,hS.weak I⟩
def aeX:∃n,∀(O1:aL) (W:af) (k r:Nat) (O:aL) (a:Act) (w:af) (Q:eK),AL a L.Wg []->1<=r->dZ L O1 W k (.sp r) O w->
 cZ prog Z6 (jc prog L.tw L.Wg bT) (RX L) (DX L) 117 (cA bF) n (bn (λO' a' w'=>AL a' L.Wg yF/\dZ L O1 W k (.a1 r) O' w') Q) O a w:=by co_apply aa1;intro O1 W k r O a w Q hl hr hS;dsimp only[bF,cA,cB,cI,cT,cE,f117,aa0];obtain⟨hd,hsz,g0,g1⟩:=hl;obtain⟨fv,hT,aP⟩:=lu hd hsz;subst hT;simp only[aP 0 _ g0,aP 1 _ g1];clear hd hsz aP g0 g1;co_apply (jO);co_apply (Tw);intro _ hS;co_apply (Tw);intro _ hS;co_apply (jO);co_apply kn (n:=0) hS.pos (c':=.a1 r) XI XI (λx=>by simp only[pJ];rw[if_neg I]) (λ_ _ _ _ hk _=>stepG_mark0 .disable XI rfl Ym hk rfl func107 Yl Yl Yl Yl) (KA _) rfl XI;intro W1 x hR hG;replace hS:=(hS.rely hR).jump (c':=.a1 r) (bA.refl L.Wg W1) hG;generalize aL.jump _ _ _=O2 at hS⊢;clear hR hG;walk_nrm;co_apply (jO);co_apply yG (aF L) rfl Ym rfl;walk_nrm;co_apply (jO);exact⟨⟨by simp[yF],rfl,rfl,rfl⟩,hS.weak I⟩
def aeY:∃n,∀(O1:aL) (W:af) (k r:Nat) (O:aL) (a:Act) (w:af) (Q:eK),AL a L.Wg yF->dZ L O1 W k (.a1 r) O w->
 cZ prog Z6 (jc prog L.tw L.Wg bT) (RX L) (DX L) 117 (cA (cB bF)) n (bn (λO' a' w'=>AL a' L.Wg yF/\a'.tmps[4]?=Y (.bool E)/\dZ L O1 W k (.a1 r) O' w') Q) O a w:=by co_apply aa1;intro O1 W k r O a w Q hl hS;dsimp only[bF,cA,cB,cI,cT,cE,f117,aa0];obtain⟨hd,hsz,g0,g1⟩:=hl;obtain⟨fv,hT,aP⟩:=lu hd hsz;subst hT;simp only[aP 0 _ g0,aP 1 _ g1];clear hd hsz aP g0 g1;co_apply (eG);intro _ hS;exact⟨⟨rfl,rfl,rfl,rfl⟩,rfl,hS⟩
def aeZ:∃n,∀(O1:aL) (W:af) (k r:Nat) (O:aL) (a:Act) (w:af) (Q:eK),AL a L.Wg yF->a.tmps[4]?=Y (.bool E)->dZ L O1 W k (.a1 r) O w->
 cZ prog Z6 (jc prog L.tw L.Wg bT) (RX L) (DX L) 117 (cA (cB (cB bF))) n (bn (λO' a' w'=>AL a' L.Wg yF/\a'.tmps[4]?=Y (.bool E)/\dZ L O1 W k (.a1 r) O' w') Q) O a w:=by
 co_apply aa1;intro O1 W k r O a w Q hl h4 hS;have Xj:=CM;dsimp only[bF,cA,cB,cI,cT,cE,f117,aa0];obtain⟨hd,hsz,g0,g1⟩:=hl;obtain⟨fv,hT,aP⟩:=lu hd hsz;subst hT;simp only[aP 0 _ g0,aP 1 _ g1,aP 4 _ h4];clear hd hsz aP g0 g1 h4;co_apply aM (aF L) (λO' a' w'=>AL a' L.Wg yF/\a'.tmps[4]?=Y (.bool E)/\a'.tmps[15]?=Y (.bool E)/\dZ L O1 W k (.a1 r) O' w')
 ·co_apply (jO);(co_apply aO rfl Ym;intro _ hR K hK;replace hS:=dZ.rely hS hR;clear hR;(skip);go_simp;refine hK _ ⟨?_,?_⟩;(focus(rw[tT (evs:=#[]) rfl func126 Yl Yl Yl (e:=λ_=>pure (.bool E)) Yl Ym XI];exact DX.idle _ _));clear hK K;try walk_nrm);co_apply (jO);exact⟨⟨rfl,rfl,rfl,rfl⟩,rfl,rfl,hS⟩
 rintro O a w ⟨hl,h4,h15,hS⟩;have e15:a.eval (.tmp 15)=.bool E:=by simp[Act.eval,h15]
 co_apply tU (aF L) e15;simp only[Bool.false_eq_true,if_false];co_apply jr (aF L);exact⟨hl,h4,hS⟩
def aap:∃n,∀(O1:aL) (W:af) (k r:Nat) (O:aL) (a:Act) (w:af) (Q:eK),AL a L.Wg yF->a.tmps[4]?=Y (.bool E)->dZ L O1 W k (.a1 r) O w->
 cZ prog Z6 (jc prog L.tw L.Wg bT) (RX L) (DX L) 117 (cA (cB (cB (cB bF)))) n (bn (λO' a' w'=>AL a' L.Wg yF/\a'.tmps[4]?=Y (.bool E)/\∃v:Nat,v<=1000/\a'.tmps[6]?=Y (.int .u64 (((v+1)*4294967296+b1 E:Nat):Int))/\dZ L O1 W k (if v=0 then .ar r else .ae r) O' w') Q) O a w:=by obtain⟨nu,hu⟩:=Xi (L:=L) (bT:=bT);co_apply aa1;intro O1 W k r O a w Q hl h4 hS;dsimp only[bF,cA,cB,cI,cT,cE,f117,aa0];obtain⟨hd,hsz,g0,g1⟩:=hl;obtain⟨fv,hT,aP⟩:=lu hd hsz;subst hT;simp only[aP 0 _ g0,aP 1 _ g1,aP 4 _ h4];clear hd hsz aP g0 g1 h4;co_apply (eG);intro _ hS;co_apply bX (aF L) rfl Ym rfl (by walk_nrm;exact hu O1 W k r _ _ hS);rintro O2 x W2 ⟨v,hv,rfl,gN⟩;generalize hy:(((v+1)*4294967296+b1 E:Nat):Int)=y;walk_nrm;co_apply (Zw);intro _ gN;subst hy;exact⟨⟨rfl,rfl,rfl,rfl⟩,rfl,v,hv,rfl,gN⟩
def CN(v m:Nat)(hv:v<=1001)(hm:m<4294967296):bits .and .u64 (((v*4294967296+b1 E:Nat)):Int) (m:Int)=0:=by
 show IntKind.u64.wrap (((ad0 64 ((v*4294967296+b1 E:Nat):Int)&&& ad0 64 (m:Int)).toNat:Nat):Int)=_;have e:(ad0 64 ((v*4294967296+b1 E:Nat):Int)&&& ad0 64 (m:Int)).toNat=0:=by
  have h1:∀q:Nat,ad0 64 (q:Int)=BitVec.ofNat 64 q:=λq=>XI
  rw[h1,h1,BitVec.toNat_and,ap7,ap7,Nat.mod_eq_of_lt (by have hb0:b1 E=0:=rfl;omega),Nat.mod_eq_of_lt I];have h2:(v*4294967296+b1 E &&& m)/ 2 ^ 32=(v*4294967296+b1 E)/ 2 ^ 32 &&& m / 2 ^ 32:=Nat.and_div_two_pow;have h3:(v*4294967296+b1 E &&& m)% 2 ^ 32=(v*4294967296+b1 E)% 2 ^ 32 &&& m % 2 ^ 32:=Nat.and_mod_two_pow;have h4:m / 2 ^ 32=0:=I
  have h5:(v*4294967296+b1 E)% 2 ^ 32=0:=by have hb0:b1 E=0:=rfl;omega
  rw[h4,Nat.and_zero]at h2;rw[h5,Nat.zero_and]at h3;have:=Nat.div_add_mod (v*4294967296+b1 E &&& m) (2 ^ 32);rw[h2,h3]at this;omega
 rw[e];rfl
def aaq:∃n,∀(O1:aL) (W:af) (k r:Nat) (O:aL) (a:Act) (w:af) (Q:eK) (v:Nat),v<=1000->AL a L.Wg yF->a.tmps[4]?=Y (.bool E)->a.tmps[6]?=Y (.int .u64 (((v+1)*4294967296+b1 E:Nat):Int))->dZ L O1 W k (if v=0 then .ar r else .ae r) O w->
 cZ prog Z6 (jc prog L.tw L.Wg bT) (RX L) (DX L) 117 (cA (cB (cB (cB (cB bF))))) n (bn (λO' a' w'=>AL a' L.Wg yF/\a'.tmps[6]?=Y (.int .u64 (((v+1)*4294967296+b1 E:Nat):Int))/\dZ L O1 W k (if v=0 then .ar r else .ae r) O' w') Q) O a w:=by co_apply aa1;intro O1 W k r O a w Q v hv hl h4 h6 hS;dsimp only[bF,cA,cB,cI,cT,cE,f117,aa0];obtain⟨hd,hsz,g0,g1⟩:=hl;obtain⟨fv,hT,aP⟩:=lu hd hsz;subst hT;simp only[aP 0 _ g0,aP 1 _ g1,aP 4 _ h4,aP 6 _ h6];clear hd hsz aP g0 g1 h4 h6;have ha:=CN (v+1) 2147483648 I I;generalize hy:(((v+1)*4294967296+b1 E:Nat):Int)=y at ha⊢;have ha':bits .and .u64 y 2147483648=0:=ha;clear ha;co_apply (eG);intro _ hS;exact⟨⟨rfl,rfl,rfl,rfl⟩,rfl,hS⟩
def aar:∃n,∀(O1:aL) (W:af) (k r:Nat) (O:aL) (a:Act) (w:af) (Q:eK) (v:Nat),v<=1000->AL a L.Wg yF->a.tmps[6]?=Y (.int .u64 (((v+1)*4294967296+b1 E:Nat):Int))->dZ L O1 W k (if v=0 then .ar r else .ae r) O w->
 cZ prog Z6 (jc prog L.tw L.Wg bT) (RX L) (DX L) 117 (cA (cB (cB (cB (cB (cB bF)))))) n (bn (λO' a' w'=>AL a' L.Wg yF/\a'.tmps[6]?=Y (.int .u64 (((v+1)*4294967296+b1 E:Nat):Int))/\a'.tmps[7]?=Y (.int .i32 ((v+1:Nat):Int))/\dZ L O1 W k (if v=0 then .ar r else .ae r) O' w') Q) O a w:=by
 co_apply aa1;intro O1 W k r O a w Q v hv hl h6 hS;dsimp only[bF,cA,cB,cI,cT,cE,f117,aa0];obtain⟨hd,hsz,g0,g1⟩:=hl;obtain⟨fv,hT,aP⟩:=lu hd hsz;subst hT;simp only[aP 0 _ g0,aP 1 _ g1,aP 6 _ h6];clear hd hsz aP g0 g1 h6;have hsh:(((v+1)*4294967296+b1 E:Nat):Int)/ 4294967296=((v+1:Nat):Int):=by have hb0:b1 E=0:=rfl;omega
 have aas:IntKind.i32.wrap ((v+1:Nat):Int)=((v+1:Nat):Int):=wrap32 I;generalize hy:(((v+1)*4294967296+b1 E:Nat):Int)=y at hsh⊢;generalize hz:((v+1:Nat):Int)=z at hsh aas⊢;co_apply (eG);intro _ hS;exact⟨⟨rfl,rfl,rfl,rfl⟩,rfl,rfl,hS⟩
def aat:∃n,∀(O1:aL) (W:af) (k r:Nat) (O:aL) (a:Act) (w:af) (Q:eK) (v:Nat),v<=1000->AL a L.Wg yF->a.tmps[6]?=Y (.int .u64 (((v+1)*4294967296+b1 E:Nat):Int))->a.tmps[7]?=Y (.int .i32 ((v+1:Nat):Int))->dZ L O1 W k (if v=0 then .ar r else .ae r) O w->
 cZ prog Z6 (jc prog L.tw L.Wg bT) (RX L) (DX L) 117 (cA (cB (cB (cB (cB (cB (cB bF))))))) n (bn (λO' a' w'=>AL a' L.Wg yF/\a'.tmps[7]?=Y (.int .i32 ((v+1:Nat):Int))/\a'.tmps[8]?=Y (.int .u32 0)/\dZ L O1 W k (if v=0 then .ar r else .ae r) O' w') Q) O a w:=by co_apply aa1;intro O1 W k r O a w Q v hv hl h6 h7 hS;dsimp only[bF,cA,cB,cI,cT,cE,f117,aa0];obtain⟨hd,hsz,g0,g1⟩:=hl;obtain⟨fv,hT,aP⟩:=lu hd hsz;subst hT;simp only[aP 0 _ g0,aP 1 _ g1,aP 6 _ h6,aP 7 _ h7];clear hd hsz aP g0 g1 h6 h7;have ha:=CN (v+1) 2147483647 I I;generalize hy:(((v+1)*4294967296+b1 E:Nat):Int)=y at ha⊢;have ha':bits .and .u64 y 2147483647=0:=ha;clear ha;co_apply (eG);intro _ hS;exact⟨⟨rfl,rfl,rfl,rfl⟩,rfl,rfl,hS⟩
def aau:∃n,∀(O1:aL) (W:af) (k r:Nat) (O:aL) (a:Act) (w:af) (Q:eK) (v:Nat),v<=1000->AL a L.Wg yF->a.tmps[7]?=Y (.int .i32 ((v+1:Nat):Int))->a.tmps[8]?=Y (.int .u32 0)->dZ L O1 W k (if v=0 then .ar r else .ae r) O w->
 cZ prog Z6 (jc prog L.tw L.Wg bT) (RX L) (DX L) 117 (cA (cB (cB (cB (cB (cB (cB (cB bF)))))))) n (bn (λO' a' w'=>AL a' L.Wg yF/\a'.tmps[7]?=Y (.int .i32 ((v+1:Nat):Int))/\a'.tmps[8]?=Y (.int .u32 0)/\dZ L O1 W k (.ae r) O' w') Q) O a w:=by
 co_apply aa1;intro O1 W k r O a w Q v hv hl h7 h8 hS;dsimp only[bF,cA,cB,cI,cT,cE,f117,aa0];obtain⟨hd,hsz,g0,g1⟩:=hl;obtain⟨fv,hT,aP⟩:=lu hd hsz;subst hT;simp only[aP 0 _ g0,aP 1 _ g1,aP 7 _ h7,aP 8 _ h8];clear hd hsz aP g0 g1 h7 h8;co_apply fJ (v=0)
 ·intro h;subst h;simp only[if_true]at hS;have h01:((0+1:Nat):Int)=1:=rfl;simp only[h01];have hw1:IntKind.i32.wrap 1=1:=rfl;have jd:((1:Int)== 1)=Z6:=rfl;co_apply (eG);intro _ hS;(co_apply aO rfl Ym;intro _ hR K hK;replace hS:=dZ.rely hS hR;clear hR;(obtain⟨cv,hcv⟩:=hS.cell.2;have Xk:=run_convert_to_unsafe (P:=prog) (src:=221) (dst:=208) underlying221 underlying208 Tryz.tR.room_tU32 hcv;have hce:=λes=>events_convert_to_unsafe (P:=prog) (src:=221) (dst:=208) underlying221 underlying208 Tryz.tR.room_tU32 hcv es);go_simp;refine hK _ ⟨?_,?_⟩;(focus(rw[listed_nil (by simp[go_sem,hce])];exact DX.idle _ _));clear hK K;try walk_nrm);co_apply kn (n:=0) hS.pos (c':=.ae r) XI XI (λx=>rfl) (λ_ _ _ _ hk _=>stepG_markAt .read XI rfl Ym hk rfl func145 Yl Yl Yl Yl (ad:=⟨L.Wg,1,F⟩) (by first|(walk_nrm;done)|simp[Act.eval])) (OT _) rfl XI;intro W1 x hR hG;replace hS:=(hS.rely hR).jump (c':=.ae r) (bA.refl L.Wg W1) hG;generalize aL.jump _ _ _=O2 at hS⊢;clear hR hG;walk_nrm;co_apply (jO);exact⟨⟨rfl,rfl,rfl,rfl⟩,rfl,rfl,hS.weak I⟩
 ·intro h;simp only[h,if_false]at hS;have h1:(((v+1:Nat):Int)== 1)=E:=by simp;omega
  have hw1:IntKind.i32.wrap 1=1:=rfl;generalize hz:((v+1:Nat):Int)=z at h1⊢;co_apply (eG);intro _ hS;exact⟨⟨rfl,rfl,rfl,rfl⟩,rfl,rfl,hS⟩
def aav:∃n,∀(O1:aL) (W:af) (k r:Nat) (O:aL) (a:Act) (w:af) (Q:eK) (v:Nat),v<=1000->AL a L.Wg yF->a.tmps[7]?=Y (.int .i32 ((v+1:Nat):Int))->a.tmps[8]?=Y (.int .u32 0)->dZ L O1 W k (.ae r) O w->
 cZ prog Z6 (jc prog L.tw L.Wg bT) (RX L) (DX L) 117 (cA (cB (cB (cB (cB (cB (cB (cB (cB bF))))))))) n (bn (λO' a' w'=>AL a' L.Wg yF/\a'.tmps[7]?=Y (.int .i32 ((v+1:Nat):Int))/\a'.tmps[8]?=Y (.int .u32 0)/\dZ L O1 W k (.ae r) O' w') Q) O a w:=by
 co_apply aa1;intro O1 W k r O a w Q v hv hl h7 h8 hS;dsimp only[bF,cA,cB,cI,cT,cE,f117,aa0];obtain⟨hd,hsz,g0,g1⟩:=hl;obtain⟨fv,hT,aP⟩:=lu hd hsz;subst hT;simp only[aP 0 _ g0,aP 1 _ g1,aP 7 _ h7,aP 8 _ h8];clear hd hsz aP g0 g1 h7 h8;have h1:decide (((v+1:Nat):Int)<0)=E:=by simp;omega
 have h2:¬((v+1:Nat):Int)<0:=I
 generalize hz:((v+1:Nat):Int)=z at h1 h2⊢;co_apply (eG);intro _ hS;exact⟨⟨rfl,rfl,rfl,rfl⟩,rfl,rfl,hS⟩
def aaw:∃n,∀(O1:aL) (W:af) (k r:Nat) (O:aL) (a:Act) (w:af) (Q:eK) (v:Nat),v<=1000->AL a L.Wg yF->a.tmps[7]?=Y (.int .i32 ((v+1:Nat):Int))->a.tmps[8]?=Y (.int .u32 0)->dZ L O1 W k (.ae r) O w->
 cZ prog Z6 (jc prog L.tw L.Wg bT) (RX L) (DX L) 117 (cA (cB (cB (cB (cB (cB (cB (cB (cB (cB bF)))))))))) n (bn (λO' a' w'=>AL a' L.Wg yF/\a'.tmps[7]?=Y (.int .i32 ((v+1:Nat):Int))/\a'.tmps[8]?=Y (.int .u32 0)/\dZ L O1 W k (.ae r) O' w') Q) O a w:=by co_apply aa1;intro O1 W k r O a w Q v hv hl h7 h8 hS;dsimp only[bF,cA,cB,cI,cT,cE,f117,aa0];obtain⟨hd,hsz,g0,g1⟩:=hl;obtain⟨fv,hT,aP⟩:=lu hd hsz;subst hT;simp only[aP 0 _ g0,aP 1 _ g1,aP 7 _ h7,aP 8 _ h8];clear hd hsz aP g0 g1 h7 h8;generalize hz:((v+1:Nat):Int)=z;co_apply (eG);intro _ hS;exact⟨⟨rfl,rfl,rfl,rfl⟩,rfl,rfl,hS⟩
def aax:∃n,∀(O1:aL) (W:af) (k r:Nat) (O:aL) (a:Act) (w:af) (Q:eK) (v:Nat),v<=1000->AL a L.Wg yF->a.tmps[7]?=Y (.int .i32 ((v+1:Nat):Int))->a.tmps[8]?=Y (.int .u32 0)->dZ L O1 W k (.ae r) O w->Hid (∀O' a' w',a'.defers=yF->dZ L O1 W k (.ae r) O' w'->Q O' .ret a' w')->
 cZ prog Z6 (jc prog L.tw L.Wg bT) (RX L) (DX L) 117 (cA (cB (cB (cB (cB (cB (cB (cB (cB (cB (cB bF))))))))))) n (bn (λ_ _ _=>False) Q) O a w:=by
 co_apply aa1;intro O1 W k r O a w Q v hv hl h7 h8 hS hQ;dsimp only[bF,cA,cB,cI,cT,cE,f117,aa0];obtain⟨hd,hsz,g0,g1⟩:=hl;obtain⟨fv,hT,aP⟩:=lu hd hsz;subst hT;simp only[aP 0 _ g0,aP 1 _ g1,aP 7 _ h7,aP 8 _ h8];clear hd hsz aP g0 g1 h7 h8;have h1:decide (((v+1:Nat):Int)> 0)=Z6:=decide_eq_true I;have h2:((v+1:Nat):Int)> 0:=I
 have h3:0< ((v+1:Nat):Int):=I
 generalize hz:((v+1:Nat):Int)=z at h1 h2 h3⊢;co_apply (eG);intro _ hS;exact hQ.out _ _ _ rfl hS
def OV:∃n,∀(O1:aL) (W:af) (k r:Nat) (O:aL) (w:af),1<=r->dZ L O1 W k (.sp r) O w->
 bG prog Z6 (jc prog L.tw L.Wg bT) (RX L) (DX L) 117 #[.pointer (Y ⟨L.Wg,0,F⟩),.int .i64 1] n O w λO' v w'=>v=.tuple #[]/\dZ L O1 W k (.go r) O' w':=by
 obtain⟨n0,h0⟩:=aeX (L:=L) (bT:=bT);obtain⟨n4,h4⟩:=aeY (L:=L) (bT:=bT);obtain⟨n5,h5⟩:=aeZ (L:=L) (bT:=bT);obtain⟨n15,h15⟩:=aap (L:=L) (bT:=bT);obtain⟨n16,h16⟩:=aaq (L:=L) (bT:=bT);obtain⟨n18,h18⟩:=aar (L:=L) (bT:=bT);obtain⟨n19,h19⟩:=aat (L:=L) (bT:=bT);obtain⟨n20,Xl⟩:=aau (L:=L) (bT:=bT);obtain⟨n22,h22⟩:=aav (L:=L) (bT:=bT);obtain⟨n24,h24⟩:=aaw (L:=L) (bT:=bT);obtain⟨n26,h26⟩:=aax (L:=L) (bT:=bT);co_apply aa1;intro O1 W k r O w hr hS;co_apply bH func117 Ym rfl;walk_nrmf ntmps117;change cZ prog Z6 (jc prog L.tw L.Wg bT) (RX L) (DX L) 117 bF _ _ _ _ _;co_apply aM (aF L) (x:=cA bF) (y:=cB bF) _;focus exact h0 O1 W k r _ _ _ _ ⟨rfl,rfl,rfl,rfl⟩ hr hS
 rintro O a w ⟨hl,hS⟩;co_apply aM (aF L) (x:=cA (cB bF)) (y:=cB (cB bF)) _;focus exact h4 O1 W k r _ _ _ _ hl hS
 rintro O a w ⟨hl,q4,hS⟩;co_apply aM (aF L) (x:=cA (cB (cB bF))) (y:=cB (cB (cB bF))) _;focus exact h5 O1 W k r _ _ _ _ hl q4 hS
 rintro O a w ⟨hl,q4,hS⟩;co_apply aM (aF L) (x:=cA (cB (cB (cB bF)))) (y:=cB (cB (cB (cB bF)))) _;focus exact h15 O1 W k r _ _ _ _ hl q4 hS
 rintro O a w ⟨hl,q4,v,hv,q6,hS⟩;co_apply aM (aF L) (x:=cA (cB (cB (cB (cB bF))))) (y:=cB (cB (cB (cB (cB bF))))) _;focus exact h16 O1 W k r _ _ _ _ v hv hl q4 q6 hS
 rintro O a w ⟨hl,q6,hS⟩;co_apply aM (aF L) (x:=cA (cB (cB (cB (cB (cB bF)))))) (y:=cB (cB (cB (cB (cB (cB bF)))))) _;focus exact h18 O1 W k r _ _ _ _ v hv hl q6 hS
 rintro O a w ⟨hl,q6,q7,hS⟩;co_apply aM (aF L) (x:=cA (cB (cB (cB (cB (cB (cB bF))))))) (y:=cB (cB (cB (cB (cB (cB (cB bF))))))) _;focus exact h19 O1 W k r _ _ _ _ v hv hl q6 q7 hS
 rintro O a w ⟨hl,q7,q8,hS⟩;co_apply aM (aF L) (x:=cA (cB (cB (cB (cB (cB (cB (cB bF)))))))) (y:=cB (cB (cB (cB (cB (cB (cB (cB bF)))))))) _;focus exact Xl O1 W k r _ _ _ _ v hv hl q7 q8 hS
 rintro O a w ⟨hl,q7,q8,hS⟩;co_apply aM (aF L) (x:=cA (cB (cB (cB (cB (cB (cB (cB (cB bF))))))))) (y:=cB (cB (cB (cB (cB (cB (cB (cB (cB bF))))))))) _;focus exact h22 O1 W k r _ _ _ _ v hv hl q7 q8 hS
 rintro O a w ⟨hl,q7,q8,hS⟩;co_apply aM (aF L) (x:=cA (cB (cB (cB (cB (cB (cB (cB (cB (cB bF)))))))))) (y:=cB (cB (cB (cB (cB (cB (cB (cB (cB (cB bF)))))))))) _;focus exact h24 O1 W k r _ _ _ _ v hv hl q7 q8 hS
 rintro O a w ⟨hl,q7,q8,hS⟩;co_apply aM (aF L) (n₂:=0) (x:=cA (cB (cB (cB (cB (cB (cB (cB (cB (cB (cB bF))))))))))) (y:=cB (cB (cB (cB (cB (cB (cB (cB (cB (cB (cB bF))))))))))) (λ_ _ _=>False)
 ·refine h26 O1 W k r _ _ _ _ v hv hl q7 q8 hS ?_;intro O' a' w' hd hS;refine .inr (.inr ⟨_,hd,λb todo cs hb w₁ hR c x hp hG _ _ _=>?_⟩);rw[hS.pos]at hp;cases hp;refine⟨XI,XI,XI,λq hq=>?_⟩;simp only[pJ,ac6]at hq;subst hq;refine⟨_,w₁,#[⟨.mark .enable,E,Z6⟩],stepG_unwind_entry (v:=.tuple #[]) hd func109 Yl Yl Yl (e:=λ_=>do mark .enable;pure Extern.Race.none_) Yl (by simp[Extern.Race.none_]) XI XI,⟨hG,bA.refl _ _,Hu _,rfl,rfl,XI⟩,rfl,_,bW (aF L) (resultsC_none Ym _),rfl,?_⟩;exact((hS.rely hR).jump (c':=.go r) (bA.refl _ _) hG).weak I
 ·exact λ_ _ _ h=>h.elim
end
section
section
variable {P:aB}{L:eI}{bT:Nat->au->af->(Nat->Prop)->(Nat->Prop)->Prop}{fn:ay}{Q:eK}{O:aL}{a:Act}{w:af}{n:Nat}{ops:Array Oper}{i:Nat}{rest:List Nat}{o:Oper}{c:Ct}
def yH(hp:O.pos=.mn c)(hgo:∀r,c≠.go r)(nU:c≠.w3)(haq:c≠.aq)(N8:LG c=1){ats:Array az}{x:aD}(ho:ops[i]?=Y o)(hw:Region.wanted o (yielded ops a.tmps)=Z6)(hop:o.op=.call {callee:=.value (.func f),args:=#[x],argTypes:=ats})
 (hf:P.funcs[f]?=Y fn') (hname:(fn'.name == "runtime.NumGoroutine")=E) (hb:fn'.body.isNone=Z6) (hn:Extern.findNext fn'=F) (he:Extern.find fn'=Y (Extern.Atomic.loadT (.int .u64)))
 (hx:a.eval x=.pointer (Y ⟨L.Wg,0,F⟩)) {n1:Nat} (qM:∀z r,pJ c z=Y r->r.2=z/\LG r.1=1)
 (k1:∀w₁,RX L O w w₁->∀z r,z.v<=1000->(c.open=Z6->z.wt=E)->pJ c z=Y r->bZ L.tw L.Wg z w₁->bQ P Z6 (jc P L.tw L.Wg bT) (RX L) (DX L) fn ops rest n1 Q (O.jump O.own (.mn r.1)) (a.put o.dst (.int .u64 ((z.v*4294967296+b1 z.wt:Nat):Int))) w₁):
 bQ P Z6 (jc P L.tw L.Wg bT) (RX L) (DX L) fn ops (i :: rest) n Q O a w:=by
 refine tS hp hgo (λe=>by subst e;cases N8) λb k cs hb' hk w₁ z hR hM h3 h4 h5=>⟨λe=>absurd e nU,λr hr=>?_⟩
 obtain⟨e1,e2⟩:=qM z r hr;have hst:=stepG_load_atomic (main:=Z6) (b:=b) (kk:=k) (cs:=cs) (rest:=rest) ho hw hk hop hf hname hb hn .u64 he hx hM.word;exact⟨_,w₁,_,n1,hst,by rw[e1];exact hM,bA.refl _ _,VR _ 0,by rw[N8,e2];rfl,λe=>absurd e haq,k1 w₁ hR z r h3 h5 hr hM⟩
def LK{vs:Nat}(hvs:vs<=1000)(hp:O.pos=.mn (.w2 vs)){ats:Array az}{x y z:aD}(ho:ops[i]?=Y o)(hw:Region.wanted o (yielded ops a.tmps)=Z6)(hop:o.op=.call {callee:=.value (.func f),args:=#[x,y,z],argTypes:=ats})
 (hf:P.funcs[f]?=Y fn') (hname:(fn'.name == "runtime.NumGoroutine")=E) (hb:fn'.body.isNone=Z6) (hn:Extern.findNext fn'=F) (he:Extern.find fn'=Y (Extern.Atomic.casT (.int .u64)))
 (hx:a.eval x=.pointer (Y ⟨L.Wg,0,F⟩)) (hy:a.eval y=.int .u64 ((vs*4294967296+b1 E:Nat):Int)) (hz:a.eval z=.int .u64 ((vs*4294967296+b1 Z6:Nat):Int)) {n1:Nat}
 (k1:∀w₁,RX L O w w₁->∀b:Bool,∀w' z',bZ L.tw L.Wg z' w'->bA L.Wg w₁ w'->bQ P Z6 (jc P L.tw L.Wg bT) (RX L) (DX L) fn ops rest n1 Q (O.jump O.own (.mn (if b then .SM else .w1))) (a.put o.dst (.bool b)) w'):
 bQ P Z6 (jc P L.tw L.Wg bT) (RX L) (DX L) fn ops (i :: rest) n Q O a w:=by
 refine tS hp XI XI λb k cs hb' hk w₁ g hR hM h3 h4 h5=>⟨XI,λr hr=>?_⟩
 have hwt:=h5 rfl;obtain⟨v,wt,s⟩:=g;simp only at hwt h3;subst hwt;simp only[pJ,ac6]at hr;by_cases hv:v=vs
 ·subst hv;simp only[if_true]at hr;subst hr;have hst:=stepG_cas_hit (main:=Z6) (b:=b) (kk:=k) (cs:=cs) (rest:=rest) ho hw hk hop hf hname hb hn .u64 he hx hy hz hM.word (hM.thaw 0);have hG:bZ L.tw L.Wg ⟨v,Z6,s⟩ (w₁.setCell ⟨L.Wg,0,F⟩ (.int .u64 ((v*4294967296+b1 Z6:Nat):Int))):=hM.nZ (y:=⟨v,Z6,s⟩) rfl;exact⟨_,_,_,n1,hst,hG,bA.set _ _ _ _ I,OU _ 0,rfl,XI,k1 w₁ hR Z6 _ _ hG (bA.set _ _ _ _ I)⟩
 ·simp only[hv,if_false]at hr;subst hr;have hne:¬((v*4294967296+b1 E:Nat):Int)=((vs*4294967296+b1 E:Nat):Int):=I
  have hst:=stepG_cas_miss (main:=Z6) (b:=b) (kk:=k) (cs:=cs) (rest:=rest) ho hw hk hop hf hname hb hn .u64 he hx hy hz hM.word (hM.thaw 0) hne;exact⟨_,_,_,n1,hst,hM,bA.refl _ _,VR _ 0,rfl,XI,k1 w₁ hR E _ _ hM (bA.refl _ _)⟩
def LM(hp:O.pos=.mn .w3){ats:Array az}{xs:Array aD}(ho:ops[i]?=Y o)(hw:Region.wanted o (yielded ops a.tmps)=Z6)(hop:o.op=.call {callee:=.value (.func f),args:=xs,argTypes:=ats})
 (hf:P.funcs[f]?=Y fn') (hname:(fn'.name == "runtime.NumGoroutine")=E) (hb:fn'.body.isNone=Z6) (hn:Extern.findNext fn'=F) (he:Extern.find fn'=Y Extern.Sync.semacquire)
 (hx:(xs.map a.eval)[0]?=Y (.pointer (Y ⟨L.Wg,1,F⟩))) {n1:Nat}
 (k1:∀w₁,RX L O w w₁->∀w' z',bZ L.tw L.Wg z' w'->bA L.Wg w₁ w'->bQ P Z6 (jc P L.tw L.Wg bT) (RX L) (DX L) fn ops rest n1 Q (O.jump O.own (.mn .w4)) (a.put o.dst (.tuple #[])) w'):
 bQ P Z6 (jc P L.tw L.Wg bT) (RX L) (DX L) fn ops (i :: rest) n Q O a w:=by
 refine tS hp XI XI λb k cs hb' hk w₁ g hR hM h3 h4 h5=>⟨λ_ h0=>?_,λr hr=>?_⟩
 ·have hs:=hM.sema;rw[h0]at hs;exact stepG_semacquire_wait ho hw hop hf hname hb hn he hx hs
 ·obtain⟨v,wt,s⟩:=g;simp only[pJ]at hr;split at hr
  ·cases hr
  rename_i hs;simp only[ac6]at hr;subst hr;have hst:=stepG_semacquire (main:=Z6) (b:=b) (kk:=k) (cs:=cs) (rest:=rest) ho hw hk hop hf hname hb hn he hx hM.sema Yn (hM.thaw 1);have e:(((s:Nat):Int)-1)=((s-1:Nat):Int):=I
  simp only at hst;rw[e]at hst;have hG:bZ L.tw L.Wg ⟨v,wt,s-1⟩ (w₁.setCell ⟨L.Wg,1,F⟩ (.int .u32 ((s-1:Nat):Int))):=hM.tP (y:=⟨v,wt,s-1⟩) rfl rfl;exact⟨_,_,_,n1,hst,hG,bA.set _ _ _ _ I,Tv _ 1,rfl,XI,k1 w₁ hR _ _ hG (bA.set _ _ _ _ I)⟩
end
variable {L:eI}{bT:Nat->au->af->(Nat->Prop)->(Nat->Prop)->Prop}
def lz(hd:a.defers=ds)(h:a.tmps.size=84):∃f:Nat->aj,a=⟨#[f 0,f 1,f 2,f 3,f 4,f 5,f 6,f 7,f 8,f 9,f 10,f 11,f 12,f 13,f 14,f 15,f 16,f 17,f 18,f 19,f 20,f 21,f 22,f 23,f 24,f 25,f 26,f 27,f 28,f 29,f 30,f 31,f 32,f 33,f 34,f 35,f 36,f 37,f 38,f 39,f 40,f 41,f 42,f 43,f 44,f 45,f 46,f 47,f 48,f 49,f 50,f 51,f 52,f 53,f 54,f 55,f 56,f 57,f 58,f 59,f 60,f 61,f 62,f 63,f 64,f 65,f 66,f 67,f 68,f 69,f 70,f 71,f 72,f 73,f 74,f 75,f 76,f 77,f 78,f 79,f 80,f 81,f 82,f 83],ds⟩/\∀i v,a.tmps[i]?=Y v->f i=v:=vp hd (pG a.tmps 84 h)
def OW:∃n,∀(O1:aL) (W:af) (k:Nat) (O:aL) (w:af),dZ L O1 W k (.w1) O w->
 bG prog Z6 (jc prog L.tw L.Wg bT) (RX L) (DX L) 121 #[.pointer (Y ⟨L.Wg,0,F⟩)] n O w λO' v w'=>∃v0:Nat,v0<=1000/\v=.int .u64 ((v0*4294967296+b1 E:Nat):Int)/\dZ L O1 W (k-1) (if v0=0 then .ke else .w2 v0) O' w':=by co_apply aa1;intro O1 W k O w hS;co_apply bH func121 Ym rfl;walk_nrmf ntmps121;co_apply (eG);intro _ hS;co_apply yH (n:=0) hS.pos XI XI XI rfl rfl Ym rfl func148 Yl Yl Yl Yl Ym (λz r hr=>by simp only[pJ,ac6]at hr;subst hr;exact⟨rfl,by by_cases h:z.v=0<;>simp[h,LG]⟩);intro W1 hR z r hz hwt hr hG;have hwt:=hwt rfl;obtain⟨v,wt,s⟩:=z;simp only at hwt hz;subst hwt;simp only[pJ,ac6]at hr;subst hr;replace hS:=(hS.rely hR).jump (c':=if v=0 then .ke else .w2 v) (bA.refl L.Wg W1) hG;simp only;generalize aL.jump _ _ _=O2 at hS⊢;clear hR hG;generalize hy:((v*4294967296+b1 E:Nat):Int)=y;walk_nrm;co_apply (eG);intro _ hS;exact .inl ⟨rfl,_,bW (aF L) (resultsC_tmp Ym _),v,hz,by rw[hy];rfl,hS⟩
def OX:∃n,∀(O1:aL) (W:af) (k:Nat) (O:aL) (w:af),dZ L O1 W k (.w4) O w->
 bG prog Z6 (jc prog L.tw L.Wg bT) (RX L) (DX L) 121 #[.pointer (Y ⟨L.Wg,0,F⟩)] n O w λO' v w'=>v=.int .u64 0/\dZ L O1 W k (.ke) O' w':=by
 co_apply aa1;intro O1 W k O w hS;co_apply bH func121 Ym rfl;walk_nrmf ntmps121;co_apply (eG);intro _ hS;co_apply yH (n:=0) hS.pos XI XI XI rfl rfl Ym rfl func148 Yl Yl Yl Yl Ym (λz r hr=>by simp only[pJ]at hr;split at hr<;>simp at hr;subst hr;exact⟨rfl,rfl⟩);intro W1 hR z r hz hwt hr hG;obtain⟨v,wt,s⟩:=z;simp only[pJ]at hr;split at hr
 ·rename_i h0;obtain⟨rfl,rfl⟩:=h0;simp only[ac6]at hr;subst hr;replace hS:=(hS.rely hR).jump (c':=.ke) (bA.refl L.Wg W1) hG;simp only;generalize aL.jump _ _ _=O2 at hS⊢;clear hR hG hwt;have h0:((0*4294967296+b1 E:Nat):Int)=0:=rfl;simp only[h0];walk_nrm;co_apply (eG);intro _ hS;exact .inl ⟨rfl,_,bW (aF L) (resultsC_tmp Ym _),rfl,hS.weak I⟩
 ·cases hr
def Xm:∃n,∀(O1:aL) (W:af) (k vs:Nat) (O:aL) (w:af),vs<=1000->dZ L O1 W k (.w2 vs) O w->
 bG prog Z6 (jc prog L.tw L.Wg bT) (RX L) (DX L) 123 #[.pointer (Y ⟨L.Wg,0,F⟩),.int .u64 ((vs*4294967296+b1 E:Nat):Int),.int .u64 ((vs*4294967296+b1 Z6:Nat):Int)] n O w λO' v w'=>∃b:Bool,v=.bool b/\dZ L O1 W k (if b then .SM else .w1) O' w':=by co_apply aa1;intro O1 W k vs O w hvs hS;co_apply bH func123 Ym rfl;walk_nrmf ntmps123;generalize hy:((vs*4294967296+b1 E:Nat):Int)=y;generalize hz:((vs*4294967296+b1 Z6:Nat):Int)=z;co_apply (eG);intro _ hS;co_apply LK (n:=0) hvs hS.pos rfl Ym rfl func149 Yl Yl Yl Yl Ym (by rw[hy];rfl) (by rw[hz];rfl);intro W1 hR b W2 z' hG hE;replace hS:=(hS.rely hR).jump (c':=if b then .SM else .w1) hE hG;generalize aL.jump _ _ _=O2 at hS⊢;clear hR hG hE;walk_nrm;co_apply (eG);intro _ hS;exact .inl ⟨rfl,_,bW (aF L) (resultsC_tmp Ym _),b,rfl,hS.weak I⟩
end
end Go.Proofs.YteoahlieielcdaaGreat
