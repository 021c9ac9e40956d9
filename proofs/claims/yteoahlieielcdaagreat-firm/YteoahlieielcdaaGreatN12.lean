import Derived.Test.YteoahlieielcdaaGreatN11
import Derived.Test.YteoahlieielcdaaGreatN9
import Derived.Test.YteoahlieielcdaaGreatF5
set_option linter.all false
set_option maxHeartbeats 40000000
set_option maxRecDepth 100000
namespace Go.Proofs.YteoahlieielcdaaGreat
open Go Go.RowKit Go.MuLone Go.Conc
abbrev zch:=@List.getElem?_eq_getElem
abbrev zci:=@List.mem_of_getElem?
variable{L:List ByteArray}{x:ByteArray}{j q P ab:Nat}{ms:List Int}{w:World}{τ:Nat->Tag}{bf:Nat->Nat}{A:SA}
section
theorem E7(n:Nat)(h:x∈L):(aS L n).find? (fun y=>decide (y.1=x))=some (x,x++oM n):=by
 induction L with
 |nil=>cases h
 |cons y L ih=>
  show ((y,y++oM n):: aS L n).find? _=_;by_cases e:y=x
  ·subst e;simp
  ·rw[List.find?_cons_of_neg (by simpa using e)];exact ih (by rcases List.mem_cons.1 h with h|h;exact absurd h.symm e;exact h)
theorem vX(P:Int)(L:List ByteArray)(n:Nat)(q:Int):aZ P (aS L n) q=aS (L.filter (fun x=>decide (partOf P x=q))) n:=by
 unfold aZ aS;induction L with
 |nil=>rfl
 |cons y L ih=>
  simp only[List.map_cons,List.filter_cons];by_cases e:partOf P y=q
  ·simp[e,ih]
  ·simp[e,ih]
theorem J9{vl:Int->List KV}{x:ByteArray}{V:Int}(h0:0<=V):∀(ms:List Int) (g:Int),g<=V->(∀m∈ms,aH (vl m) x=true->m<=V)->(g=V\/(V∈ms/\aH (vl V) x=true))->ms.foldl (fun g m=>if aH (vl m) x then(if m > g then m else g)else g) g=V
 | [],g,hg,_,hV=>by rcases hV with h|⟨h,_⟩;exact h;cases h
 |m :: ms,g,hg,hm,hV=>by
  show ms.foldl _ (if aH (vl m) x then(if m > g then m else g)else g)=V;have h1:=hm m (by simp);refine J9 h0 ms _ ?_ (fun m' h'=>hm m' (by simp[h'])) ?_
  ·split
   ·rename_i hk;have:=h1 hk;split<;>omega
   ·exact hg
  ·rcases hV with h|⟨h,hk⟩
   ·left;split
    ·rename_i hk;have:=h1 hk;split<;>omega
    ·exact h
   ·rcases List.mem_cons.1 h with h|h
    ·left;subst h;rw[if_pos hk];split<;>omega
    ·exact .inr ⟨h,hk⟩
section
variable {P:Nat}{M:Int}{bf:Nat->Nat}{k:Nat}{rs:List MR}
theorem E8(hj:j<k):bF (nJ P M bf k rs) ((2*j+2:Nat):Int)=some (El P (bf j) (2*j+2)):=by
 have h1:=(xJ (P:=P) (bf:=bf) hj).2;have h2:(nJ P M bf k rs).ws.length=2*k:=tF;have e:(((2*j+2:Nat):Int)-1).toNat=2*j+1:=by omega
 unfold bF;rw[if_neg (by omega),e,show (nJ P M bf k rs).ws=uZ P bf k from rfl,h1];rfl
theorem Ue(hP:0<P)(hj:j<k)(hx:x∈aA (bf j)):(j7 (nJ P M bf k rs) (partOf (P:Int) x).toNat ((2*j+2:Nat):Int)).find? (fun y=>decide (y.1=x))=some (x,x++oM (2*j+2)):=by unfold j7;rw[E8 hj];have hp:(El P (bf j) (2*j+2)).dL (partOf (P:Int) x).toNat=true:=Ka hP hx;simp only[hp,if_true];rw[show (nJ P M bf k rs).parts=P from rfl,show (El P (bf j) (2*j+2)).items=aS (aA (bf j)) (2*j+2)from rfl,vX];refine E7 _ (List.mem_filter.2 ⟨hx,?_⟩);have:=(eM (P:Int) x (by omega)).1;exact decide_eq_true (by omega)
theorem Ox(hj:j<k)(h:aH (j7 (nJ P M bf k rs) q ((2*j+2:Nat):Int)) x=true):x∈aA (bf j):=by
 unfold j7 at h;rw[E8 hj]at h;dsimp only at h;split at h
 ·rw[show (El P (bf j) (2*j+2)).items=aS (aA (bf j)) (2*j+2)from rfl,vX,rY]at h;exact(List.mem_filter.1 (jE.1 h)).1
 ·simp[aH]at h
theorem Se(hP:0<P)(hc:yH (gR L (fun x=>lQ bf x k) 0) ms)(hx:L[j]?=some x):fC (j7 (nJ P M bf k rs) (partOf (P:Int) x).toNat) x ms=(lQ bf x k:Int):=by
 refine J9 (by omega) ms 0 (by omega) (fun m hm hk=>?_) ?_
 ·obtain⟨j',y,hy,rfl⟩:=hc.of m hm;rw[sj (L:=L) hy]at hk⊢;by_cases h0:lQ bf y k=0
  ·omega
  ·obtain⟨i,h1,h2,h3⟩:=pK y k h0;rw[h2]at hk⊢;have:=Kb h1 (Ox h1 hk);omega
 ·by_cases h0:lQ bf x k=0
  ·exact .inl (by omega)
  ·obtain⟨i,h1,h2,h3⟩:=pK x k h0;refine .inr ⟨?_,?_⟩
   ·have:=hc.all j x hx;rwa [sj hx]at this
   ·rw[h2,pL,Ue hP h1 h3];rfl
theorem Oy(hP:0<P)(h0:lQ bf x k≠0):valueOf (j7 (nJ P M bf k rs) (partOf (P:Int) x).toNat (lQ bf x k:Int)) x=x++oM (lQ bf x k):=by obtain⟨i,h1,h2,h3⟩:=pK x k h0;rw[h2];unfold valueOf;rw[Ue hP h1 h3]
end
theorem sn{W w2:World}{sb k:Nat}{M:Int}{ba bc wg:Nat}{cv:Value}{Sb:Nat->Prop}(hP:0<P)(H:bH w W τ 2 sb (nJ P M bf k [gR L (fun x=>lQ bf x k) 0]) A 0 (gR L (fun x=>lQ bf x k) 0) ab ba bc wg ms cv Sb)(h:Ow H w2)(hx:L[j]?=some x):
 ∃val,Q7 ab j x (lQ bf x k:Int) val w2/\(lQ bf x k≠0->val=x++oM (lQ bf x k)):=by
 have hi:=(H.Oz (j:=j) (x:=x) hx).1;have yM:(gR L (fun x=>lQ bf x k) 0).found j=lQ bf x k:=sj hx;by_cases hE:(nX (nJ P M bf k [gR L (fun x=>lQ bf x k) 0]) A 0 (gR L (fun x=>lQ bf x k) 0) ab ba bc).En x
 ·have ha:=h.VM j x hx hE;have e1:(nX (nJ P M bf k [gR L (fun x=>lQ bf x k) 0]) A 0 (gR L (fun x=>lQ bf x k) 0) ab ba bc).wn x=lQ bf x k:=by show (gR L (fun x=>lQ bf x k) 0).found (bM _ x)=_;rw[hi,yM]
  rw[e1]at ha;refine⟨_,ha,fun h0=>?_⟩;have h1:=hE.1;rw[e1]at h1;have hv:A.R.hv 0 j=true:=by
   cases hv:A.R.hv 0 j with
   |true=>rfl
   |false=>exact absurd ⟨h0,by show A.R.hv 0 (bM _ x)=false;rw[hi];exact hv⟩ h1
  obtain⟨m,t1,t2,_⟩:=H.rep.told.tv 0 _ j x H.hr rfl hx hv;obtain⟨i,g1,g2,g3⟩:=pK x k h0;rw[yM,g2,show 2*i+2-1=2*i+1 from rfl,show (nJ P M bf k [gR L (fun x=>lQ bf x k) 0]).ws=uZ P bf k from rfl,(xJ g1).2]at t1;cases t1;show A.R.tv 0 (bM _ x)=_;rw[hi,g2];unfold jg at t2;rw[show (El P (bf i) (2*i+2)).items=aS (aA (bf i)) (2*i+2)from rfl,E7 _ g3]at t2;simpa using t2.symm
 ·have ha:=h.ZX j x hx hE;have e:=Se (M:=M) (rs:= [gR L (fun x=>lQ bf x k) 0]) hP H.cand hx;rw[show (nJ P M bf k [gR L (fun x=>lQ bf x k) 0]).parts=P from rfl,e]at ha;exact⟨_,ha,fun h0=>Oy hP h0⟩
end
section
noncomputable def fmBody:Code:=Tryz.f11.body.getD .skip
def nthB:Nat->Code->Code
 | 0,c=>c
 |n+1,c=>nthB n (cB c)
noncomputable def fmT:Code:=nthB 29 fmBody
def FmFr(fr:Frame)(sb xb kb kg n bC:Nat):Prop:=∃(b:Frame) (a:Act),fr=b.at a [.inRegion (opsOf (cA fmT)) (2 :: [3,4,5,6,7,8,9]),.code (cB fmT)]/\b.fn=11/\b.kind=.normal/\a.defers= []/\a.tmps.size=324/\a.tmps[9]?=some (ptr sb)/\a.tmps[10]?=some (.slice (some ⟨kg,0,none⟩) n bC)/\a.tmps[11]?=some (ptr xb)/\a.tmps[12]?=some (.int .i64 2)/\a.tmps[13]?=some (ptr kb)/\a.tmps[16]?=some (.int .i64 1)
theorem fmT_eq:fmT=.seq (.region 41 (opsOf (cA fmT)) false) (cB fmT):=by kernel_rfl
theorem fmT_size:List.range (opsOf (cA fmT)).size= [0,1,2,3,4,5,6,7,8,9]:=by kernel_rfl
theorem fmT_0:∃o,(opsOf (cA fmT))[0]?=some o/\o.guard=none/\o.dst=some 276/\o.op=.move (.tmp 9):=by refine⟨((opsOf (cA fmT))[0]?).getD default,?_,?_,?_,?_⟩ <;>kernel_rfl
theorem fmT_1:∃o,(opsOf (cA fmT))[1]?=some o/\o.guard=none/\o.dst=some 277/\o.op=.move (.tmp 16):=by refine⟨((opsOf (cA fmT))[1]?).getD default,?_,?_,?_,?_⟩ <;>kernel_rfl
theorem fmT_2:∃o,(opsOf (cA fmT))[2]?=some o/\o.guard=none/\o.dst=some 278/\∃cl:Call,o.op=.call cl/\cl.callee=.value (.func 23)/\cl.args=#[.tmp 276,.tmp 277]:=by refine⟨((opsOf (cA fmT))[2]?).getD default,?_,?_,?_,(match (((opsOf (cA fmT))[2]?).getD default).op with|.call cl=>cl|_=>default),?_,?_,?_⟩ <;>kernel_rfl
theorem fm_call{Q:Frame->List Frame->World->Prop}{b:Frame}{a:Act}{c:List Frame}{v u:Value}(h9:a.tmps[9]?=some v)(Yk:a.tmps[16]?=some u)(hs:a.tmps.size=324)
 (h:To Tryz.prog Q (Frame.enter Tryz.prog 23 #[v,u] .normal) (b.at ((a.put (some 276) v).put (some 277) u) [.inRegion (opsOf (cA fmT)) (2 :: [3,4,5,6,7,8,9]),.code (cB fmT)] :: c) w):To Tryz.prog Q (b.at a [.code fmT]) c w:=by
 rw[fmT_eq];refine .step (fun _=>step_seq) (.region ?_);rw[fmT_size];obtain⟨o0,q1,q2,q3,q4⟩:=fmT_0;obtain⟨o1,p1,p2,p3,p4⟩:=fmT_1;obtain⟨o2,r1,r2,r3,cl,r4,r5,r6⟩:=fmT_2;refine To.op q1 (mR q2 _) (run_move q4 _) ?_;rw[q3];have e9:a.eval (.tmp 9)=v:=by simp[Act.eval,Array.getD_eq_getD_getElem?,h9]
 rw[e9];refine To.op p1 (mR p2 _) (run_move p4 _) ?_;rw[p3];have e22:(a.put (some 276) v).eval (.tmp 16)=u:=by simp[Act.eval,Act.put,Array.getD_eq_getD_getElem?,Yk]
 rw[e22];refine To.enter r1 (mR r2 _) (BN r4 r5 Tryz.func23 (by kernel_rfl) rfl _) ?_;have e:cl.args.map ((a.put (some 276) v).put (some 277) u).eval=#[v,u]:=by rw[r6];simp[Act.eval,Act.put,Array.getD_eq_getD_getElem?,hs]
 rw[e];exact h
structure AtFm(w0:World)(B:Nat)(fr:Frame)(c':List Frame)(w':World):Prop where
 intro ::
 ex:∃(P:Nat) (M:Int) (τ:Nat->Tag) (sb xb kg bC kb:Nat) (A:SA) (wf:World) (fW:Frame),FmN w0 wf τ sb xb kg (aA B) (nJ P M (fun _=>B) 1 [gR (aA B) (fun x=>lQ (fun _=>B) x 1) 0]) A kb 2 (.slice (some ⟨kg,0,none⟩) (aA B).length bC) (dS P (aA B))/\
  FmFr fW sb xb kb kg (aA B).length bC/\Ig wf τ 2 sb (nJ P M (fun _=>B) 1 [gR (aA B) (fun x=>lQ (fun _=>B) x 1) 0]) A 0 (gR (aA B) (fun x=>lQ (fun _=>B) x 1) 0) (fun _=>False) [fW] fr c' w'
def FmPost(w:World)(fr:Frame)(c:List Frame)(w':World):Prop:=∃B,1<=B/\B<64/\AtFm w B fr c w'
theorem keysOf_nq:∀b,b<64->∀x∈aA b,x≠⟨#[63]⟩:=by decide+kernel
theorem items_new(l:List KV)(t:TypeId):xH (w.alloc (.cells (aY l).toArray t)) (some ⟨w.heap.size,0,none⟩) l:=by intro k y hy;obtain⟨e1,e2⟩:=nT _ _ _ hy;exact⟨w.heap.size,0,rfl,(aT.new w _ _).cell (by rw[Nat.zero_add,List.getElem?_toArray];exact e1),(aT.new w _ _).cell (by rw[Nat.zero_add,List.getElem?_toArray];exact e2)⟩
theorem texts_new(l:List ByteArray)(t:TypeId):CG (w.alloc (.cells (l.map Value.string).toArray t)) (some ⟨w.heap.size,0,none⟩) l:=by intro k y hy;exact⟨w.heap.size,0,rfl,(aT.new w _ _).cell (by rw[Nat.zero_add,List.getElem?_toArray,List.getElem?_map,hy];rfl)⟩
section
variable {w:World}
theorem firm_to(far parts mode set:Int)(h1: -9223372036854775808<=far)(h2:far<=9223372036854775807)(h3: -9223372036854775808<=parts)(h4:parts<=9223372036854775807)(h5: -9223372036854775808<=mode)(h6:mode<=9223372036854775807)(h7: -9223372036854775808<=set)(h8:set<=9223372036854775807):
 To Tryz.prog (FmPost w) (Frame.enter Tryz.prog 11 #[.int .i64 far,.int .i64 parts,.int .i64 mode,.int .i64 set] .normal) [] w:=by
 obtain⟨p0,hp0,hpp⟩:=uV parts 4 (by omega);rw[show ((4:Nat):Int)=4 from rfl]at hpp;have hE:Env w w (fun _=>(0,0,0)):=⟨Below.refl _ _,fun _ _=>rfl⟩
 have c3:=Lg hE parts mode h3 h4 h5 h6;rw[hpp,show (1+(p0:Int)).toNat=p0+1 from by omega]at c3;generalize 1+eY mode 3=M at c3;obtain⟨fa,hfa,Qb⟩:=uV far 1099511627776 (by omega);rw[show ((1099511627776:Nat):Int)=1099511627776 from rfl]at Qb;have cf:∀W,_:=fun W=>qv far 1099511627776 W h1 h2 (by omega) (by omega);rw[Qb]at cf;obtain⟨B0,uQ,hBB⟩:=uV set 63 (by omega);rw[show ((63:Nat):Int)=63 from rfl]at hBB;have cp:∀W,_:=fun W=>qv set 63 W h7 h8 (by omega) (by omega);rw[hBB]at cp;obtain⟨OM,OO,OP,VZ⟩:=uT (B0+1) (by omega);have XC:Hid _:=OM;have Ud:Hid _:=OO;have HNX:Hid (∀x∈aA (B0+1),x≠kx):=LJ (B0+1) (by omega);have HNQ:Hid ((⟨#[63]⟩:ByteArray)∉ aA (B0+1)):=fun h=>keysOf_nq (B0+1) (by omega) _ h rfl;have KQ:=OP (by omega);unfold ptr at c3;clear hE h1 h2 h3 h4 h5 h6 h7 h8 hpp Qb hBB OM OO OP;rw[enter_at Tryz.func11 rfl];walk_nrmf Tryz.ntmps11;refine To.gP fun K hK=>?_;go_wp2_with fail
 refine To.gP fun K hK=>?_;go_wp2_with fail
 refine c3.mono ?_;rintro e wa ⟨τa,sb,A,rfl,hS,Q8⟩;clear c3;have HS:Hid _:=hS;have HE:Hid _:=Q8;clear hS Q8;go_wp2_with fail
 refine To.gP fun K hK=>?_;go_wp2_with fail
 refine To.gP fun K hK=>?_;go_wp2_with fail
 refine(cf _).mono ?_;rintro e w1 ⟨rfl,rfl⟩;clear cf;go_wp2_with fail
 refine To.gP fun K hK=>?_;go_wp2_with fail
 refine(cp _).mono ?_;rintro e w2 ⟨rfl,rfl⟩;clear cp;have ck:=EO (w:=w2) (B0+1);rw[show ((B0+1:Nat):Int)=1+(B0:Int)from by omega]at ck;go_wp2_with fail
 refine ck.mono ?_;rintro e wk ⟨kvl,rfl,hrow,hBk⟩;clear ck;obtain⟨kg,bC,yR,Ss,aad,mG,-⟩:=dJ hrow (by omega);have AI:kg<wk.heap.size:=(aR hrow kg (by rw[yR];rfl)).2;have OQ:w2.heap.size<=kg:=(aR hrow kg (by rw[yR];rfl)).1;subst yR;have HM0:Hid (FmM w (wk.alloc (.cells #[ptr sb,dV,dV] 32)) (fun q=>if q=wk.heap.size then(1,21,0)else fresh τa w2.heap.size q) sb wk.heap.size kg (aA (B0+1)) (nJ (p0+1) M (fun _=>B0+1) 0 []) A):=by
  have ht:∀q,q<wk.heap.size->(if q=wk.heap.size then((1,21,0):Tag)else fresh τa w2.heap.size q)=fresh τa w2.heap.size q:=fun q hq=>by rw[if_neg (by omega)]
  have hf:∀q,q<w2.heap.size->fresh τa w2.heap.size q=τa q:=fun q hq=>by unfold fresh;rw[if_neg (by omega)]
  have hsz:=HE.out.below.size;have hsk:=hBk.size;refine⟨HS.out.frame (fun q hq _=>⟨(Below.heap_alloc _ _ _ (by omega)).trans (hBk.block q hq),by rw[ht q (by omega),hf q hq]⟩),⟨(HE.out.below.trans (hBk.mono hsz)).alloc (by omega) _,fun q hq=>by rw[ht q (by omega),hf q (by omega)];exact HE.out.yt q hq⟩,aT.new wk _ _,by simp,⟨by simp;omega,by rw[ht kg AI];unfold fresh;rw[if_pos OQ],fun j x hx=>?_⟩⟩;have hj:=aE hx;refine(World.cell?_of_block (w:=wk) (a:=⟨kg,j,none⟩) (Below.heap_alloc _ _ _ AI)).trans ?_;rw[mG j (by omega),List.getElem?_map,hx];rfl
 clear hrow hBk mG HS HE OQ;unfold ptr dV at HM0;go_wp2_with fail
 refine To.gP fun K hK=>?_;go_wp2_with fail
 generalize hxb:wk.heap.size=xb at *;generalize wk.alloc (.cells #[.pointer (some ⟨sb,0,none⟩),.slice none 0 0,.slice none 0 0] 32)=wx at *;generalize (fun q=>if q=xb then((1,21,0):Tag)else fresh τa w2.heap.size q)=τx at *;clear hxb AI;have cw:=Lm HM0.out.rep kg bC (L:=aA (B0+1)) KQ (by omega) XC.out Ud.out HM0.out.kg.cell HM0.out.kg.lt HM0.out.kg.tag (by show 0+2<=200;omega);rw[show (((nJ (p0+1) M (fun _=>B0+1) 0 []).ws.length:Int)+2)=2 from rfl,show Ei (nJ (p0+1) M (fun _=>B0+1) 0 []) (aA (B0+1)) (dS (nJ (p0+1) M (fun _=>B0+1) 0 []).parts (aA (B0+1)))=Nd (p0+1) M (fun _=>B0+1) 0 0 from OE]at cw;unfold ptr at cw;obtain⟨Ln,Lz⟩:∃Ln,(aA (B0+1)).length=Ln:=⟨_,rfl⟩
 have HLN:Hid ((aA (B0+1)).length=Ln):=Lz;rw[Lz]at cw KQ VZ Ss⊢;refine To.gP fun K hK=>?_;go_wp2_with fail
 refine cw.mono ?_;rintro e w4 ⟨τ4,A4,rfl,hR4,G1⟩;clear cw Lz;have HN0:Hid (FmN w (w4.alloc (.cells #[.int .i64 2,.slice (some ⟨kg,0,none⟩) Ln bC,.bool false,.bool false,.bool false,.bool false] 48)) (fun q=>if q=w4.heap.size then(1,20,0)else τ4 q) sb xb kg (aA (B0+1)) (Nd (p0+1) M (fun _=>B0+1) 0 0) A4 w4.heap.size 2 (.slice (some ⟨kg,0,none⟩) Ln bC) (dS (p0+1) ((aA (B0+1)).take 0))):=by have:=(HM0.out.step hR4 G1).known (n:=2) (.slice (some ⟨kg,0,none⟩) Ln bC);unfold Hid;simpa[iy,uU]using this
 clear hR4 G1 HM0;go_wp2_with fail
 refine To.gP fun K hK=>?_;go_wp2_with fail
 generalize hkb:w4.heap.size=kb at *;generalize w4.alloc (.cells #[.int .i64 2,.slice (some ⟨kg,0,none⟩) Ln bC,.bool false,.bool false,.bool false,.bool false] 48)=w5 at *;generalize (fun q=>if q=kb then((1,20,0):Tag)else τ4 q)=τ5 at *;clear hkb;refine To.gP fun K hK=>?_;go_wp2_with fail
 refine To.gP fun K hK=>?_;go_wp2_with fail
 go_loopw [14,15] (fun u14 u wr=>∃(j:Nat) (A':SA),j<=Ln/\u14=.bool true/\u=.int .i64 j/\Hid (FmN w wr τ5 sb xb kg (aA (B0+1)) (Nd (p0+1) M (fun _=>B0+1) 0 j) A' kb 2 (.slice (some ⟨kg,0,none⟩) Ln bC) (dS (p0+1) ((aA (B0+1)).take j)))) (fun _ u _=>Ln-(intOf u).toNat)
 case atStart=>exact⟨0,A4,Nat.zero_le _,rfl,rfl,HN0⟩
 case round=>
  obtain⟨j,A5,hj,rfl,rfl,HN⟩:=hrel;clear HN0;by_cases hjl:j<Ln
  ·have hjk:j< (aA (B0+1)).length:=by rw[HLN.out];exact hjl
   have hx:(aA (B0+1))[j]?=some (aA (B0+1))[j]:=zch hjk;have Rf:(aA (B0+1))[j]∈aA (B0+1):=List.getElem_mem _;have HT:Hid ((aA (B0+1)).take (j+1)=(aA (B0+1)).take j++ [(aA (B0+1))[j]]):=List.take_succ_eq_append_getElem _;have ck:=HN.out.kg.cell j _ hx;generalize (aA (B0+1))[j]=x at *;clear hjk;obtain⟨b1,b2⟩:=eM ((p0+1:Nat):Int) x (by omega);obtain⟨p,hp⟩:∃p:Nat,partOf ((p0+1:Nat):Int) x=p:=⟨(partOf ((p0+1:Nat):Int) x).toNat,by omega⟩
   have HY:p<4:=by omega
   have c4:Calls Tryz.prog 20 #[ptr xb,ptr kb,.string x] wr fun e w'=>∃A' w1,e=.returned (.bool true)/\aW w1 τ5 2 sb (Nd (p0+1) M (fun _=>B0+1) 0 (j+1)) A'/\Stp 2 τ5 wr τ5 w1/\w'=w1.setCell ⟨kb,2+p,none⟩ (.bool true):=by have e:=LH (M:=M) (bf:=fun _=>B0+1) (k:=0) hx hp;rw[<-e];exact EU HN.out.rep xb kb _ HN.out.x rfl (by rw[HN.out.C2];decide) 2 (by omega) (.slice (some ⟨kg,0,none⟩) Ln bC) _ HN.out.kn (by rw[HN.out.vZ];decide) x (Ud.out x Rf) p hp (m:={El (p0+1) (B0+1) 2 with comm:=dS (p0+1) ((aA (B0+1)).take j)}) (Sp j) (Z8 Rf hp) VV rfl
   unfold ptr at c4;have HFO:Hid (put (dS (p0+1) ((aA (B0+1)).take j)) p=dS (p0+1) ((aA (B0+1)).take (j+1))):=by unfold Hid;rw[HT.out,rX hp]
   have q5:(j:Int)<Ln:=by omega
   clear hx Rf hp b1 b2;go_wp2_with fail
   refine c4.mono ?_;rintro e we ⟨A6,wd,rfl,ZF,Q9,rfl⟩;clear c4;have HN7:Hid (FmN w (wd.setCell ⟨kb,2+p,none⟩ (.bool true)) τ5 sb xb kg (aA (B0+1)) (Nd (p0+1) M (fun _=>B0+1) 0 (j+1)) A6 kb 2 (.slice (some ⟨kg,0,none⟩) Ln bC) (dS (p0+1) ((aA (B0+1)).take (j+1)))):=by have a1:=(HN.out.step ZF Q9).known HY;rw[HFO.out]at a1;exact a1
   clear ZF Q9 HN ck HFO HT;generalize wd.setCell ⟨kb,2+p,none⟩ (.bool true)=we at *;go_wp2_with fail
   go_roundw
   case rel=>exact⟨j+1,A6,by omega,rfl,by go_num,HN7⟩
   case measure=>simp[intOf];omega
  ·have hjn:j=Ln:=by omega
   subst hjn;have HN1:Hid (FmN w wr τ5 sb xb kg (aA (B0+1)) (nJ (p0+1) M (fun _=>B0+1) 1 []) A5 kb 2 (.slice (some ⟨kg,0,none⟩) j bC) (dS (p0+1) (aA (B0+1)))):=by have a1:=HN.out;rw[<-HLN.out,List.take_length,HLN.out]at a1;have e:=So (P:=p0+1) (M:=M) (bf:=fun _=>B0+1) (k:=0);simp only[HLN.out]at e;rw[e]at a1;exact a1
   clear HN;go_wp2_with fail
   have hlen8:(aA (B0+1)).length<=8:=by rw[HLN.out];omega
   have c:=TZ HN1.out.rep (some ⟨kg,0,none⟩) bC (L:=aA (B0+1)) (by unfold maxLen;omega) (by rw[HLN.out];exact Ss) aad (fun x hx=>by have:=(dG (Ud.out x hx)).2;unfold maxLen;omega) (fun j x hx=>⟨kg,0,rfl,by rw[Nat.zero_add];exact HN1.out.kg.cell j x hx⟩) (fun ib io e=>by cases e;rw[HN1.out.kg.tag];decide) (by show 0<_;omega);rw[fm_read (v:=fun x=>lQ (fun _=>B0+1) x 1) (Fe _ (by omega) (by omega)),HLN.out]at c;refine To.gP fun K hK=>?_;unfold ptr at c;go_wp2_with fail
   refine c.mono ?_;rintro e v1 ⟨σ1,D1,rfl,hR,hP⟩;have HM1:Hid _:=HN1.out.step hR hP;clear c hR hP HN1;go_wp2_with fail
   refine To.gP fun K hK=>?_;go_wp2_with fail
   have c:=Hy HM1.out.rep none 0 (L:= []) (by decide) (by decide) (by decide) (fun x hx=>by cases hx) (fun k y hy=>by simp at hy) (fun ib io e=>by cases e);rw[mWrite_bad (c:=3) rfl (by decide)]at c;refine To.gP fun K hK=>?_;unfold ptr at c;go_wp2_with fail
   refine c.mono ?_;rintro e v2 ⟨σ2,D2,rfl,hR,hP⟩;have Lv:Hid _:=HM1.out.step hR hP;clear c hR hP HM1;go_wp2_with fail
   have HB3:Hid _:=Lv.out.box (.cells #[.string ⟨#[97]⟩,.string ⟨#[]⟩,.string ⟨#[97]⟩,.string ⟨#[]⟩] 70);clear Lv;have c:=Hy HB3.out.rep (some ⟨_,0,none⟩) 2 (L:= [(⟨#[97]⟩,⟨#[]⟩),(⟨#[97]⟩,⟨#[]⟩)]) (by decide) (by decide) (by decide) (by unfold xI;decide) (items_new _ _) (fun ib io e=>by cases e;rw[rW];decide);rw[mWrite_bad (c:=5) rfl (by decide)]at c;refine To.gP fun K hK=>?_;unfold ptr at c;go_wp2_with fail
   refine c.mono ?_;rintro e v4 ⟨σ4,D4,rfl,hR,hP⟩;have HM4:Hid _:=HB3.out.step hR hP;clear c hR hP HB3;go_wp2_with fail
   have HB5:Hid _:=HM4.out.box (.cells #[.string ⟨#[49,50,51,52,53,54,55,56,57]⟩,.string ⟨#[]⟩] 70);clear HM4;have c:=Hy HB5.out.rep (some ⟨_,0,none⟩) 1 (L:= [(⟨#[49,50,51,52,53,54,55,56,57]⟩,⟨#[]⟩)]) (by decide) (by decide) (by decide) (by unfold xI;decide) (items_new _ _) (fun ib io e=>by cases e;rw[rW];decide);rw[mWrite_bad (c:=4) rfl (by decide)]at c;refine To.gP fun K hK=>?_;unfold ptr at c;go_wp2_with fail
   refine c.mono ?_;rintro e v6 ⟨σ6,D6,rfl,hR,hP⟩;have HM6:Hid _:=HB5.out.step hR hP;clear c hR hP HB5;go_wp2_with fail
   have c:=TZ HM6.out.rep none 0 (L:= []) (by decide) (by decide) (by decide) (fun x hx=>by cases hx) (fun k y hy=>by simp at hy) (fun ib io e=>by cases e) (by show 1<_;omega);rw[mRead_bad (c:=3) rfl (by decide)]at c;refine To.gP fun K hK=>?_;unfold ptr at c;go_wp2_with fail
   refine c.mono ?_;rintro e v7 ⟨σ7,D7,rfl,hR,hP⟩;have HM7:Hid _:=HM6.out.step hR hP;clear c hR hP HM6;go_wp2_with fail
   have HB8:Hid _:=HM7.out.box (.cells #[.string ⟨#[97]⟩,.string ⟨#[98]⟩,.string ⟨#[97]⟩] 9);clear HM7;have c:=TZ HB8.out.rep (some ⟨_,0,none⟩) 3 (L:= [⟨#[97]⟩,⟨#[98]⟩,⟨#[97]⟩]) (by decide) (by decide) (by decide) (by unfold PF;decide) (texts_new _ _) (fun ib io e=>by cases e;rw[rW];decide) (by show 1<_;omega);rw[mRead_bad (c:=5) rfl (by decide)]at c;refine To.gP fun K hK=>?_;unfold ptr at c;go_wp2_with fail
   refine c.mono ?_;rintro e v9 ⟨σ9,D9,rfl,hR,hP⟩;have HM9:Hid _:=HB8.out.step hR hP;clear c hR hP HB8;go_wp2_with fail
   have HB10:Hid _:=HM9.out.box (.cells #[.string ⟨#[97]⟩,.string ⟨#[]⟩] 9);clear HM9;have c:=TZ HB10.out.rep (some ⟨_,0,none⟩) 2 (L:= [⟨#[97]⟩,⟨#[]⟩]) (by decide) (by decide) (by decide) (by unfold PF;decide) (texts_new _ _) (fun ib io e=>by cases e;rw[rW];decide) (by show 1<_;omega);rw[mRead_bad (c:=4) rfl (by decide)]at c;refine To.gP fun K hK=>?_;unfold ptr at c;go_wp2_with fail
   refine c.mono ?_;rintro e v11 ⟨σ11,D11,rfl,hR,hP⟩;have HM11:Hid _:=HB10.out.step hR hP;clear c hR hP HB10;go_wp2_with fail
   refine To.gP fun K hK=>?_;go_wp2_with fail
   have HF:Hid (bF (nJ (p0+1) M (fun _=>B0+1) 1 [fmRd (aA (B0+1)) (fun x=>lQ (fun _=>B0+1) x 1) 0]) 2=some (El (p0+1) (B0+1) 2)):=E8 (j:=0) (by omega);have HX0:Hid ((aA (B0+1))[0]?=some ((aA (B0+1)).getD 0 ⟨#[]⟩)):=by
    have:0< (aA (B0+1)).length:=by rw[HLN.out];exact KQ
    unfold Hid;rw[List.getD_eq_getElem?_getD,zch this];rfl
   generalize (aA (B0+1)).getD 0 ⟨#[]⟩=x0 at HX0;have c:=EN HM11.out.rep (2+1+(fa:Int)) 0 (by omega) (by omega) (by omega) (by omega);rw[mPrepare_none (mFind_out (.inr (by rw[tF];omega)))]at c;refine To.gP fun K hK=>?_;unfold ptr at c;go_wp2_with fail
   refine c.mono ?_;rintro e v12 ⟨D12,rfl,hR,hP⟩;have HM12:Hid _:=HM11.out.step hR hP;clear c hR hP HM11;go_wp2_with fail
   have c:=EN HM12.out.rep 2 (4+(fa:Int)) (by omega) (by omega) (by omega) (by omega);rw[mPrepare_out HF.out (by show 0<p0+1;omega) (.inr (by show ((p0+1:Nat):Int)<=_;omega))]at c;refine To.gP fun K hK=>?_;unfold ptr at c;go_wp2_with fail
   refine c.mono ?_;rintro e v13 ⟨D13,rfl,hR,hP⟩;have HM13:Hid _:=HM12.out.step hR hP;clear c hR hP HM12;go_wp2_with fail
   have c:=JZ HM13.out.rep (-(fa:Int)) 0 (by omega) (by omega) (by omega) (by omega);rw[mCommit_none (mFind_out (.inl (by omega)))]at c;refine To.gP fun K hK=>?_;unfold ptr at c;go_wp2_with fail
   refine c.mono ?_;rintro e v14 ⟨D14,rfl,hR,hP⟩;have HM14:Hid _:=HM13.out.step hR hP;clear c hR hP HM13;go_wp2_with fail
   have c:=JZ HM14.out.rep 2 (-1-(fa:Int)) (by omega) (by omega) (by omega) (by omega);rw[mCommit_out HF.out (by show 0<p0+1;omega) (.inl (by omega))]at c;refine To.gP fun K hK=>?_;unfold ptr at c;go_wp2_with fail
   refine c.mono ?_;rintro e v15 ⟨D15,rfl,hR,hP⟩;have HM15:Hid _:=HM14.out.step hR hP;clear c hR hP HM14;go_wp2_with fail
   have c:=RV HM15.out.rep 2 (by omega) (by omega);rw[mCancel_late (p:=(partOf ((p0+1:Nat):Int) x0).toNat) HF.out (by have:=eM ((p0+1:Nat):Int) x0 (by omega);omega) (Ka (by omega) (zci HX0.out))]at c;refine To.gP fun K hK=>?_;unfold ptr at c;go_wp2_with fail
   refine c.mono ?_;rintro e v16 ⟨D16,rfl,hR,hP⟩;have HM16:Hid _:=HM15.out.step hR hP;clear c hR hP HM15;go_wp2_with fail
   have hz0:=(dG (Ud.out x0 (zci HX0.out))).2;have k0:=HM16.out.kg.cell 0 x0 HX0.out;have c:=Zp HM16.out.rep (1+1+(fa:Int)) x0 (by unfold maxLen;omega) (by omega) (by omega);rw[mAsk_out (.inr (by show ((1:Nat):Int)<_;omega))]at c;refine To.gP fun K hK=>?_;unfold ptr at c;go_wp2_with fail
   refine c.mono ?_;rintro e v17 ⟨D17,rfl,hR,hP⟩;have HM17:Hid _:=HM16.out.step hR hP;clear c hR hP HM16;go_wp2_with fail
   clear k0;have c:=Zp HM17.out.rep 1 ⟨#[63]⟩ (by decide) (by omega) (by omega);rw[mAsk_other (r:=fmRd (aA (B0+1)) (fun x=>lQ (fun _=>B0+1) x 1) 0) rfl HNQ.out]at c;refine To.gP fun K hK=>?_;unfold ptr at c;go_wp2_with fail
   refine c.mono ?_;rintro e v18 ⟨D18,rfl,hR,hP⟩;have HM18:Hid _:=HM17.out.step hR hP;clear c hR hP HM17;go_wp2_with fail
   have c:=pFinish_order HM18.out.rep 1 (by omega) (by omega) (fmRd (aA (B0+1)) (fun x=>lQ (fun _=>B0+1) x 1) 0) rfl (fm_early (by rw[HLN.out];exact KQ));refine To.gP fun K hK=>?_;unfold ptr at c;go_wp2_with fail
   refine c.mono ?_;rintro e v19 ⟨rfl,hR,hP⟩;have HM19:Hid _:=HM18.out.step hR hP;clear c hR hP HM18;go_wp2_with fail
   refine To.gP fun K hK=>?_;go_wp2_with fail
   refine To.gP fun K hK=>?_;go_wp2_with fail
   rename World=>vz
   go_loopw [40] (fun u wr=>∃(m:Nat) (A':SA),m<=j/\u=.int .i64 m/\Hid (FmN w wr σ11 sb xb kg (aA (B0+1)) (nJ (p0+1) M (fun _=>B0+1) 1 [fmRd (aA (B0+1)) (fun x=>lQ (fun _=>B0+1) x 1) m]) A' kb 2 (.slice (some ⟨kg,0,none⟩) j bC) (dS (p0+1) (aA (B0+1))))) (fun u _=>j-(intOf u).toNat)
   case atStart=>exact⟨0,D18,Nat.zero_le _,rfl,HM19⟩
   case round=>
    rename World=>Rc
    obtain⟨m,A7,hm,rfl,HN⟩:=hrel;clear HM19 HF HX0;by_cases hmj:m<j
    ·have hx:(aA (B0+1))[m]?=some ((aA (B0+1)).getD m ⟨#[]⟩):=by
      have:m< (aA (B0+1)).length:=by rw[HLN.out];exact hmj
      rw[List.getD_eq_getElem?_getD,zch this];rfl
     have Rf:=zci hx;generalize (aA (B0+1)).getD m ⟨#[]⟩=x at *;have ck:=HN.out.kg.cell m _ hx;have hz:=(dG (Ud.out x Rf)).2;have c:=Zp HN.out.rep 1 x (by unfold maxLen;omega) (by omega) (by omega);rw[fm_ask XC.out hx (Im (by omega) (HNX.out x Rf))]at c;unfold ptr at c;have q3:(m:Int)<j:=by omega
     clear hx Rf;go_wp2_with fail
     refine c.mono ?_;rintro e wc ⟨A8,rfl,hR,hP⟩;clear c;have HN4:Hid _:=HN.out.step hR hP;clear hR hP HN ck;go_wp2_with fail
     go_roundw
     case rel=>exact⟨m+1,A8,by omega,by go_num,HN4⟩
     case measure=>simp[intOf];omega
    ·have hmn:m=j:=by omega
     subst hmn;have HN5:Hid (FmN w Rc σ11 sb xb kg (aA (B0+1)) (nJ (p0+1) M (fun _=>B0+1) 1 [gR (aA (B0+1)) (fun x=>lQ (fun _=>B0+1) x 1) 0]) A7 kb 2 (.slice (some ⟨kg,0,none⟩) (aA (B0+1)).length bC) (dS (p0+1) (aA (B0+1)))):=by have:=HN.out;rw[<-HLN.out,fmRd_end]at this;exact this
     clear HN;go_wp2_with fail
     refine fm_call (v:=.pointer (some ⟨sb,0,none⟩)) (u:=.int .i64 1) rfl rfl rfl ?_;refine(LF HN5.out.rep 1 (by omega) (by omega) (gR (aA (B0+1)) (fun x=>lQ (fun _=>B0+1) x 1) 0) rfl OK (fun _=>False) (fun _ h=>h.elim) _).then ?_
     rintro fr c' w' hA;refine To.done ⟨B0+1,by omega,by omega,⟨p0+1,M,σ11,sb,xb,kg,bC,kb,A7,Rc,_,HN5.out,⟨_,_,rfl,rfl,rfl,rfl,rfl,rfl,?_,rfl,rfl,rfl,rfl⟩,hA⟩⟩;rw[HLN.out];rfl
end
end
section
theorem array324(T:Array Value)(h:T.size=324):∃f:Nat->Value,T=#[f 0,f 1,f 2,f 3,f 4,f 5,f 6,f 7,f 8,f 9,f 10,f 11,f 12,f 13,f 14,f 15,f 16,f 17,f 18,f 19,f 20,f 21,f 22,f 23,f 24,f 25,f 26,f 27,f 28,f 29,f 30,f 31,f 32,f 33,f 34,f 35,f 36,f 37,f 38,f 39,f 40,f 41,f 42,f 43,f 44,f 45,f 46,f 47,f 48,f 49,f 50,f 51,f 52,f 53,f 54,f 55,f 56,f 57,f 58,f 59,f 60,f 61,f 62,f 63,f 64,f 65,f 66,f 67,f 68,f 69,f 70,f 71,f 72,f 73,f 74,f 75,f 76,f 77,f 78,f 79,f 80,f 81,f 82,f 83,f 84,f 85,f 86,f 87,f 88,f 89,f 90,f 91,f 92,f 93,f 94,f 95,f 96,f 97,f 98,f 99,f 100,f 101,f 102,f 103,f 104,f 105,f 106,f 107,f 108,f 109,f 110,f 111,f 112,f 113,f 114,f 115,f 116,f 117,f 118,f 119,f 120,f 121,f 122,f 123,f 124,f 125,f 126,f 127,f 128,f 129,f 130,f 131,f 132,f 133,f 134,f 135,f 136,f 137,f 138,f 139,f 140,f 141,f 142,f 143,f 144,f 145,f 146,f 147,f 148,f 149,f 150,f 151,f 152,f 153,f 154,f 155,f 156,f 157,f 158,f 159,f 160,f 161,f 162,f 163,f 164,f 165,f 166,f 167,f 168,f 169,f 170,f 171,f 172,f 173,f 174,f 175,f 176,f 177,f 178,f 179,f 180,f 181,f 182,f 183,f 184,f 185,f 186,f 187,f 188,f 189,f 190,f 191,f 192,f 193,f 194,f 195,f 196,f 197,f 198,f 199,f 200,f 201,f 202,f 203,f 204,f 205,f 206,f 207,f 208,f 209,f 210,f 211,f 212,f 213,f 214,f 215,f 216,f 217,f 218,f 219,f 220,f 221,f 222,f 223,f 224,f 225,f 226,f 227,f 228,f 229,f 230,f 231,f 232,f 233,f 234,f 235,f 236,f 237,f 238,f 239,f 240,f 241,f 242,f 243,f 244,f 245,f 246,f 247,f 248,f 249,f 250,f 251,f 252,f 253,f 254,f 255,f 256,f 257,f 258,f 259,f 260,f 261,f 262,f 263,f 264,f 265,f 266,f 267,f 268,f 269,f 270,f 271,f 272,f 273,f 274,f 275,f 276,f 277,f 278,f 279,f 280,f 281,f 282,f 283,f 284,f 285,f 286,f 287,f 288,f 289,f 290,f 291,f 292,f 293,f 294,f 295,f 296,f 297,f 298,f 299,f 300,f 301,f 302,f 303,f 304,f 305,f 306,f 307,f 308,f 309,f 310,f 311,f 312,f 313,f 314,f 315,f 316,f 317,f 318,f 319,f 320,f 321,f 322,f 323]/\∀i v,T[i]?=some v->f i=v:=⟨fun i=>T.toList.getD i undef,oV T 324 h,fun i v hv=>by simp[hv]⟩
theorem fmT_ops:List.range' 3 ((opsOf (cA fmT)).toList.drop 3).length= [3,4,5,6,7,8,9]:=by kernel_rfl
section
variable {P:Nat}{M:Int}{bf:Nat->Nat}{r:MR}
def fmS2(P:Nat)(M:Int)(bf:Nat->Nat)(r:MR):MS:=(py (Fc (nJ P M bf 1 [r]) 0 r) [⟨#[97]⟩]).2.2
def fmS3(P:Nat)(M:Int)(bf:Nat->Nat)(r:MR):MS:=(jD (fmS2 P M bf r) [(⟨#[97]⟩,⟨#[]⟩)]).2.2
theorem fm_r2:py (Fc (nJ P M bf 1 [r]) 0 r) [⟨#[97]⟩]=(2,0,fmS2 P M bf r):=rfl
theorem fm_w3:jD (fmS2 P M bf r) [(⟨#[97]⟩,⟨#[]⟩)]=(3,0,fmS3 P M bf r):=rfl
end
theorem firm_rest{fW:Frame}{sb xb kb kg bC B:Nat}{M n:Int}(hW:FmFr fW sb xb kb kg (aA B).length bC)(hB:B<64){w0 v:World}{f:Nat->Bool}{r:MR}
 (hN:FmN w0 v τ sb xb kg (aA B) (Fc (nJ P M bf 1 [r]) 0 r) A kb 2 (.slice (some ⟨kg,0,none⟩) (aA B).length bC) f) (PR:xb≠ab)
 (hA:∀(j:Nat) (x:ByteArray),(aA B)[j]?=some x->v.cell? ⟨ab,j*3,none⟩=some (.string x)/\v.cell? ⟨ab,j*3+1,none⟩=some (.int .i64 (2:Nat))/\v.cell? ⟨ab,j*3+2,none⟩=some (.string (x++oM 2))):
 To Tryz.prog (fun fr c w'=>c= []/\fr.fn=11/\(∀u,fr.leaving Tryz.prog u (.returned (.bool true)))/\Below w0.heap.size w0 w') (fW.finish (.tuple #[.slice (some ⟨ab,0,none⟩) (aA B).length (aA B).length,.int .i64 n,.int .i64 0])) [] v:=by
 obtain⟨b,⟨tms,EF⟩,rfl,hb,hk,hd,hs,g9,Lc,Ou,g12,g13,g16⟩:=hW;simp only at hd hs g9 Lc Ou g12 g13 g16;subst hd;obtain⟨o2,r1,r2,r3,cl,r4,r5,r6⟩:=fmT_2;rw[yG r1,r3,<-fmT_ops];obtain⟨OM,OO,OP,VZ⟩:=uT B hB;have hne:∀{q:Nat} {g:Tag},τ q=g->g≠(1,21,0)->xb≠q:=fun ht hg e=>hg (by rw[<-ht,<-e,hN.C2]);have hKn:KnAt v ⟨kb,2,kg,bC,aA B⟩:=⟨hN.kn.cell (o:=0) rfl,hN.kn.cell (o:=1) rfl,hN.kg.cell,by show (aA B).length<=8;omega,by show 1<=2;omega,by show 2<=1000;omega⟩
 have hg:∀{j:Nat} {x:ByteArray},(aA B)[j]?=some x->(aA B).getD j ⟨#[]⟩=x:=fun{j x} hx=>by simp[List.getD,hx]
 have hOk:RtOk [⟨kb,2,kg,bC,aA B⟩] (aA B) [2] (fun _=>2) (fun j=>(aA B).getD j ⟨#[]⟩++oM 2):=by
  refine⟨fun j x _ h=>by simp at h,fun i x hx _=>⟨_,rfl,jE.2 (zci hx),by rw[hg hx],fun _ _ _ _=>Nat.le_refl _⟩,fun j m hm=>?_⟩;match j,hm with
  | 0,hm=>
    cases hm;exact⟨_,rfl,fun _ _ _ _=>Nat.le_refl _⟩
 have cs:=sees_any (τ:=τ) ⟨kb,2,kg,bC,aA B⟩ hKn hN.x rfl (by rw[hN.C2]) (hne hN.vZ (by simp)) (fun e=>by have:=hN.kg.tag;rw[<-show xb=kg from e,hN.C2]at this;cases this) PR 1 (aA B).length (wn:=fun _=>2) (vl:=fun j=>(aA B).getD j ⟨#[]⟩++oM 2) (fun x hx=>by have:=(dG (OO x hx)).2;omega)
  (fun j x hx=>by obtain⟨a1,a2,a3⟩:=hA j x hx;exact⟨by omega,a1,a2,by rw[hg hx];exact a3⟩)
  hOk
 simp only at cs;have HR:Hid (aW v τ 2 sb (Fc (nJ P M bf 1 [r]) 0 r) A):=hN.rep;have HE:Hid (Env w0 v τ):=hN.env;clear hOk hg hN hKn hne hA OM OO OP r1 r2 r3 r4 r5 r6;refine To.T9 fun K hK=>?_;rw[yF];obtain⟨fv,hT,aj⟩:=array324 tms hs;replace g9:=aj 9 _ g9;replace Lc:=aj 10 _ Lc;replace Ou:=aj 11 _ Ou;replace g12:=aj 12 _ g12;replace g13:=aj 13 _ g13;replace g16:=aj 16 _ g16;clear hs aj;subst hT;simp only[g9,Lc,Ou,g12,g13,g16];clear g9 Lc Ou g12 g13 g16;obtain⟨Ln,Lz⟩:∃Ln,(aA B).length=Ln:=⟨_,rfl⟩
 rw[Lz]at cs VZ⊢;clear Lz;unfold ptr at cs⊢;dsimp only[fmT,fmBody,nthB,cA,cB,opsOf,Tryz.f11,Option.getD_some,Act.put];simp only[List.drop];go_wp2_with fail
 dsimp only[fmT,fmBody,nthB,cA,cB,opsOf,Tryz.f11,Option.getD_some];refine To.gP fun K hK=>?_;go_wp2_with fail
 refine cs.mono ?_;rintro e v1 ⟨rfl,hs⟩;clear cs;have HR1:Hid (aW (v1.alloc (.cells #[.string ⟨#[97]⟩] 9)) (retag τ v1.heap.size) 2 sb (Fc (nJ P M bf 1 [r]) 0 r) A):=(HR.out.other hs (by decide)).box _;have HE1:Hid (Env w0 (v1.alloc (.cells #[.string ⟨#[97]⟩] 9)) (retag τ v1.heap.size)):=(HE.out.nG hs (by decide)).alloc _;clear HR HE hs;have c:=TZ HR1.out (some ⟨_,0,none⟩) 1 (L:= [⟨#[97]⟩]) (by decide) (by decide) (by decide) (by unfold PF;decide) (Ob _) (fun ib io e=>by cases e;rw[rW];decide) (by show 1<_;omega);rw[fm_r2]at c;unfold ptr at c;go_wp2_with fail
 refine To.gP fun K hK=>?_;go_wp2_with fail
 refine c.mono ?_;rintro e v2 ⟨τ2,A2,rfl,hR2,hP2⟩;clear c;have HR2:Hid (aW (v2.alloc (.cells #[.string ⟨#[97]⟩,.string ⟨#[]⟩] 70)) (retag τ2 v2.heap.size) 2 sb (fmS2 P M bf r) A2):=hR2.box _;have HE2:Hid (Env w0 (v2.alloc (.cells #[.string ⟨#[97]⟩,.string ⟨#[]⟩] 70)) (retag τ2 v2.heap.size)):=(HE1.out.nG hP2 (by decide)).alloc _;clear HR1 HE1 hR2 hP2;have c:=Hy HR2.out (some ⟨_,0,none⟩) 1 (L:= [(⟨#[97]⟩,⟨#[]⟩)]) (by decide) (by decide) (by decide) (by unfold xI;decide) (EM (⟨#[97]⟩,⟨#[]⟩)) (fun ib io e=>by cases e;rw[rW];decide);rw[fm_w3]at c;unfold ptr at c;go_wp2_with fail
 refine To.gP fun K hK=>?_;go_wp2_with fail
 refine c.mono ?_;rintro e v3 ⟨τ3,A3,rfl,RY,CK⟩;clear c;have HE3:Hid (Below w0.heap.size w0 v3):=(HE2.out.nG CK (by decide)).below;clear HR2 HE2 RY CK;go_wp2_with fail
 refine To.last (R:=fun a' w'=>w'=v3/\a'.defers= []/\a'.tmps.getD 8 undef=.bool true) ?_ rfl ?_
 ·go_wp2_with fail
 ·rintro a' todo w' ⟨rfl,d0,q8⟩;refine To.done ⟨rfl,hb,fun u=>⟨rfl,d0,hk,Tryz.f11,by show Tryz.prog.funcs[b.fn]?=_;rw[hb];exact Tryz.func11,?_⟩,HE3.out⟩;rw[<-q8];exact results_tmp rfl _ _ _
end
end Go.Proofs.YteoahlieielcdaaGreat
