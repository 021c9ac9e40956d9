import Derived.Test.YteoahlieielcdaaGreatPrF3
import Derived.Conc.CompanyMem
set_option linter.all false
set_option maxHeartbeats 8000000
set_option maxRecDepth 100000
namespace Go.Proofs.YteoahlieielcdaaGreat
open Go.Proofs.Tryz
open Go Go.RowKit Go.MuLone
abbrev zcb:=@List.getElem?_eq_getElem
abbrev zcc:=@World.block_lt_of_cell?
abbrev zcd:=@Nat.zero_le
variable{kv v:Value}{f:Nat->Bool}{p j q:Nat}{s:MS}{m:MW}
section
def iy(n:Int)(kv:Value)(f:Nat->Bool):Array Value:=#[.int .i64 n,kv,.bool (f 0),.bool (f 1),.bool (f 2),.bool (f 3)]
theorem yC{n:Int}(hp:p<4):(iy n kv f)[2+p]?=some (.bool (f p)):=by
 match p,hp with
 | 0,_=>rfl
 | 1,_=>rfl
 | 2,_=>rfl
 | 3,_=>rfl
theorem ET{n:Int}(hp:p<4):(iy n kv f).setIfInBounds (2+p) (.bool true)=iy n kv (put f p):=by
 match p,hp with
 | 0,_=>simp[iy,put]
 | 1,_=>simp[iy,put]
 | 2,_=>simp[iy,put]
 | 3,_=>simp[iy,put]
def Re(s:MS)(n:Int)(m:MW)(p:Nat):MS:=wY s n {m with comm:=put m.comm p}
theorem Lp{n:Int}(h:bF s n=some m):s.ws[(n-1).toNat]?=some m/\m.ed=false/\1<=n/\n<=s.ws.length:=by
 unfold bF at h;split at h
 ·cases h
 ·rename_i hb;split at h
  ·rename_i m' hm;split at h
   ·cases h
   ·rename_i hc;cases h;exact⟨hm,by simpa using hc,by omega,by omega⟩
  ·cases h
theorem Lq{n:Int}(hf:bF s n=some m)(ho:az s.parts m.items p=true)(ha:je s.parts m=true):eH s n p=(if m.comm p then 10 else 0,Re s n m p):=by
 unfold eH;rw[hf];simp only[ho,ha,Bool.true_eq_false,if_false,Int.toNat_natCast];cases hc:m.comm p with
 |true=>
  have e1:put m.comm p=m.comm:=by funext q;unfold put;split<;>simp_all
  have:Re s n m p=s:=by
   unfold Re wY;rw[e1];have:=(Lp hf).1;obtain⟨hk,hm⟩:=List.getElem?_eq_some_iff.1 this;have e2:s.ws.set (n-1).toNat m=s.ws:=by rw[<-hm];simp
   show {s with ws:=s.ws.set (n-1).toNat m}=s;rw[e2]
  simp[this]
 |false=>simp[Re]
section
variable {w:World}{τ:Nat->Tag}{sb:Nat}{s:MS}{A:SA}
theorem EU(hR:aW w τ 2 sb s A)(xb kb:Nat)(X:Array Value)(hX:aT w xb X 32)(hX0:X[0]?=some (ptr sb))(hxt:(τ xb).1≠2)(n:Nat)(hn:n<=1000)(kv:Value)(f:Nat->Bool)(hK:aT w kb (iy n kv f) 48)(Ej:(τ kb).1≠2)
 (key:ByteArray) (hg:bK key=true) (p:Nat) (hp:partOf s.parts key=p) {m:MW} (hf:bF s n=some m) (ho:az s.parts m.items p=true) (ha:je s.parts m=true) (Rz:m.comm p=f p):
 Calls prog 20 #[ptr xb,ptr kb,.string key] w fun e w'=>∃A' w1,e=.returned (.bool true)/\aW w1 τ 2 sb (Re s n m p) A'/\Stp 2 τ w τ w1/\w'=w1.setCell ⟨kb,2+p,none⟩ (.bool true):=by
 have hp1:=hR.ok.p1;have HY:=hR.ok.p4;obtain⟨q1,q2⟩:=eM (s.parts:Int) key (by omega);have hpP:p<4:=by omega
 have hkz:=dG hg;have cp:=T7 hR key (by unfold maxLen;omega);rw[hg,hp]at cp;simp only[if_true]at cp;have hCM:=Lq hf ho ha;rw[Rz]at hCM;have HCM:Hid (eH s n p=(if f p then 10 else 0,Re s n m p)):=hCM;have HR:Hid (aW w τ 2 sb s A):=hR;have HX:Hid (aT w xb X 32):=hX;have HK:Hid (aT w kb (iy n kv f) 48):=hK;have x0:w.cell? ⟨xb,0,none⟩=some (.pointer (some ⟨sb,0,none⟩)):=hX.cell hX0;have HX0:Hid (X[0]?=some (.pointer (some ⟨sb,0,none⟩))):=hX0;unfold ptr at cp⊢;clear hR hf ho ha Rz hCM hp q1 q2 hg hX hK hX0;go_enter func20,ntmps20;go_wp2_with fail
 refine cp.mono ?_;rintro e w1 ⟨rfl,iM⟩;clear cp x0;have hR1:=HR.out.below iM;have oN:Stp 2 τ w τ w1:=iw iM;have hx1:aT w1 xb X 32:=HX.out.of_eq (iM.block xb HX.out.lt);have hk1:aT w1 kb (iy n kv f) 48:=HK.out.of_eq (iM.block kb HK.out.lt);have x1:w1.cell? ⟨xb,0,none⟩=some (.pointer (some ⟨sb,0,none⟩)):=hx1.cell HX0.out;have k1:w1.cell? ⟨kb,0,none⟩=some (.int .i64 (n:Int)):=hk1.cell (o:=0) rfl;have ZH:aW w1.drew τ 2 sb s A:=hR1.below ((Below.refl w1.heap.size w1).drew);have c2:=JZ ZH (n:Int) (p:Int) (by omega) (by omega) (by omega) (by omega);rw[HCM.out]at c2;unfold ptr at c2;have HS1:Hid (Stp 2 τ w τ w1):=oN;have HX1:Hid (aT w1 xb X 32):=hx1;have XC:Hid (aT w1 kb (iy n kv f) 48):=hk1;have hxl:=hx1.lt;have tu:=hk1.lt;clear hR1 ZH oN hx1 hk1 iM;cases Na:f p with
 |true=>
  rw[Na]at c2;simp only[if_true]at c2;have HFP:Hid (f p=true):=Na;clear Na;go_wp2_with fail
  go_region_held3 (fun W=>W.cell? ⟨xb,0,none⟩=some (.pointer (some ⟨sb,0,none⟩))/\W.cell? ⟨kb,0,none⟩=some (.int .i64 (n:Int))) (simp[*]) ((go_at_call 28;refine c2.mono ?_;rintro e w3 ⟨A3,rfl,RY,CK⟩;have RK:=HX1.out.of_eq (CK.block xb hxl hxt);have RZ:=XC.out.of_eq (CK.block kb tu Ej);have y1:=RK.cell HX0.out;have y2:=RZ.cell (o:=0) (v:=.int .i64 (n:Int)) rfl))
  have on3:=RZ.cell (yC hpP);have fz3:=RZ.frozen (2+p);rw[HFP.out]at on3;have HR3:Hid (aW w3 τ 2 sb (Re s n m p) A3):=RY;have HS3:Hid (Stp 2 τ w τ w3):=HS1.out.trans ⟨CK.os,CK.tape,CK.output,CK.size,CK.tag,CK.block⟩;have g2:(p:Int)<4:=by omega
  clear RY CK RK RZ y1 y2 c2;go_wp2_with fail
  go_ret;exact⟨A3,w3,rfl,HR3.out,HS3.out,rfl⟩
 |false=>
  rw[Na]at c2;simp only[Bool.false_eq_true,if_false]at c2;have HFP:Hid (f p=false):=Na;clear Na;go_wp2_with fail
  go_region_held3 (fun W=>W.cell? ⟨xb,0,none⟩=some (.pointer (some ⟨sb,0,none⟩))/\W.cell? ⟨kb,0,none⟩=some (.int .i64 (n:Int))) (simp[*]) ((go_at_call 28;refine c2.mono ?_;rintro e w3 ⟨A3,rfl,RY,CK⟩;have RK:=HX1.out.of_eq (CK.block xb hxl hxt);have RZ:=XC.out.of_eq (CK.block kb tu Ej);have y1:=RK.cell HX0.out;have y2:=RZ.cell (o:=0) (v:=.int .i64 (n:Int)) rfl))
  have on3:=RZ.cell (yC hpP);have fz3:=RZ.frozen (2+p);rw[HFP.out]at on3;have HR3:Hid (aW w3 τ 2 sb (Re s n m p) A3):=RY;have HS3:Hid (Stp 2 τ w τ w3):=HS1.out.trans ⟨CK.os,CK.tape,CK.output,CK.size,CK.tag,CK.block⟩;have g2:(p:Int)<4:=by omega
  clear RY CK RK RZ y1 y2 c2;go_wp2_with fail
  go_ret;exact⟨A3,w3,rfl,HR3.out,HS3.out,rfl⟩
end
end
section
structure KnD where
 kb:Nat
 n:Nat
 kg:Nat
 cap:Nat
 ks:List ByteArray
structure KnAt(w:World)(d:KnD):Prop where
 num:w.cell? ⟨d.kb,0,none⟩=some (.int .i64 d.n)
 keys:w.cell? ⟨d.kb,1,none⟩=some (.slice (some ⟨d.kg,0,none⟩) d.ks.length d.cap)
 key:∀(j:Nat) (x:ByteArray),d.ks[j]?=some x->w.cell? ⟨d.kg,j,none⟩=some (.string x)
 few:d.ks.length<=8
 lo:1<=d.n
 hi:d.n<=1000
structure KnsAt(w:World)(a:Option Addr)(D:List KnD):Prop where
 at_:∀(i:Nat) (d:KnD),D[i]?=some d->∃b,a=some ⟨b,0,none⟩/\w.cell? ⟨b,i,none⟩=some (ptr d.kb)
 kn:∀(i:Nat) (d:KnD),D[i]?=some d->KnAt w d
 few:D.length<=1000
def ofD(D:List KnD)(n:Nat):Option KnD:=D.find? fun d=>decide (d.n=n)
def ofV:Option KnD->Value
 |some d=>ptr d.kb
 |none=>.pointer none
section
variable {w w':World}{d:KnD}{D:List KnD}{a:Option Addr}
theorem KnAt.below(h:KnAt w d)(hB:Below w.heap.size w w'):KnAt w' d:=
 ⟨(hB.cell (p:=⟨d.kb,0,none⟩) (zcc w _ h.num)).trans h.num,(hB.cell (p:=⟨d.kb,1,none⟩) (zcc w _ h.keys)).trans h.keys,fun j x hx=>(hB.cell (p:=⟨d.kg,j,none⟩) (zcc w _ (h.key j x hx))).trans (h.key j x hx),h.few,h.lo,h.hi⟩
theorem KnsAt.below(h:KnsAt w a D)(hB:Below w.heap.size w w'):KnsAt w' a D:=
 ⟨fun i d hd=>by obtain⟨b,e,hc⟩:=h.at_ i d hd;exact⟨b,e,(hB.cell (p:=⟨b,i,none⟩) (zcc w _ hc)).trans hc⟩,fun i d hd=>(h.kn i d hd).below hB,h.few⟩
theorem ofD_mem{n:Nat}(h:ofD D n=some d):d∈D/\d.n=n:=⟨List.mem_of_find?_eq_some h,by simpa using List.find?_some h⟩
theorem keyIn_take{L:List ByteArray}{x key:ByteArray}(hx:L[j]?=some x):dX (L.take (j+1)) key=(dX (L.take j) key || decide (x=key)):=by obtain⟨hj,rfl⟩:=List.getElem?_eq_some_iff.1 hx;unfold dX;rw[List.take_succ_eq_append_getElem hj,List.any_append];simp only[List.any_cons,List.any_nil,Bool.or_false]
theorem has_any(h:KnAt w d)(key:ByteArray):Calls prog 46 #[ptr d.kb,.string key] w fun e w'=>e=.returned (.bool (dX d.ks key))/\Below w.heap.size w w':=by
 obtain⟨kb,n,kg,cap,ks⟩:=d;obtain⟨c0,c1,c2,few,-,-⟩:=h;simp only at c0 c1 c2 few⊢;have tu:=zcc w _ c1;unfold ptr;have HC2:Hid (∀(j:Nat) (x:ByteArray),ks[j]?=some x->w.cell? ⟨kg,j,none⟩=some (.string x)):=c2;clear c0 c2;go_enter func46,ntmps46;go_wp2_with fail
 go_loopw [5] (fun u wr=>∃j:Nat,j<=ks.length/\u=.int .i64 j/\Below w.heap.size w wr/\Hid (dX (ks.take j) key=false)) (fun u _=>ks.length-(intOf u).toNat)
 case atStart=>exact⟨0,zcd _,rfl,Below.refl _ _,by simp[Hid,dX]⟩
 case round=>
  obtain⟨j,hj,rfl,hB,HN⟩:=hrel;have V3:=(hB.cell (p:=⟨kb,1,none⟩) tu).trans c1;by_cases hlt:j<ks.length
  ·have hx:ks[j]?=some ks[j]:=zcb hlt;have c2:=HC2.out j _ hx;have c2':=(hB.cell (p:=⟨kg,j,none⟩) (zcc w _ c2)).trans c2;have hst:=keyIn_take (key:=key) hx;rw[HN.out,Bool.false_or]at hst;have HM:Hid (ks[j]=key->dX ks key=true):=fun e=>jE.2 (e▸List.getElem_mem _);generalize ks[j]=x at *;have q0:(j:Int)< (ks.length:Int):=by omega
   by_cases he:x=key
   ·have hb:=sY he;have HT:Hid (dX ks key=true):=HM.out he;clear he hst hx c2 HM HN;go_wp2_with fail
    go_ret;exact⟨dH (by rw[HT.out]),hB⟩
   ·have hb:=sX he;have HN':Hid (dX (ks.take (j+1)) key=false):=by unfold Hid;rw[hst];simp[he]
    clear he hst hx c2 HM HN;go_wp2_with fail
    go_roundw
    case rel=>exact⟨j+1,by omega,by go_num,hB,HN'⟩
    case measure=>simp[intOf];omega
  ·have hjn:j=ks.length:=by omega
   subst hjn;have HT:Hid (dX ks key=false):=by have:=HN.out;rwa [List.take_length]at this
   clear HN;go_wp2_with fail
   go_ret;exact⟨dH (by rw[HT.out]),hB⟩
theorem of_any{xb cap:Nat}(hx:w.cell? ⟨xb,1,none⟩=some (.slice a D.length cap))(h:KnsAt w a D)(n:Nat)(hn:n<=1000):Calls prog 45 #[ptr xb,.int .i64 n] w fun e w'=>e=.returned (ofV (ofD D n))/\Below w.heap.size w w':=by
 have hxl:=zcc w _ hx;have few:=h.few;unfold ptr;have H:Hid (KnsAt w a D):=h;clear h;go_enter func45,ntmps45;go_wp2_with fail
 go_loopw [5] (fun u wr=>∃j:Nat,j<=D.length/\u=.int .i64 j/\Below w.heap.size w wr/\Hid (∀d∈D.take j,d.n≠n)) (fun u _=>D.length-(intOf u).toNat)
 case atStart=>exact⟨0,zcd _,rfl,Below.refl _ _,fun d hd=>by simp at hd⟩
 case round=>
  obtain⟨j,hj,rfl,hB,HN⟩:=hrel;have V3:=(hB.cell (p:=⟨xb,1,none⟩) hxl).trans hx;by_cases hlt:j<D.length
  ·have hd:D[j]?=some D[j]:=zcb hlt;obtain⟨b,rfl,c2⟩:=H.out.at_ j _ hd;have c3:=(H.out.kn j _ hd).num;have hi:=(H.out.kn j _ hd).hi;unfold ptr at c2;have c2':=(hB.cell (p:=⟨b,j,none⟩) (zcc w _ c2)).trans c2;have c3':=(hB.cell (p:=⟨D[j].kb,0,none⟩) (zcc w _ c3)).trans c3;have HT:Hid (D[j].n=n->ofV (ofD D n)=.pointer (some ⟨D[j].kb,0,none⟩)):=fun e=>by
    have:ofD D n=some D[j]:=by have h1:=HN.out;unfold ofD;rw[List.find?_eq_some_iff_getElem];refine⟨by simpa using e,j,hlt,rfl,fun i hi=>?_⟩;have:=h1 D[i] (List.mem_take_iff_getElem.2 ⟨i,by omega,rfl⟩);simpa using this
    rw[this];rfl
   have HS:Hid (D[j].n≠n->∀d∈D.take (j+1),d.n≠n):=fun e d hd=>by
    rw[List.take_succ_eq_append_getElem hlt]at hd;rcases List.mem_append.1 hd with h|h
    ·exact HN.out d h
    ·simp at h;subst h;exact e
   generalize D[j]=d at *;obtain⟨kb,m,kg,bC,ks⟩:=d;simp only at c2 c3 c2' c3' hi HT HS;have q0:(j:Int)< (D.length:Int):=by omega
   clear c2 c3 hd HN;by_cases he:m=n
   ·subst he;have HV:Hid _:=HT.out rfl;clear HT HS;go_wp2_with fail
    go_ret;exact⟨by rw[HV.out];rfl,hB⟩
   ·have he':((m:Int)==(n:Int))=false:=by simp;omega
    have HN':Hid _:=HS.out he;clear HT HS he;go_wp2_with fail
    go_roundw
    case rel=>exact⟨j+1,by omega,by go_num,hB,HN'⟩
    case measure=>simp[intOf];omega
  ·have hjn:j=D.length:=by omega
   subst hjn;have HT:Hid (ofV (ofD D n)=.pointer none):=by
    have:ofD D n=none:=by unfold ofD;rw[List.find?_eq_none];intro d hd;have:=HN.out d (by rwa [List.take_length]);simpa using this
    unfold Hid;rw[this];rfl
   clear HN;go_wp2_with fail
   go_ret;exact⟨by rw[HT.out];rfl,hB⟩
end
section
variable {P:Program}{md:Region.Mode}{ops:Array Oper}{Q:Exit->Act->World->Prop}{S:World->Prop}{i fuel:Nat}{oi:Oper}{v:Value}{listed:Array Bool}{a:Act}{w:World}
theorem tD(hi:ops[i]?=some oi)(hy:∀W,S W->(execOp a.eval oi).run P W=.ok (.value v) W)(hk:(Region.noSelect ops && Region.free md ops listed i &&(Region.ready md ops listed).contains i)=true:=by kernel_rfl)(hQ:∀c a w,Q (.panic c) (a.put oi.dst v) w->Q (.panic c) a w:=by exact fun _ _ _ h=>h)(hw:Region.wanted oi (yielded ops a.tmps)=true:=by rfl)
 (hS:S w:=by assumption) (h:wpAnyH P md ops Q S fuel (listed.setIfInBounds i true) (a.put oi.dst v) w):wpAnyH P md ops Q S (fuel+1) listed a w:=by simp only[Bool.and_eq_true]at hk;exact wpAnyH_take hi hk.1.1 hk.1.2 hk.2 hQ (.inl ⟨hw,hy⟩) hS h
theorem Ib(hi:ops[i]?=some oi)(hk:(Region.noSelect ops && Region.free md ops listed i &&(Region.ready md ops listed).contains i)=true:=by kernel_rfl)(hQ:∀c a w,Q (.panic c) (a.put oi.dst undef) w->Q (.panic c) a w:=by exact fun _ _ _ h=>h)(hw:Region.wanted oi (yielded ops a.tmps)=false:=by rfl)
 (hS:S w:=by assumption) (h:wpAnyH P md ops Q S fuel (listed.setIfInBounds i true) (a.put oi.dst undef) w):wpAnyH P md ops Q S (fuel+1) listed a w:=by simp only[Bool.and_eq_true]at hk;exact wpAnyH_take hi hk.1.1 hk.1.2 hk.2 hQ (.inr ⟨hw,rfl⟩) hS h
end
end
section
section
variable {P p:Nat}{M:Int}{cm:Nat->Bool}{k:Nat}{rs:List MR}
theorem val_find(n:Nat)(x:ByteArray):∀{L:List ByteArray},x∈L->(aS L n).find? (fun y=>decide (y.1=x))=some (x,x++oM n):=by
 intro L;induction L with
 |nil=>intro h;cases h
 |cons y r ih=>
  intro h;show List.find? _ ((y,y++oM n):: aS r n)=_;by_cases e:y=x
  ·subst e;simp
  ·rw[List.find?_cons_of_neg (by simpa using e)];rcases List.mem_cons.1 h with h|h
   ·exact absurd h.symm e
   ·exact ih h
end
end
section
structure RtD where
 ks:List ByteArray
 kg:Nat
 bC:Nat
 sure:List Nat
 sa:Option Addr
 scap:Nat
 ab:Nat
 lS:Nat
 wn:Nat->Nat
 vl:Nat->ByteArray
structure RtAt(w:World)(xb rb wcap:Nat)(a:Option Addr)(D:List KnD)(R:RtD):Prop where
 xw:w.cell? ⟨xb,1,none⟩=some (.slice a D.length wcap)
 kns:KnsAt w a D
 rk:w.cell? ⟨rb,1,none⟩=some (.slice (some ⟨R.kg,0,none⟩) R.ks.length R.bC)
 rs:w.cell? ⟨rb,3,none⟩=some (.slice R.sa R.sure.length R.scap)
 key:∀(j:Nat) (x:ByteArray),R.ks[j]?=some x->w.cell? ⟨R.kg,j,none⟩=some (.string x)/\x.size<=1000
 sure:∀(j m:Nat),R.sure[j]?=some m->m<=1000/\∃b,R.sa=some ⟨b,0,none⟩/\w.cell? ⟨b,j,none⟩=some (.int .i64 m)
 NS:∀(j:Nat) (x:ByteArray),R.ks[j]?=some x->R.wn j<=1000/\w.cell? ⟨R.ab,j*3,none⟩=some (.string x)/\w.cell? ⟨R.ab,j*3+1,none⟩=some (.int .i64 (R.wn j))/\w.cell? ⟨R.ab,j*3+2,none⟩=some (.string (R.vl j))
 few:R.ks.length<=8
 fews:R.sure.length<=1000
structure RtOk(D:List KnD)(ks:List ByteArray)(sure:List Nat)(wn:Nat->Nat)(vl:Nat->ByteArray):Prop where
 zero:∀(j:Nat) (x:ByteArray),ks[j]?=some x->wn j=0->vl j=⟨#[]⟩
 wrt:∀(i:Nat) (x:ByteArray),ks[i]?=some x->wn i≠0->∃d,ofD D (wn i)=some d/\dX d.ks x=true/\vl i=x++oM d.n/\∀(j:Nat) (y:ByteArray),ks[j]?=some y->dX d.ks y=true->d.n<=wn j
 sure:∀(j m:Nat),sure[j]?=some m->∃d,ofD D m=some d/\∀(i:Nat) (x:ByteArray),ks[i]?=some x->dX d.ks x=true->d.n<=wn i
section
variable {w w':World}{D:List KnD}{a:Option Addr}{R:RtD}{xb rb wcap:Nat}
theorem below_cell(hB:Below w.heap.size w w'){p:Addr}(h:w.cell? p=some v):w'.cell? p=some v:=(hB.cell (p:=p) (zcc w _ h)).trans h
theorem RtAt.below(h:RtAt w xb rb wcap a D R)(hB:Below w.heap.size w w'):RtAt w' xb rb wcap a D R:=
 ⟨below_cell hB h.xw,h.kns.below hB,below_cell hB h.rk,below_cell hB h.rs,fun j x hx=>⟨below_cell hB (h.key j x hx).1,(h.key j x hx).2⟩,fun j m hm=>by
   obtain⟨h1,b,e,hc⟩:=h.sure j m hm;exact⟨h1,b,e,below_cell hB hc⟩,fun j x hx=>by obtain⟨h1,h2,h3,h4⟩:=h.NS j x hx;exact⟨h1,below_cell hB h2,below_cell hB h3,below_cell hB h4⟩,h.few,h.fews⟩
theorem KnsAt.of(h:KnsAt w a D){n:Nat}{d:KnD}(hd:ofD D n=some d):KnAt w d:=by obtain⟨i,hi⟩:=List.getElem?_of_mem (ofD_mem hd).1;exact h.kn i d hi
theorem right_any(h:RtAt w xb rb wcap a D R)(ho:RtOk D R.ks R.sure R.wn R.vl):Calls prog 24 #[ptr xb,ptr rb,.slice (some ⟨R.ab,0,none⟩) R.ks.length R.lS] w fun e w'=>e=.returned (.bool true)/\Below w.heap.size w w':=by
 obtain⟨ks,kg,bC,sure,sa,scap,ab,lS,wn,vl⟩:=R;have H:Hid (RtAt w xb rb wcap a D ⟨ks,kg,bC,sure,sa,scap,ab,lS,wn,vl⟩):=h;have HO:Hid (RtOk D ks sure wn vl):=ho;have few:ks.length<=8:=h.few;have fews:sure.length<=1000:=h.fews;have rk:w.cell? ⟨rb,1,none⟩=some (.slice (some ⟨kg,0,none⟩) ks.length bC):=h.rk;clear h ho;simp only;unfold ptr;go_enter func24,ntmps24;go_wp2_with fail
 clear rk;go_loopw [7] (fun u wr=>∃j:Nat,j<=ks.length/\u=.int .i64 j/\Below w.heap.size w wr) (fun u _=>ks.length-(intOf u).toNat)
 case atStart=>exact⟨0,zcd _,rfl,Below.refl _ _⟩
 case round=>
  obtain⟨i,hi,rfl,hB⟩:=hrel;by_cases hlt:i<ks.length
  ·have HX:Hid (ks[i]?=some ks[i]):=zcb hlt;have H1:=H.out.below hB;have rk:wr.cell? ⟨rb,1,none⟩=some (.slice (some ⟨kg,0,none⟩) ks.length bC):=H1.rk;obtain⟨kc,hz⟩:=H1.key i _ HX.out;obtain⟨hw,a0,a1,a2⟩:=H1.NS i _ HX.out;simp only at kc hz hw a0 a1 a2;generalize ks[i]=x at *;have ajy:(x.toList == x.toList)=true:=by simp
   have q0:(i:Int)< (ks.length:Int):=by omega
   have co:=of_any (w:=wr.drew) (H.out.below hB.drew).xw (H.out.below hB.drew).kns (wn i) hw;unfold ptr at co;clear H1;obtain⟨wi,hwi⟩:∃wi,wn i=wi:=⟨_,rfl⟩
   rw[hwi]at co a1 hw;have HWI:Hid (wn i=wi):=hwi;clear hwi;go_wp2_with fail
   go_region_held3 (fun W=>W.cell? ⟨ab,i*3,none⟩=some (.string x)/\W.cell? ⟨rb,1,none⟩=some (.slice (some ⟨kg,0,none⟩) ks.length bC)/\W.cell? ⟨kg,i,none⟩=some (.string x)) (simp[*]) (fail)
   go_wp2_with fail
   refine co.mono ?_;rintro e w1 ⟨rfl,iM⟩;clear co;have Eg:Below w.heap.size w w1:=hB.drew.trans (iM.mono hB.size);replace a0:=below_cell iM a0;replace a1:=below_cell iM a1;replace a2:=below_cell iM a2;clear iM hB rk kc;by_cases h0:wi=0;case' pos=>
    subst h0
    have hv:vl i=⟨#[]⟩:=HO.out.zero i x HX.out HWI.out
    rw[hv]at a2
    clear hv
    replace a1:w1.cell? ⟨ab,i*3+1,none⟩=some (.int .i64 0):=a1
    go_wp2_with fail
    have hBz:=Eg
    clear a0 a1 a2 Eg
   case' neg=>
    obtain⟨d,hd,hk,hv,hle⟩:=HO.out.wrt i x HX.out (by rw[HWI.out];exact h0)
    have HLE:Hid (∀(j:Nat) (y:ByteArray),ks[j]?=some y->dX d.ks y=true->d.n<=wn j):=hle
    rw[HWI.out]at hd
    have K0:=H.out.kns.of hd
    have HK0:Hid (KnAt w d):=K0
    have hdl:=K0.lo
    have hdh:=K0.hi
    simp only[hd,ofV,ptr]
    rw[hv]at a2
    have ch:=has_any (K0.below Eg) x
    rw[hk]at ch
    unfold ptr at ch
    clear hv hk hle hd K0
    have h0':((wi:Int)== 0)=false:=by simp;omega
    go_wp2_with fail
    refine ch.mono ?_
    rintro e w2 ⟨rfl,dP⟩
    clear ch
    have hBb:Below w.heap.size w w2:=Eg.trans (dP.mono Eg.size)
    replace a0:=below_cell dP a0
    replace a2:=below_cell dP a2
    clear a1 dP Eg
    have n0:=(HK0.out.below hBb).num
    have cd:=yx (w:=w2.drew) d.n hdl hdh
    have hdz:=uW d.n
    have hab:=zcc w2 _ a0
    have hkb:=zcc w2 _ n0
    generalize oM d.n=dg at *
    have hxd:x.size+dg.size<=9223372036854775807:=by omega
    have yA:∀W:World,(Op.stringOp BinOp.add x dg).run prog W=.ok (.string (x++dg)) W:=by intro W;go_simp
    have ZW:((x++dg).toList ==(x++dg).toList)=true:=by simp
    go_wp2_with fail
    go_region_held3 (fun W=>W.cell? ⟨ab,i*3,none⟩=some (.string x)/\W.cell? ⟨ab,i*3+2,none⟩=some (.string (x++dg))/\W.cell? ⟨d.kb,0,none⟩=some (.int .i64 (d.n:Int))) (simp[*]) ((go_at_call 25;refine cd.mono ?_;rintro e w3 ⟨rfl,lU⟩;have m1:=(lU.cell (p:=⟨ab,i*3,none⟩) hab).trans a0;have m2:=(lU.cell (p:=⟨ab,i*3+2,none⟩) hab).trans a2;have m3:=(lU.cell (p:=⟨d.kb,0,none⟩) hkb).trans n0))
    clear cd a0 a2 n0 m1 m2 m3 yA ZW
    have Rj:Below w.heap.size w w3:=hBb.drew.trans (lU.mono hBb.size)
    clear lU hBb
    go_wp2_with fail
    go_loopw [10] (fun u wr=>∃j:Nat,j<=ks.length/\u=.int .i64 j/\Below w.heap.size w wr) (fun u _=>ks.length-(intOf u).toNat)
    case atStart=>exact⟨0,zcd _,rfl,Rj⟩
    case' round=>
     rename World=>Rc
     obtain⟨j,hj,rfl,hBd⟩:=hrel
     clear Rj
     by_cases hjl:j<ks.length
     case pos=>
      have hy:ks[j]?=some ks[j]:=zcb hjl
      obtain⟨hw2,b0,b1,-⟩:=(H.out.below hBd).NS j _ hy
      simp only at hw2 b0 b1
      have HL:Hid (dX d.ks ks[j]=true->d.n<=wn j):=HLE.out j _ hy
      generalize ks[j]=y at *
      have ch:=has_any (HK0.out.below hBd) y
      unfold ptr at ch
      have q1:(j:Int)< (ks.length:Int):=by omega
      clear hy
      go_wp2_with fail
      refine ch.mono ?_
      rintro e w4 ⟨rfl,rj⟩
      clear ch
      have hBe:Below w.heap.size w w4:=hBd.trans (rj.mono hBd.size)
      replace b1:=below_cell rj b1
      have n1:=(HK0.out.below hBe).num
      clear b0 rj hBd
      cases hb:dX d.ks y with
      |true=>
       have hge:¬((wn j:Int)< (d.n:Int)):=by have:=HL.out hb;omega
       clear HL hb
       go_wp2_with fail
       go_region_held3 (fun W=>W.cell? ⟨ab,j*3+1,none⟩=some (.int .i64 (wn j:Int))/\W.cell? ⟨d.kb,0,none⟩=some (.int .i64 (d.n:Int))) (simp[*]) (fail)
       go_wp2_with fail
       go_roundw
       case rel=>exact⟨j+1,by omega,by go_num,hBe.drew⟩
       case measure=>simp[intOf];omega
      |false=>
       clear HL hb
       go_wp2_with fail
       refine wp_region_held_drew (S:=fun _=>True) (by kernel_rfl) trivial (fun hHeld=>?_)
       co_applyP tD (i:=0) rfl (fun W _=>?b0);(case b0=>go_simp;all_goals with_reducible rfl);try walk_nrm
       co_applyP tD (i:=1) rfl (fun W _=>?b1);(case b1=>go_simp;all_goals with_reducible rfl);try walk_nrm
       co_applyP Ib (i:=2) rfl;try walk_nrm
       co_applyP Ib (i:=3) rfl;try walk_nrm
       co_applyP Ib (i:=4) rfl;try walk_nrm
       co_applyP Ib (i:=5) rfl;try walk_nrm
       co_applyP Ib (i:=6) rfl;try walk_nrm
       co_applyP Ib (i:=7) rfl;try walk_nrm
       co_applyP Ib (i:=8) rfl;try walk_nrm
       co_applyP Ib (i:=9) rfl;try walk_nrm
       co_applyP Ib (i:=10) rfl;try walk_nrm
       co_applyP Ib (i:=11) rfl;try walk_nrm
       co_applyP tD (i:=12) rfl (fun W _=>?Vh);(case Vh=>go_simp;all_goals with_reducible rfl);try walk_nrm
       refine wpAnyH_done (by kernel_rfl) ?_ _
       go_wp2_with fail
       go_roundw
       case rel=>exact⟨j+1,by omega,by go_num,hBe.drew⟩
       case measure=>simp[intOf];omega
     go_wp2_with fail
     have hBz:=hBd
     clear hBd HLE HK0
   all_goals
    go_loopw [12] (fun u wr=>∃j:Nat,j<=sure.length/\u=.int .i64 j/\Below w.heap.size w wr) (fun u _=>sure.length-(intOf u).toNat)
    case atStart=>exact⟨0,zcd _,rfl,hBz⟩
    case round=>
     rename World=>XB
     obtain⟨j,hj,rfl,hBs⟩:=hrel
     clear hBz
     have H2:=H.out.below hBs
     have rs:=H2.rs
     simp only at rs
     by_cases hjl:j<sure.length
     ·obtain⟨hm,b,hsa,sc⟩:=H2.sure j _ (zcb hjl)
      obtain⟨d2,hd2,ajK⟩:=HO.out.sure j _ (zcb hjl)
      simp only at hm hsa sc
      have HL:Hid (dX d2.ks x=true->d2.n<=wn i):=ajK i x HX.out
      generalize sure[j]=m at *
      rw[hsa]at rs
      have co:=of_any H2.xw H2.kns m hm
      rw[hd2]at co
      unfold ofV ptr at co
      have Ud:Hid (KnAt w d2):=H.out.kns.of hd2
      have q1:(j:Int)< (sure.length:Int):=by omega
      clear H2 hd2 ajK hsa
      go_wp2_with fail
      refine co.mono ?_
      rintro e w5 ⟨rfl,Df⟩
      clear co rs sc
      have hBt:Below w.heap.size w w5:=hBs.trans (Df.mono hBs.size)
      clear Df hBs
      obtain⟨Rt,b0,b1,-⟩:=(H.out.below hBt).NS i _ HX.out
      simp only at Rt b0 b1
      have ch:=has_any (Ud.out.below hBt) x
      unfold ptr at ch
      go_wp2_with fail
      refine ch.mono ?_
      rintro e w6 ⟨rfl,BH⟩
      clear ch
      have C7:Below w.heap.size w w6:=hBt.trans (BH.mono hBt.size)
      replace b1:=below_cell BH b1
      have n1:=(Ud.out.below C7).num
      clear b0 BH hBt
      cases hb:dX d2.ks x with
      |true=>
       have hge:¬((wn i:Int)< (d2.n:Int)):=by have:=HL.out hb;omega
       clear HL hb
       go_wp2_with fail
       go_region_held3 (fun W=>W.cell? ⟨ab,i*3+1,none⟩=some (.int .i64 (wn i:Int))/\W.cell? ⟨d2.kb,0,none⟩=some (.int .i64 (d2.n:Int))) (simp[*]) (fail)
       go_wp2_with fail
       go_roundw
       case rel=>exact⟨j+1,by omega,by go_num,C7.drew⟩
       case measure=>simp[intOf];omega
      |false=>
       clear HL hb
       go_wp2_with fail
       refine wp_region_held_drew (S:=fun _=>True) (by kernel_rfl) trivial (fun hHeld=>?_)
       co_applyP tD (i:=0) rfl (fun W _=>?b0);(case b0=>go_simp;all_goals with_reducible rfl);try walk_nrm
       co_applyP tD (i:=1) rfl (fun W _=>?b1);(case b1=>go_simp;all_goals with_reducible rfl);try walk_nrm
       co_applyP Ib (i:=2) rfl;try walk_nrm
       co_applyP Ib (i:=3) rfl;try walk_nrm
       co_applyP Ib (i:=4) rfl;try walk_nrm
       co_applyP Ib (i:=5) rfl;try walk_nrm
       co_applyP Ib (i:=6) rfl;try walk_nrm
       co_applyP Ib (i:=7) rfl;try walk_nrm
       co_applyP Ib (i:=8) rfl;try walk_nrm
       co_applyP Ib (i:=9) rfl;try walk_nrm
       co_applyP Ib (i:=10) rfl;try walk_nrm
       co_applyP Ib (i:=11) rfl;try walk_nrm
       co_applyP tD (i:=12) rfl (fun W _=>?Vh);(case Vh=>go_simp;all_goals with_reducible rfl);try walk_nrm
       refine wpAnyH_done (by kernel_rfl) ?_ _
       go_wp2_with fail
       go_roundw
       case rel=>exact⟨j+1,by omega,by go_num,C7.drew⟩
       case measure=>simp[intOf];omega
     ·clear H2
      go_wp2_with fail
      go_roundw
      case rel=>exact⟨i+1,by omega,by go_num,hBs⟩
      case measure=>simp[intOf];omega
  ·have hin:i=ks.length:=by omega
   subst hin;go_wp2_with fail
   go_ret;exact⟨rfl,hB⟩
end
end
section
section
variable {w0 w w':World}{τ τ':Nat->Tag}{sb xb lb kb n:Nat}{s s':MS}{A A':SA}{lv:Nat->Nat}{kv:Value}{f:Nat->Bool}
theorem VW(hE:Env w0 w τ)(ht:(τ q).1=1):w0.heap.size<=q:=by
 rcases Nat.lt_or_ge q w0.heap.size with e|e
 ·rw[hE.yt q e]at ht;cases ht
 ·exact e
end
end
section
theorem LJ:∀b,b<64->∀x∈aA b,x≠kx:=by decide+kernel
def gR(L:List ByteArray)(v:ByteArray->Nat)(m:Nat):MR:={keys:=L,asked:=fun q=>decide (m<=q)&& decide (q<L.length),found:=fun q=>if m<=q/\q<L.length then v (L.getD q ⟨#[]⟩)else 0,fin:=false}
section
variable {P:Nat}{M:Int}{bf:Nat->Nat}{k:Nat}{L:List ByteArray}{v:ByteArray->Nat}
theorem OK:iG (gR L v 0)=true:=by unfold iG;simp only[List.all_eq_true,List.mem_range];intro j hj;show (decide (0<=j)&& decide (j<L.length))=true;have:j<L.length:=hj;simp[this]
end
end
end Go.Proofs.YteoahlieielcdaaGreat
