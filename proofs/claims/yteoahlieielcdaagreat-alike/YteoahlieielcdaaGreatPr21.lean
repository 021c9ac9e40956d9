import Derived.Test.YteoahlieielcdaaGreatPrT
import Derived.Test.YteoahlieielcdaaGreatRef10
set_option linter.all false
set_option maxHeartbeats 6000000
set_option maxRecDepth 100000
namespace Go.Proofs.YteoahlieielcdaaGreat
open Go.Proofs.Tryz
open Go Go.RowKit Go.MuLone
open Go.Maps (Keyed)
abbrev za9:=@RowKit.Below.heap_setCell
abbrev zba:=@List.getElem?_eq_getElem
abbrev zbb:=@World.cell?_of_block
abbrev zbc:=@World.block_lt_of_cell?
variable{w' w:World}{τ':Nat->Tag}{rs' rs:List MR}{B' B:SB}{i j b cnt pr:Nat}{r r':MR}{v ts ks:Value}{x tv key:ByteArray}{hv no:Bool}{n:Int}{l:List KV}{P:Program}{D:DataW Value}{qb:Nat->Nat}
section
section
variable {w:World}{τ:Nat->Tag}{aD b:Nat}{s:MS}{A:SA}
theorem aW.IC(h:aW w τ aD b s A)
 (hf:∀k,k<w.heap.size->(τ k).1=aD->0< (τ k).2.1->((τ k).2.1<10\/(τ k).2.1=15)->w'.heap[k]?=w.heap[k]? /\τ' k=τ k) (htb:τ' b=(aD,0,0))
 (hok:MOk {s with rs:=rs'}) (aaz:ze {s with rs:=rs'} {A with R:=B'}) (hb:aT w' b #[.int .i64 s.mode,A.cD,fy,gF,.int .i64 s.ws.length,.int .i64 rs'.length,.map (some A.wm),.map (some B'.rm)] 105)
 (hr:RdS w' τ' aD s.parts A.pb rs' B'):aW w' τ' aD b {s with rs:=rs'} {A with R:=B'}:=by
 have mW:∀{k:Nat} {c:Array Value} {t:TypeId} {g g':Nat},0<g->g<10->aT w k c t->τ k=(aD,g,g')->aT w' k c t/\τ' k=(aD,g,g'):=by intro k c t g g' hg hg' hb ht;obtain⟨e1,e2⟩:=hf k hb.lt (by rw[ht]) (by rw[ht];exact hg) (by rw[ht];exact .inl hg');exact⟨hb.of_eq e1,e2.trans ht⟩
 have hmap:∀{k:Nat} {t:TypeId} {f:Lit->Option Value} {g g':Nat},0<g->g<10->aK w prog t k f->τ k=(aD,g,g')->aK w' prog t k f/\τ' k=(aD,g,g'):=by intro k t f g g' hg hg' hb ht;obtain⟨e1,e2⟩:=hf k hb.lt (by rw[ht]) (by rw[ht];exact hg) (by rw[ht];exact .inl hg');exact⟨hb.of_eq e1,e2.trans ht⟩
 have hrow:∀{e:TypeId} {sz:Nat} {v:Value} {n:Nat} {xs:List Value} {g g':Nat},0<g->g<10->w.ownsRow 0 e sz v n xs->(∀k,v.ownBlock=some k->τ k=(aD,g,g'))->w'.ownsRow 0 e sz v n xs/\∀k,v.ownBlock=some k->τ' k=(aD,g,g'):=by intro e sz v n xs g g' hg hg' ho hv;refine⟨ak ho (fun k hk=>(hf k (aR ho k hk).2 (by rw[hv k hk]) (by rw[hv k hk];exact hg) (by rw[hv k hk];exact .inl hg')).1),fun k hk=>?_⟩;rw[(hf k (aR ho k hk).2 (by rw[hv k hk]) (by rw[hv k hk];exact hg) (by rw[hv k hk];exact .inl hg')).2,hv k hk]
 exact⟨hok,⟨h.inv.cp,h.inv.po,h.inv.cc⟩,aaz,hb,htb,(hrow (by omega) (by omega) h.cD h.eI).1,(hrow (by omega) (by omega) h.cD h.eI).2,
  fun q hq=>(mW (by omega) (by omega) (h.part q hq) (h.cS q hq)).1,fun q hq=>(mW (by omega) (by omega) (h.part q hq) (h.cS q hq)).2,
  fun q hq=>(hmap (by omega) (by omega) (h.kept q hq) (h.cC q hq)).1,fun q hq=>(hmap (by omega) (by omega) (h.kept q hq) (h.cC q hq)).2,
  fun q hq=>(hmap (by omega) (by omega) (h.tH q hq) (h.eZ q hq)).1,fun q hq=>(hmap (by omega) (by omega) (h.tH q hq) (h.eZ q hq)).2,fun q hq=>⟨(h.l6 q hq).seen,(h.l6 q hq).top⟩,
  (hmap (by omega) (by omega) h.sC h.iU).1,(hmap (by omega) (by omega) h.sC h.iU).2,
  fun i m a c=>(mW (by omega) (by omega) (h.wr i m a c) (h.fB i m a c)).1,fun i m a c=>(mW (by omega) (by omega) (h.wr i m a c) (h.fB i m a c)).2,
  fun i m a c=>(hmap (by omega) (by omega) (h.Pd i m a c) (h.jh i m a c)).1,fun i m a c=>(hmap (by omega) (by omega) (h.Pd i m a c) (h.jh i m a c)).2,
  fun i m q a c o=>(mW (by omega) (by omega) (h.sh i m q a c o) (h.cG i m q a c o)).1,fun i m q a c o=>(mW (by omega) (by omega) (h.sh i m q a c o) (h.cG i m q a c o)).2,
  fun i m q a c o=>(hrow (by omega) (by omega) (h.it i m q a c o) (fun k=>h.fA i m q k a c o)).1,fun i m q k a c o=>(hrow (by omega) (by omega) (h.it i m q a c o) (fun k=>h.fA i m q k a c o)).2 k,hr,
  fun i m a=>(h.La i m a).of fun k hk ht=>hf k hk (by rw[ht]) (by rw[ht];simp) (by rw[ht];exact .inr rfl)⟩
theorem LY(hr:rs[i]?=some r)(hf:r'.fin=r.fin)(n:Int):(fO (rs.set i r') n).isSome=(fO rs n).isSome:=by
 unfold fO;simp only[List.length_set];split
 ·rfl
 ·rw[List.getElem?_set];by_cases e:i=(n-1).toNat
  ·rw[if_pos e,<-e,hr,if_pos (aE hr)];simp only[hf];cases r.fin<;>rfl
  ·rw[if_neg e]
theorem ID(hr:rs[i]?=some r)(hf:r'.fin=r.fin):dc (rs.set i r') B=dc rs B:=by
 funext kl;cases kl with
 |int k n=>
  cases k<;>try rfl
  simp only[dc];have:=LY hr hf n;cases h1:fO (rs.set i r') n<;>cases h2:fO rs n<;>simp[h1,h2]at this⊢
 |_=>rfl
def j9(B:SB)(i j:Nat)(hv:Bool)(tv:ByteArray)(ts:Value):SB:=
 {B with hv:=fun i' j'=>if i'=i/\j'=j then hv else B.hv i' j',tv:=fun i' j'=>if i'=i/\j'=j then tv else B.tv i' j',ts:=fun i' j'=>if i'=i/\j'=j then ts else B.ts i' j'}
theorem aW.ask(h:aW w τ aD b s A){v:Nat}(hhv:hv=(!A.R.no i && decide (v≠0)))(htv:hv=true->∃m,s.ws[v-1]?=some m/\jg m.items x=some tv/\ts=A.sv (v-1))(ht0:hv=false->tv=⟨#[]⟩/\ts=.nilIface)
 (Wl:v≠0->∃m,s.ws[v-1]?=some m/\aH m.items x=true/\m.comm (partOf s.parts x).toNat=true) (hr:s.rs[i]?=some r) (jr:r.fin=false) (hx:r.keys[j]?=some x) {w':World}
 (hne:∀k,k<w.heap.size->k≠A.R.qb i j->w'.heap[k]?=w.heap[k]?) (hq:aT w' (A.R.qb i j) #[ptr (A.pb (partOf s.parts x).toNat),.bool true,.int .i64 v,.bool hv,.string tv,ts] 146):
 aW w' τ aD b {s with rs:=s.rs.set i {r with asked:=put r.asked j,found:=fun q=>if q=j then v else r.found q}} {A with R:=j9 A.R i j hv tv ts}:=by
 have hi:=aE hr;have hjl:=aE hx;have ht:=h.reads.lA i r j x hr jr hx;have hne':∀{k:Nat},k<w.heap.size->τ k≠(aD,13,i*8+j)->w'.heap[k]?=w.heap[k]? :=fun hl hk=>hne _ hl (fun e=>hk (by rw[e];exact ht));have dK:∀{q:Nat} {rq:MR},(s.rs.set i {r with asked:=put r.asked j,found:=fun q=>if q=j then v else r.found q})[q]?=some rq->∃ro,s.rs[q]?=some ro/\rq.keys=ro.keys/\rq.fin=ro.fin:=by
  intro q rq hq;rcases jU hq with⟨rfl,rfl⟩|⟨_,hq⟩
  ·exact⟨r,hr,rfl,rfl⟩
  ·exact⟨rq,hq,rfl,rfl⟩
 refine h.IC (B':=j9 A.R i j hv tv ts) (fun k hk _ _ JQ=>⟨hne' hk (fun e=>by rw[e]at JQ;simp at JQ),rfl⟩) h.tag ⟨h.ok.p1,h.ok.p4,h.ok.len,h.ok.items,fun q rq hq=>?_,?_⟩ ?_ ?_ ⟨?_,h.reads.gS,fun q rq hq hf=>?_,fun q rq hq hf=>?_,fun q rq hq hf=>?_,fun q rq hq hf=>?_,fun q rq j' x' hq hf hx'=>?_,fun q rq j' x' hq hf hx'=>?_,fun q rq hq hf=>?_,fun q rq k hq hf=>?_⟩
 ·obtain⟨ro,ho,e,_⟩:=dK hq;rw[e];exact h.ok.keys q ro ho
 ·show cj (s.rs.set i {r with asked:=put r.asked j,found:=fun q=>if q=j then v else r.found q})<=50;rw[AP (r':={r with asked:=put r.asked j,found:=fun q=>if q=j then v else r.found q}) hr rfl];exact h.ok.opn
 ·have iF:∀{q:Nat} {rq:MR},(s.rs.set i {r with asked:=put r.asked j,found:=fun q=>if q=j then v else r.found q})[q]?=some rq->rq.fin=false->∀{j':Nat} {x':ByteArray},rq.keys[j']?=some x'->
   (q=i/\j'=j/\x'=x/\rq.found j'=v)\/(¬(q=i/\j'=j)/\∃ro,s.rs[q]?=some ro/\ro.fin=false/\ro.keys[j']?=some x'/\rq.found j'=ro.found j'):=by
   intro q rq hq hf j' x' hx';rcases jU hq with⟨rfl,rfl⟩|⟨e,hq⟩
   ·by_cases ej:j'=j
    ·subst ej;have RN:r.keys[j']?=some x':=hx';rw[hx]at RN;cases RN;exact Or.inl ⟨rfl,rfl,rfl,by simp⟩
    ·exact Or.inr ⟨fun e=>ej e.2,r,hr,jr,hx',by simp[ej]⟩
   ·exact Or.inr ⟨fun e'=>e e'.1.symm,rq,hq,hf,hx',rfl⟩
  refine⟨h.told.sv,fun q rq hq hf=>?_,fun q rq j' hq ha=>?_,fun q rq j' x' hq hf hx'=>?_,fun q rq j' x' hq hf hx' hv'=>?_,fun q rq j' x' hq hf hx' hv'=>?_,fun q rq j' x' hq hf hx' hv'=>?_⟩
  ·obtain⟨ro,ho,ek,e⟩:=dK hq;rw[e]at hf;rw[ek];exact h.told.no q ro ho hf
  ·rcases jU hq with⟨rfl,rfl⟩|⟨_,hq⟩
   ·by_cases ej:j'=j
    ·subst ej;simp[put]at ha
    ·simp only[put,ej,if_false]at ha⊢;exact h.told.un i r j' hr ha
   ·exact h.told.un q rq j' hq ha
  ·rcases iF hq hf hx' with⟨rfl,rfl,rfl,e⟩|⟨e,ro,h1,h2,h3,h4⟩
   ·rw[e];simp only[j9,and_self,if_true];exact hhv
   ·rw[h4];simp only[j9,if_neg e];exact h.told.hv q ro j' x' h1 h2 h3
  ·rcases iF hq hf hx' with⟨rfl,rfl,rfl,e⟩|⟨e,ro,h1,h2,h3,h4⟩
   ·rw[e];simp only[j9,and_self,if_true]at hv'⊢;exact htv hv'
   ·rw[h4];simp only[j9,if_neg e]at hv'⊢;exact h.told.tv q ro j' x' h1 h2 h3 hv'
  ·rcases iF hq hf hx' with⟨rfl,rfl,rfl,e⟩|⟨e,ro,h1,h2,h3,h4⟩
   ·simp only[j9,and_self,if_true]at hv'⊢;exact ht0 hv'
   ·simp only[j9,if_neg e]at hv'⊢;exact h.told.t0 q ro j' x' h1 h2 h3 hv'
  ·rcases iF hq hf hx' with⟨rfl,rfl,rfl,e⟩|⟨e,ro,h1,h2,h3,h4⟩
   ·rw[e]at hv'⊢;exact Wl hv'
   ·rw[h4]at hv'⊢;exact h.told.fm q ro j' x' h1 h2 h3 hv'
 ·simp only[List.length_set];exact h.blk.of_eq (hne' h.blk.lt (by rw[h.tag];simp))
 ·rw[ID (r':={r with asked:=put r.asked j,found:=fun q=>if q=j then v else r.found q}) hr rfl];exact h.reads.qR.of_eq (hne' h.reads.qR.lt (by rw[h.reads.gS];simp))
 ·obtain⟨ro,ho,_,e⟩:=dK hq;rw[e]at hf;exact(h.reads.rd q ro ho hf).of_eq (hne' (h.reads.rd q ro ho hf).lt (by rw[h.reads.iI q ro ho hf];simp))
 ·obtain⟨ro,ho,_,e⟩:=dK hq;rw[e]at hf;exact h.reads.iI q ro ho hf
 ·obtain⟨ro,ho,ek,e⟩:=dK hq;rw[e]at hf;refine((h.reads.u5 q ro ho hf).of_eq (hne' (h.reads.u5 q ro ho hf).lt (by rw[h.reads.l5 q ro ho hf];simp))).congr (fun kl=>?_);cases kl<;>simp[bW,ek,j9]
 ·obtain⟨ro,ho,_,e⟩:=dK hq;rw[e]at hf;exact h.reads.l5 q ro ho hf
 ·rcases jU hq with⟨rfl,rfl⟩|⟨eq,hq⟩
  ·by_cases ej:j'=j
   ·subst ej;have:x'=x:=by have RN:r.keys[j']?=some x':=hx';rw[hx]at RN;cases RN;rfl
    subst this;simpa[put,j9]using hq
   ·have hb:=h.reads.q i r j' x' hr jr hx';have hj8:=aE hx';have:=hb.of_eq (hne' hb.lt (by rw[h.reads.lA i r j' x' hr jr hx'];simp;omega));simpa[put,ej,j9]using this
  ·have hb:=h.reads.q q rq j' x' hq hf hx';have hj8:j'<8:=by have:=(h.ok.keys q rq hq).2.1;have:=aE hx';omega
   have akz:j<8:=by have:=(h.ok.keys i r hr).2.1;omega
   have e2:¬(q=i/\j'=j):=fun e'=>eq e'.1.symm;simp only[j9,if_neg e2];exact hb.of_eq (hne' hb.lt (by rw[h.reads.lA q rq j' x' hq hf hx'];simp;omega))
 ·obtain⟨ro,ho,ek,e⟩:=dK hq;rw[e]at hf;rw[ek]at hx';exact h.reads.lA q ro j' x' ho hf hx'
 ·obtain⟨ro,ho,ek,e⟩:=dK hq;rw[e]at hf;rw[ek];exact ak (h.reads.ky q ro ho hf) (fun k hk=>hne' (aR (h.reads.ky q ro ho hf) k hk).2 (by rw[h.reads.dF q ro k ho hf hk];simp))
 ·obtain⟨ro,ho,ek,e⟩:=dK hq;rw[e]at hf;exact h.reads.dF q ro k ho hf
theorem pM(keys:List ByteArray)(key:ByteArray):IE keys key.data.toList=bM keys key:=by
 unfold IE bM;congr 1;funext x;by_cases e:x=key
 ·simp[e]
 ·have:x.data.toList≠key.data.toList:=fun e'=>e (WideShapes.bytes_inj e');rw[decide_eq_false e,decide_eq_false this]
theorem BR{keys:List ByteArray}(h:bM keys key<keys.length):keys[bM keys key]?=some key:=by unfold bM at h⊢;have:=List.findIdx_getElem (w:=h);rw[zba h];simpa using this
theorem Fo{q:Int}(hq:partOf n key=q):l.find? (fun x=>decide (x.1=key))=(aZ n l q).find? (fun x=>decide (x.1=key)):=by
 unfold aZ;rw[List.find?_filter];congr 1;funext x;by_cases e:x.1=key
 ·simp[e,hq]
 ·simp[e]
theorem pL:aH l key=(l.find? (fun x=>decide (x.1=key))).isSome:=by unfold aH;rw[Bool.eq_iff_iff,List.any_eq_true];exact List.find?_isSome.symm
theorem aW.tells(h:aW w τ aD b s A)(key:ByteArray){q:Nat}(hq:partOf s.parts key=q)(Pt:q<s.parts):∃(a:Option Addr) (L:List KV) (cap:Nat) (sv:Value),
 (bE s A q (.int .i64 (aU s key))).getD (.agg #[.slice none 0 0,.nilIface])=.agg #[.slice a L.length cap,sv]/\yl sv/\L.length<=8/\
 (∀(k:Nat) (x:KV),L[k]?=some x->∃g,a=some ⟨g,0,none⟩/\w.cell? ⟨g,k*2,none⟩=some (.string x.1)/\w.cell? ⟨g,k*2+1,none⟩=some (.string x.2))/\(∀g,a=some ⟨g,0,none⟩->(∃c d,τ g=(aD,9,c)/\d=c))/\
 aH L key=decide (aU s key≠0)/\(aU s key≠0->∃m,s.ws[aU s key-1]?=some m/\jg m.items key=some (valueOf L key)/\sv=A.sv (aU s key-1)/\aH m.items key=true/\m.comm q=true)/\(aU s key=0->valueOf L key=⟨#[]⟩/\sv=.nilIface):=by
 have hv:=h.Pn key;rw[hq,Int.toNat_natCast]at hv;by_cases h0:aU s key=0
 ·refine⟨none, [],0,.nilIface,?_,Or.inl rfl,by simp,fun k x hx=>by simp at hx,fun g e=>(by cases e),by simp[h0,aH],fun e=>absurd h0 e,fun _=>⟨rfl,rfl⟩⟩;rw[h0];simp[bE,bF]
 ·obtain⟨m,hm,hc,x,hx,hxl,hxp⟩:=(h.l6 q Pt).seen key.data.toList (by rw[hv];exact h0);rw[hv]at hm;have GY:x.1=key:=WideShapes.bytes_inj hxl;have hcn:m.ed=false:=by
   cases hcc:m.ed
   ·rfl
   ·rw[h.inv.cc _ m q hm hcc]at hc;cases hc
  have Ri:=h.inv.cp _ m q hm hc;have Il:=h.inv.po _ m q hm Ri;have hrow:=h.it _ m q hm hcn Il;obtain⟨g,cap,hiv,_,_,hcell,_⟩:=dJ hrow (pN Il);obtain⟨hil,_⟩:=h.ok.items _ m hm;have hfind:bF s ((aU s key:Nat):Int)=some m:=by have:=jW hm hcn;rw[show (((aU s key-1:Nat):Int)+1)=((aU s key:Nat):Int)from by omega]at this;exact this
  have hkm:aH m.items key=true:=by simp only[aH,List.any_eq_true,decide_eq_true_eq];exact⟨x,hx,GY⟩
  have Ix:aH (aZ s.parts m.items q) key=true:=by rw[pL,<-Fo hq,<-pL];exact hkm
  refine⟨some ⟨g,0,none⟩,aZ s.parts m.items q,cap,A.sv (aU s key-1),?_,h.told.sv _ m hm,Nat.le_trans (nY _ _ _) hil,fun k y hy=>?_,fun g' e=>?_,by rw[Ix];simp[h0],fun _=>⟨m,hm,?_,rfl,hkm,hc⟩,fun e=>absurd e h0⟩
  ·simp only[bE,hfind,Ri,if_true];rw[show ((((aU s key:Nat):Int)-1).toNat)=aU s key-1 from by omega,hiv];rfl
  ·obtain⟨e1,e2⟩:=nT _ k y hy;have hk:=aE hy;exact⟨g,rfl,by rw[hcell (k*2) (by omega),e1],by rw[hcell (k*2+1) (by omega),e2]⟩
  ·cases e;exact⟨_,_,h.fA _ m q g hm hcn Il (by rw[hiv];rfl),rfl⟩
  ·rw[IF hkm];unfold valueOf;rw[Fo hq]
theorem size_set(w:World)(a:Addr)(v:Value):(w.setCell a v).heap.size=w.heap.size:=by simp[World.setCell]
theorem Pu(h:aW w τ aD b s A)(hr:s.rs[i]?=some r)(hc:r.fin=false)(hx:r.keys[j]?=some key)
 (Hr:lT s n key=(0,{s with rs:=s.rs.set i {r with asked:=put r.asked j,found:=fun q=>if q=j then aU s key else r.found q}}))
 (Wl:aU s key≠0->∃m,s.ws[aU s key-1]?=some m/\aH m.items key=true/\m.comm (partOf s.parts key).toNat=true)
 {w2:World} {hv:Bool} {tv:ByteArray} {ts:Value} (hB:Below w.heap.size (w.setCell ⟨A.R.pr i,0,none⟩ (.int .i32 1)) w2) (a1:hv=(!A.R.no i && decide (aU s key≠0))) (a2:hv=true->∃m,s.ws[aU s key-1]?=some m/\jg m.items key=some tv/\ts=A.sv (aU s key-1)) (a3:hv=false->tv=⟨#[]⟩/\ts=.nilIface):
 oH w τ aD b (lT s n key) (.returned (.int .i64 0)) ((((((w2.setCell ⟨A.R.qb i j,2,none⟩ (.int .i64 (aU s key))).setCell ⟨A.R.qb i j,3,none⟩ (.bool hv)).setCell ⟨A.R.qb i j,4,none⟩ (.string tv)).setCell ⟨A.R.qb i j,5,none⟩ ts).setCell ⟨A.R.qb i j,1,none⟩ (.bool true)).setCell ⟨A.R.pr i,0,none⟩ (.int .i32 0)):=by
 have hW:=h.reads.rd i r hr hc;have hQ:=h.reads.q i r j key hr hc hx;have SH:=h.reads.lA i r j key hr hc hx;have IG:A.R.qb i j≠A.R.pr i:=fun e=>by rw[e,h.reads.iI i r hr hc]at SH;simp at SH
 have xL:aT w2 (A.R.qb i j) _ _:=hQ.of_eq ((hB.block _ hQ.lt).trans (za9 _ _ _ _ IG));generalize aU s key=v at *;have hQ3:aT (((((w2.setCell ⟨A.R.qb i j,2,none⟩ (.int .i64 v)).setCell ⟨A.R.qb i j,3,none⟩ (.bool hv)).setCell ⟨A.R.qb i j,4,none⟩ (.string tv)).setCell ⟨A.R.qb i j,5,none⟩ ts).setCell ⟨A.R.qb i j,1,none⟩ (.bool true)) (A.R.qb i j) #[ptr (A.pb (partOf s.parts key).toNat),.bool true,.int .i64 v,.bool hv,.string tv,ts] 146:=by have:=((((xL.set 2 (.int .i64 v)).set 3 (.bool hv)).set 4 (.string tv)).set 5 ts).set 1 (.bool true);simpa using this
 have hall:∀k,(k<w.heap.size/\k≠A.R.qb i j)->((((((w2.setCell ⟨A.R.qb i j,2,none⟩ (.int .i64 v)).setCell ⟨A.R.qb i j,3,none⟩ (.bool hv)).setCell ⟨A.R.qb i j,4,none⟩ (.string tv)).setCell ⟨A.R.qb i j,5,none⟩ ts).setCell ⟨A.R.qb i j,1,none⟩ (.bool true)).setCell ⟨A.R.pr i,0,none⟩ fy).heap[k]?=w.heap[k]? :=
  eW hW rfl (v:=.int .i32 1) (fun k hk=>by rw[za9 _ _ _ _ hk.2,za9 _ _ _ _ hk.2,za9 _ _ _ _ hk.2,za9 _ _ _ _ hk.2,za9 _ _ _ _ hk.2];exact hB.block k hk.1)
 have hQ4:=hQ3.of_eq (w':=(((((w2.setCell ⟨A.R.qb i j,2,none⟩ (.int .i64 v)).setCell ⟨A.R.qb i j,3,none⟩ (.bool hv)).setCell ⟨A.R.qb i j,4,none⟩ (.string tv)).setCell ⟨A.R.qb i j,5,none⟩ ts).setCell ⟨A.R.qb i j,1,none⟩ (.bool true)).setCell ⟨A.R.pr i,0,none⟩ fy) (za9 _ _ _ _ IG);have hsz:=hB.size;have hF:Fr (fun k=>k=A.R.qb i j\/k=A.R.pr i) (w.setCell ⟨A.R.pr i,0,none⟩ (.int .i32 1)) ((((((w2.setCell ⟨A.R.qb i j,2,none⟩ (.int .i64 v)).setCell ⟨A.R.qb i j,3,none⟩ (.bool hv)).setCell ⟨A.R.qb i j,4,none⟩ (.string tv)).setCell ⟨A.R.qb i j,5,none⟩ ts).setCell ⟨A.R.qb i j,1,none⟩ (.bool true)).setCell ⟨A.R.pr i,0,none⟩ fy):=
  ((((((Fr.Fp (by rw[size_set];exact hB)).setCell (p:=⟨A.R.qb i j,2,none⟩) (Or.inl rfl) _).setCell (p:=⟨A.R.qb i j,3,none⟩) (Or.inl rfl) _).setCell (p:=⟨A.R.qb i j,4,none⟩) (Or.inl rfl) _).setCell (p:=⟨A.R.qb i j,5,none⟩) (Or.inl rfl) _).setCell (p:=⟨A.R.qb i j,1,none⟩) (Or.inl rfl) _).setCell (p:=⟨A.R.pr i,0,none⟩) (Or.inr rfl) _
 have w8:=hF.size;rw[size_set]at w8;have hst:Stp aD τ w τ ((((((w2.setCell ⟨A.R.qb i j,2,none⟩ (.int .i64 v)).setCell ⟨A.R.qb i j,3,none⟩ (.bool hv)).setCell ⟨A.R.qb i j,4,none⟩ (.string tv)).setCell ⟨A.R.qb i j,5,none⟩ ts).setCell ⟨A.R.qb i j,1,none⟩ (.bool true)).setCell ⟨A.R.pr i,0,none⟩ fy):=
  ⟨hF.os,hF.tape,hF.output,w8,fun _ _=>rfl,fun k hk hs=>hall k ⟨hk,fun e=>hs (by rw[e,SH])⟩⟩
 clear hF;have afb:=h.ask a1 a2 a3 Wl hr hc hx (fun k h1 h2=>hall k ⟨h1,h2⟩) hQ4;clear hQ4 hQ3 hall xL;rw[Hr];exact⟨_,rfl,afb,hst⟩
theorem SI(h:aW w τ aD b s A)(n:Int)(r:MR)(hf:gN s n=some r)(key:ByteArray)(hks:key.size<=maxLen):
 Calls prog 41 #[ptr (A.R.pr (n-1).toNat),.string key] w (oH w τ aD b (lT s n key)):=by
 obtain⟨h1,h2,hr,hc⟩:=pO hf;have hp1:=h.ok.p1;obtain⟨i,hi⟩:∃i:Nat,(n-1).toNat=i:=⟨_,rfl⟩
 rw[hi]at hr⊢;have hW:=h.reads.rd i r hr hc;have c0:w.cell? ⟨A.R.pr i,0,none⟩=some (.int .i32 0):=hW.cell (o:=0) rfl;have f0:=hW.frozen 0;have eF:=gm hW (o:=0) rfl (.int .i32 1);have l7:=hW.set 0 (.int .i32 1);have Wm:A.R.qm i≠A.R.pr i:=fun e=>by have h1:=h.reads.l5 i r hr hc;rw[e,h.reads.iI i r hr hc]at h1;simp at h1
 have d2:(w.setCell ⟨A.R.pr i,0,none⟩ (.int .i32 1)).cell? ⟨A.R.pr i,4,none⟩=some (.map (some (A.R.qm i))):=l7.cell (o:=4) rfl;have d9:(w.setCell ⟨A.R.pr i,0,none⟩ (.int .i32 1)).cell? ⟨A.R.pr i,2,none⟩=some (.bool (A.R.no i)):=l7.cell (o:=2) rfl;have mU:aK (w.setCell ⟨A.R.pr i,0,none⟩ (.int .i32 1)) prog 9 (A.R.qm i) (bW A.R i r):=(h.reads.u5 i r hr hc).of_eq (za9 _ _ _ _ Wm);by_cases hix:bM r.keys key<r.keys.length
 ·have hx:=BR hix;obtain⟨j,hj⟩:∃j,bM r.keys key=j:=⟨_,rfl⟩
  rw[hj]at hx;have aj:bW A.R i r (.string key.data.toList)=some (.pointer (some ⟨A.R.qb i j,0,none⟩)):=by simp only[bW,pM,if_pos hix];rw[hj];rfl
  have hQ:=h.reads.q i r j key hr hc hx;have IG:A.R.qb i j≠A.R.pr i:=fun e=>by have h1:=h.reads.lA i r j key hr hc hx;rw[e,h.reads.iI i r hr hc]at h1;simp at h1
  have Ng:aT (w.setCell ⟨A.R.pr i,0,none⟩ (.int .i32 1)) (A.R.qb i j) _ _:=hQ.of_eq (za9 _ _ _ _ IG);cases ha:r.asked j with
  |true=>
   have Hr:Hid (lT s n key=(10,s)):=LZ hf hj (by omega) ha;rw[ha]at Ng;have e1:(w.setCell ⟨A.R.pr i,0,none⟩ (.int .i32 1)).cell? ⟨A.R.qb i j,1,none⟩=some (.bool true):=Ng.cell (o:=1) rfl;unfold ptr;unfold fy at eF;clear hf ha;go_enter_defers func41,ntmps41;go_wp2_with (first|(go_at_call 37;refine(lock_free Tryz.a9 ⟨A.R.pr i,0,none⟩ _ c0 f0).mono ?_;rintro e w' ⟨rfl,rfl⟩)|(at_lookup;refine bZ _ rfl _ _ 135 rfl 9 139 dI underlying135 (jQ _) (A.R.qm i) (bW A.R i r) rfl mU _ (.string key.data.toList) rfl (dZ hks) _ aj ?_))
   refine leaves_cons (f:=38) (args:=#[.pointer (some ⟨A.R.pr i,0,none⟩)]) (by simp) (by simp[go_sem]) ?_;refine(unlock_deferred Tryz.a9 ⟨A.R.pr i,0,none⟩ .returning _ (l7.cell (o:=0) rfl) (l7.frozen 0)).mono ?_;rintro e u' w'' ⟨rfl,rfl,rfl⟩;rw[Hr.out];exact⟨_,results_tmp rfl _ _ _,A,rfl,h.same eF,eF.nG _ _⟩
  |false=>
   have Hr:=SJ hf hi hj (by omega) ha;have Hr':Hid (lT s n key=_):=Hr;rw[ha]at hQ Ng;obtain⟨g0,g1⟩:=eM s.parts key (by omega);obtain⟨q,hq⟩:∃q:Nat,(partOf s.parts key).toNat=q:=⟨_,rfl⟩
   have hqz:partOf s.parts key=q:=by omega
   have Pt:q<s.parts:=by omega
   have hVE:=h.Pn key;rw[hq]at hVE;rw[hq]at hQ Ng;have afc:A.pb q≠A.R.pr i:=fun e=>by have h1:=h.cS q Pt;rw[e,h.reads.iI i r hr hc]at h1;simp at h1
   have afd:A.vb q≠A.R.pr i:=fun e=>by have h1:=h.eZ q Pt;rw[e,h.reads.iI i r hr hc]at h1;simp at h1
   have afe:A.kb q≠A.R.pr i:=fun e=>by have h1:=h.cC q Pt;rw[e,h.reads.iI i r hr hc]at h1;simp at h1
   obtain⟨ta,tL,aff,tsv,hg,hIf,Hz,hcell,Uq,hhas,Ki,Pv⟩:=h.tells key hqz Pt;have Wl:aU s key≠0->∃m,s.ws[aU s key-1]?=some m/\aH m.items key=true/\m.comm q=true:=fun e=>by obtain⟨m,r1,_,_,r4,r5⟩:=Ki e;exact⟨m,r1,r4,r5⟩
   have Pw:aU s key<=200:=by rw[<-hVE];exact h.Px Pt _
   have SH:=h.reads.lA i r j key hr hc hx;have hval:(C8 A q (.string key.data.toList)).getD (.int .i64 0)=.int .i64 (aU s key):=by
    simp only[C8,hVE];by_cases e:aU s key=0
    ·rw[if_pos e,e];rfl
    ·rw[if_neg e];rfl
   have eK:∀k,k≠A.R.pr i->(w.setCell ⟨A.R.pr i,0,none⟩ (.int .i32 1)).heap[k]?=w.heap[k]? :=fun k hk=>za9 _ _ _ _ hk;have L1:(w.setCell ⟨A.R.pr i,0,none⟩ (.int .i32 1)).heap.size=w.heap.size:=by simp[World.setCell]
   have Rk:aT (w.setCell ⟨A.R.pr i,0,none⟩ (.int .i32 1)) (A.pb q) _ _:=(h.part q Pt).of_eq (eK _ afc);have hVM:aK (w.setCell ⟨A.R.pr i,0,none⟩ (.int .i32 1)) prog 9 (A.vb q) (C8 A q):=(h.tH q Pt).of_eq (eK _ afd);have hKM:aK (w.setCell ⟨A.R.pr i,0,none⟩ (.int .i32 1)) prog 3 (A.kb q) (bE s A q):=(h.kept q Pt).of_eq (eK _ afe);have pW:∀(k:Nat) (x:KV),tL[k]?=some x->∃g,ta=some ⟨g,0,none⟩/\(w.setCell ⟨A.R.pr i,0,none⟩ (.int .i32 1)).cell? ⟨g,k*2,none⟩=some (.string x.1)/\(w.setCell ⟨A.R.pr i,0,none⟩ (.int .i32 1)).cell? ⟨g,k*2+1,none⟩=some (.string x.2):=fun k x hx=>by
    obtain⟨g,e,r1,r2⟩:=hcell k x hx;obtain⟨c,_,e9,_⟩:=Uq g e;have hgn:g≠A.R.pr i:=fun e'=>by rw[e',h.reads.iI i r hr hc]at e9;simp at e9
    exact⟨g,e,(fM (w:=w) hgn).trans r1,(fM (w:=w) hgn).trans r2⟩
   have hgb:∀g,ta=some ⟨g,0,none⟩->g≠A.pb q:=fun g e e'=>by obtain⟨c,_,e9,_⟩:=Uq g e;rw[e',h.cS q Pt]at e9;simp at e9
   have cv:=Po (A.pb q) (A.kb q) (A.vb q) (C8 A q) Rk hVM key hks _ hval;have ct:=aaD (A.pb q) (A.kb q) (A.vb q) (C8 A q) (bE s A q) Rk hKM hVM key hks _ Pw hval ta tL aff tsv hIf hg Hz pW hgb;have HW:Hid (aT (w.setCell ⟨A.R.pr i,0,none⟩ (.int .i32 1)) (A.R.pr i) _ _):=l7;have HF:Hid (∀(w2:World) (hv:Bool) (tv:ByteArray) (ts:Value),Below w.heap.size (w.setCell ⟨A.R.pr i,0,none⟩ (.int .i32 1)) w2->hv=(!A.R.no i && decide (aU s key≠0))->(hv=true->∃m,s.ws[aU s key-1]?=some m/\jg m.items key=some tv/\ts=A.sv (aU s key-1))->(hv=false->tv=⟨#[]⟩/\ts=.nilIface)->
    oH w τ aD b (lT s n key) (.returned (.int .i64 0)) ((((((w2.setCell ⟨A.R.qb i j,2,none⟩ (.int .i64 (aU s key))).setCell ⟨A.R.qb i j,3,none⟩ (.bool hv)).setCell ⟨A.R.qb i j,4,none⟩ (.string tv)).setCell ⟨A.R.qb i j,5,none⟩ ts).setCell ⟨A.R.qb i j,1,none⟩ (.bool true)).setCell ⟨A.R.pr i,0,none⟩ (.int .i32 0))):=fun w2 hv tv ts hB a1 a2 a3=>Pu h hr hc hx Hr (by rw[hq];exact Wl) hB a1 a2 a3
   have e0:(w.setCell ⟨A.R.pr i,0,none⟩ (.int .i32 1)).cell? ⟨A.R.qb i j,0,none⟩=some (.pointer (some ⟨A.pb q,0,none⟩)):=Ng.cell (o:=0) rfl;have e1:(w.setCell ⟨A.R.pr i,0,none⟩ (.int .i32 1)).cell? ⟨A.R.qb i j,1,none⟩=some (.bool false):=Ng.cell (o:=1) rfl;have HQ:Hid (∀w2:World,Below w.heap.size (w.setCell ⟨A.R.pr i,0,none⟩ (.int .i32 1)) w2->aT w2 (A.R.qb i j) _ _/\aT w2 (A.R.pr i) _ _):=fun w2 hB=>⟨Ng.of_eq (hB.block _ (by rw[<-L1];exact Ng.lt)),l7.of_eq (hB.block _ (by rw[<-L1];exact l7.lt))⟩
   unfold ptr at cv ct⊢;have HV1:Hid _:=Ki;have HV0:Hid _:=Pv;have HH:Hid _:=hhas;have HIf:Hid _:=hIf;rw[L1]at cv ct;cases hno:A.R.no i with
   |true=>
    rw[hno]at d9;have HN:Hid (A.R.no i=true):=hno;clear hf ha Hr hval hVE hg hIf Hz hcell Uq hhas Ki Pv Wl pW hgb ct eK Rk hVM hKM hQ Ng hno;go_enter_defers func41,ntmps41;go_wp2_with (first|(go_at_call 37;refine(lock_free Tryz.a9 ⟨A.R.pr i,0,none⟩ _ c0 f0).mono ?_;rintro e w' ⟨rfl,rfl⟩)|(at_lookup;refine bZ _ rfl _ _ 135 rfl 9 139 dI underlying135 (jQ _) (A.R.qm i) (bW A.R i r) rfl mU _ (.string key.data.toList) rfl (dZ hks) _ aj ?_))
    refine cv.mono ?_;rintro e w2 ⟨rfl,fE⟩;clear cv;obtain⟨xL,sD⟩:=HQ.out w2 fE;have k1:=xL.cell (o:=1) (v:=.bool false) rfl;have k2:w2.cell? ⟨A.R.qb i j,2,none⟩=some _:=xL.cell (o:=2) rfl;have k3:w2.cell? ⟨A.R.qb i j,3,none⟩=some _:=xL.cell (o:=3) rfl;have k4:w2.cell? ⟨A.R.qb i j,4,none⟩=some _:=xL.cell (o:=4) rfl;have k5:w2.cell? ⟨A.R.qb i j,5,none⟩=some _:=xL.cell (o:=5) rfl;have f1:=xL.frozen 1;have f2:=xL.frozen 2;have f3:=xL.frozen 3;have f4:=xL.frozen 4;have f5:=xL.frozen 5;have HR:=HF.out w2 false ⟨#[]⟩ .nilIface fE (by rw[HN.out];rfl) (fun e=>by cases e) (fun _=>⟨rfl,rfl⟩);have HR':Hid _:=HR;clear HR mU;go_wp2_with fail
    have pX:A.R.pr i≠A.R.qb i j:=fun e=>IG e.symm;have wy:aT (((((w2.setCell ⟨A.R.qb i j,2,none⟩ (.int .i64 (aU s key))).setCell ⟨A.R.qb i j,3,none⟩ (.bool false)).setCell ⟨A.R.qb i j,4,none⟩ (.string ⟨#[]⟩)).setCell ⟨A.R.qb i j,5,none⟩ .nilIface).setCell ⟨A.R.qb i j,1,none⟩ (.bool true)) (A.R.pr i) _ _:=sD.of_eq (by rw[za9 _ _ _ _ pX,za9 _ _ _ _ pX,za9 _ _ _ _ pX,za9 _ _ _ _ pX,za9 _ _ _ _ pX]);refine leaves_cons (f:=38) (args:=#[.pointer (some ⟨A.R.pr i,0,none⟩)]) (by simp) (by simp[go_sem]) ?_;refine(unlock_deferred Tryz.a9 ⟨A.R.pr i,0,none⟩ .returning _ (wy.cell (o:=0) rfl) (wy.frozen 0)).mono ?_;rintro e u' w'' ⟨rfl,rfl,rfl⟩;obtain⟨A',r1,r2,r3⟩:=HR'.out;exact⟨_,results_tmp rfl _ _ _,A',by exact r1,r2,r3⟩
   |false=>
    rw[hno]at d9;have HN:Hid (A.R.no i=false):=hno;clear hf ha Hr hval hVE hg hIf Hz hcell Uq hhas Ki Pv Wl pW hgb cv eK Rk hVM hKM hQ Ng hno;go_enter_defers func41,ntmps41;go_wp2_with (first|(go_at_call 37;refine(lock_free Tryz.a9 ⟨A.R.pr i,0,none⟩ _ c0 f0).mono ?_;rintro e w' ⟨rfl,rfl⟩)|(at_lookup;refine bZ _ rfl _ _ 135 rfl 9 139 dI underlying135 (jQ _) (A.R.qm i) (bW A.R i r) rfl mU _ (.string key.data.toList) rfl (dZ hks) _ aj ?_))
    refine ct.mono ?_;rintro e w2 ⟨rfl,fE⟩;clear ct;obtain⟨xL,sD⟩:=HQ.out w2 fE;have k1:=xL.cell (o:=1) (v:=.bool false) rfl;have k2:w2.cell? ⟨A.R.qb i j,2,none⟩=some _:=xL.cell (o:=2) rfl;have k3:w2.cell? ⟨A.R.qb i j,3,none⟩=some _:=xL.cell (o:=3) rfl;have k4:w2.cell? ⟨A.R.qb i j,4,none⟩=some _:=xL.cell (o:=4) rfl;have k5:w2.cell? ⟨A.R.qb i j,5,none⟩=some _:=xL.cell (o:=5) rfl;have f1:=xL.frozen 1;have f2:=xL.frozen 2;have f3:=xL.frozen 3;have f4:=xL.frozen 4;have f5:=xL.frozen 5;have HR:=HF.out w2 (aH tL key) (valueOf tL key) tsv fE (by rw[HN.out,HH.out];simp) (fun e=>by
     rw[HH.out]at e;obtain⟨m,r1,r2,r3,_⟩:=HV1.out (of_decide_eq_true e);exact⟨m,r1,r2,r3⟩) (fun e=>by rw[HH.out]at e;exact HV0.out (by simpa using e))
    have HR':Hid _:=HR;clear HR mU;generalize aH tL key=Wn at *;generalize valueOf tL key=Wo at *;rcases HIf.out with rfl|⟨st,sx,rfl⟩
    ·go_wp2_with fail
     have pX:A.R.pr i≠A.R.qb i j:=fun e=>IG e.symm;have wy:aT (((((w2.setCell ⟨A.R.qb i j,2,none⟩ (.int .i64 (aU s key))).setCell ⟨A.R.qb i j,3,none⟩ (.bool Wn)).setCell ⟨A.R.qb i j,4,none⟩ (.string Wo)).setCell ⟨A.R.qb i j,5,none⟩ .nilIface).setCell ⟨A.R.qb i j,1,none⟩ (.bool true)) (A.R.pr i) _ _:=sD.of_eq (by rw[za9 _ _ _ _ pX,za9 _ _ _ _ pX,za9 _ _ _ _ pX,za9 _ _ _ _ pX,za9 _ _ _ _ pX]);refine leaves_cons (f:=38) (args:=#[.pointer (some ⟨A.R.pr i,0,none⟩)]) (by simp) (by simp[go_sem]) ?_;refine(unlock_deferred Tryz.a9 ⟨A.R.pr i,0,none⟩ .returning _ (wy.cell (o:=0) rfl) (wy.frozen 0)).mono ?_;rintro e u' w'' ⟨rfl,rfl,rfl⟩;obtain⟨A',r1,r2,r3⟩:=HR'.out;exact⟨_,results_tmp rfl _ _ _,A',by exact r1,r2,r3⟩
    ·go_wp2_with fail
     have pX:A.R.pr i≠A.R.qb i j:=fun e=>IG e.symm;have wy:aT (((((w2.setCell ⟨A.R.qb i j,2,none⟩ (.int .i64 (aU s key))).setCell ⟨A.R.qb i j,3,none⟩ (.bool Wn)).setCell ⟨A.R.qb i j,4,none⟩ (.string Wo)).setCell ⟨A.R.qb i j,5,none⟩ (.iface st sx)).setCell ⟨A.R.qb i j,1,none⟩ (.bool true)) (A.R.pr i) _ _:=sD.of_eq (by rw[za9 _ _ _ _ pX,za9 _ _ _ _ pX,za9 _ _ _ _ pX,za9 _ _ _ _ pX,za9 _ _ _ _ pX]);refine leaves_cons (f:=38) (args:=#[.pointer (some ⟨A.R.pr i,0,none⟩)]) (by simp) (by simp[go_sem]) ?_;refine(unlock_deferred Tryz.a9 ⟨A.R.pr i,0,none⟩ .returning _ (wy.cell (o:=0) rfl) (wy.frozen 0)).mono ?_;rintro e u' w'' ⟨rfl,rfl,rfl⟩;obtain⟨A',r1,r2,r3⟩:=HR'.out;exact⟨_,results_tmp rfl _ _ _,A',by exact r1,r2,r3⟩
 ·have Hr:Hid (lT s n key=(4,s)):=Py hf hix;have aj:bW A.R i r (.string key.data.toList)=none:=by simp only[bW,pM,if_neg hix]
  unfold ptr;unfold fy at eF;clear hf;go_enter_defers func41,ntmps41;go_wp2_with (first|(go_at_call 37;refine(lock_free Tryz.a9 ⟨A.R.pr i,0,none⟩ _ c0 f0).mono ?_;rintro e w' ⟨rfl,rfl⟩)|(at_lookup;refine bZ _ rfl _ _ 135 rfl 9 139 dI underlying135 (jQ _) (A.R.qm i) (bW A.R i r) rfl mU _ (.string key.data.toList) rfl (dZ hks) _ aj ?_))
  refine leaves_cons (f:=38) (args:=#[.pointer (some ⟨A.R.pr i,0,none⟩)]) (by simp) (by simp[go_sem]) ?_;refine(unlock_deferred Tryz.a9 ⟨A.R.pr i,0,none⟩ .returning _ (l7.cell (o:=0) rfl) (l7.frozen 0)).mono ?_;rintro e u' w'' ⟨rfl,rfl,rfl⟩;rw[Hr.out];exact⟨_,results_tmp rfl _ _ _,A,rfl,h.same eF,eF.nG _ _⟩
theorem Zp(h:aW w τ aD b s A)(n:Int)(key:ByteArray)(hks:key.size<=maxLen)(hn: -9223372036854775808<=n)(hn':n<=9223372036854775807):
 Calls prog 22 #[ptr b,.int .i64 n,.string key] w (oH w τ aD b (lT s n key)):=by
 have c:=nZ h n hn hn';cases hf:gN s n with
 |none=>
  have Hr:Hid (lT s n key=(7,s)):=L2 hf;have hv:fQ s A n=(.pointer none,false):=by unfold fQ;rw[hf]
  rw[hv]at c;unfold ptr at c⊢;clear hf hv;go_enter func22,ntmps22;go_wp2_with fail
  refine c.mono ?_;rintro e w1 ⟨rfl,hS⟩;go_wp2_with fail
  go_ret;rw[Hr.out];exact⟨A,rfl,h.same hS,hS.nG _ _⟩
 |some r=>
  have hv:fQ s A n=(ptr (A.R.pr (n-1).toNat),true):=by unfold fQ;rw[hf]
  rw[hv]at c;have c2:∀w1,u6 w w1->Calls prog 41 #[ptr (A.R.pr (n-1).toNat),.string key] w1 (oH w1 τ aD b (lT s n key)):=fun w1 hS=>SI (h.same hS) n r hf key hks;generalize (n-1).toNat=j at c c2;unfold ptr at c c2⊢;clear hf hv;go_enter func22,ntmps22;go_wp2_with fail
  refine c.mono ?_;rintro e w1 ⟨rfl,hS⟩;have c3:=c2 w1 hS;clear c c2;go_wp2_with fail
  refine c3.mono ?_;rintro e w2 ⟨A',rfl,hR,hT⟩;go_wp2_with fail
  go_ret;exact⟨A',rfl,hR,(hS.nG _ _).trans hT⟩
end
end
section
theorem kI(w:World){ops:Array Oper}{rest:List Oper}{o:Oper}{a:Act}{Q:Exit->Act->World->Prop}(hg:o.guard=none)(it:Operand)(hop:o.op=Op.next it false)(k:TypeId)(K:Keyed P k)(hk:P.underlying k=some .string)
 (b r n:Nat) (D:DataW Value) (f:Lit->Option Value) (hs:Says D f) (g:ByteArray->Nat) (p:ByteArray->Prop) (hf:∀x u,f (.string x.data.toList)=some u->u=.pointer (some ⟨g x,0,none⟩)/\p x) (left:Lit->Bool) (cnt:Nat)
 (hit:a.eval it=.pointer (some ⟨r,0,none⟩)) (h:w.ranges P k aL b r n D left cnt)
 (hDone:(∀kl,left kl=false)->wpList P ops Q rest (a.put o.dst (.tuple #[.bool false])) w)
 (hMore:∀(x:ByteArray) (w':World) (cnt':Nat),p x->left (.string x.data.toList)=true->w'.ranges P k aL b r n D (fun z=>left z && !z.sameKey (.string x.data.toList)) cnt'->cnt'<cnt->w.grownBy w' (some r)->w'.heap.size=w.heap.size->
   (Instr.entry (.pointer (some ⟨r,0,none⟩))).run P w'=.ok (.tuple #[.string x,.pointer (some ⟨g x,0,none⟩)]) w'->wpList P ops Q rest (a.put o.dst (.tuple #[.bool true,.string x,.pointer (some ⟨g x,0,none⟩)])) w'):
 wpList P ops Q (o :: rest) a w:=by
 refine wpList_plain hg fun K' hK'=>?_;unfold Oper.wp;rcases h.next K o.type with⟨h0,hl,hrun⟩|⟨key,v,kl,y,w',cnt',hkey,hlk,hv,hat,hrun,lm,hlt,TU,hsz,q9⟩
 ·simp[execOp,hop,hit,hrun,Result.andThen];exact hK' _ _ (hDone hl)
 ·obtain⟨x,rfl,rfl,_⟩:=WideMaps.string_of_keyOf hk hkey;simp only[aL,Option.some.injEq]at hv;subst hv;have hh:=Maps.has_true_of_atKey hat;rw[hs.2]at hh;obtain⟨u,hu⟩:=Option.isSome_iff_exists.1 hh;have e1:=(hs.1 _ u hu .nil).symm.trans (hat .nil);injection e1 with e1;subst e1;obtain⟨rfl,hp⟩:=hf x _ hu;simp[execOp,hop,hit,hrun,Result.andThen];exact hK' _ _ (hMore x w' cnt' hp hlk lm hlt TU hsz q9)
def iG(r:MR):Bool:=(List.range r.keys.length).all r.asked
theorem lz{keys:List ByteArray}(hn:keys.Nodup)(hx:keys[j]?=some x):bM keys x=j:=by obtain⟨hj,rfl⟩:=List.getElem?_eq_some_iff.1 hx;unfold bM;rw[List.findIdx_eq hj];refine⟨by simp,fun k hk=>?_⟩;simp only[decide_eq_false_iff_not];intro e;exact(List.pairwise_iff_getElem.1 hn) k j (by omega) hj hk e
section
variable {w:World}{τ:Nat->Tag}{aD b:Nat}{s:MS}{A:SA}
theorem jV(B:SB)(i:Nat)(r:MR):∀x u,bW B i r (.string x.data.toList)=some u->u=.pointer (some ⟨B.qb i (bM r.keys x),0,none⟩)/\(bM r.keys x<r.keys.length/\r.keys[bM r.keys x]?=some x):=by
 intro x u hu;simp only[bW,pM]at hu;split at hu
 ·rename_i h;cases hu;exact⟨rfl,h,BR h⟩
 ·cases hu
theorem BL(hs:Says D (bW B i r))(hn:r.keys.Nodup)(hx:r.keys[j]?=some x):Maps.has D (.string x.data.toList)=true:=by rw[hs.2];have:=lz hn hx;have hj:=aE hx;simp[bW,pM,this,hj]
theorem pP(h:aW w τ aD b s A)(hr:s.rs[i]?=some r)(jr:r.fin=false):
 Calls prog 42 #[ptr (A.R.pr i)] w fun e w'=>e=.returned (.bool (iG r))/\Below w.heap.size w w':=by
 have hW:=h.reads.rd i r hr jr;have hnd:=(h.ok.keys i r hr).2.2.2;have c0:w.cell? ⟨A.R.pr i,0,none⟩=some (.int .i32 0):=hW.cell (o:=0) rfl;have f0:=hW.frozen 0;have l7:=hW.set 0 (.int .i32 1);have Wm:A.R.qm i≠A.R.pr i:=fun e=>by have h1:=h.reads.l5 i r hr jr;rw[e,h.reads.iI i r hr jr]at h1;simp at h1
 have eK:∀k,k≠A.R.pr i->(w.setCell ⟨A.R.pr i,0,none⟩ (.int .i32 1)).heap[k]?=w.heap[k]? :=fun k hk=>za9 _ _ _ _ hk;have mU:aK (w.setCell ⟨A.R.pr i,0,none⟩ (.int .i32 1)) prog 9 (A.R.qm i) (bW A.R i r):=(h.reads.u5 i r hr jr).of_eq (eK _ Wm);have Ng:∀(j:Nat) (x:ByteArray),r.keys[j]?=some x->(w.setCell ⟨A.R.pr i,0,none⟩ (.int .i32 1)).cell? ⟨A.R.qb i j,1,none⟩=some (.bool (r.asked j)):=fun j x hx=>by
  have hq:=h.reads.q i r j x hr jr hx;have hne:A.R.qb i j≠A.R.pr i:=fun e=>by have h1:=h.reads.lA i r j x hr jr hx;rw[e,h.reads.iI i r hr jr]at h1;simp at h1
  exact(hq.of_eq (eK _ hne)).cell (o:=1) rfl
 have L1:(w.setCell ⟨A.R.pr i,0,none⟩ (.int .i32 1)).heap.size=w.heap.size:=by simp[World.setCell]
 have HU:Hid (∀w3:World,Below w.heap.size (w.setCell ⟨A.R.pr i,0,none⟩ (.int .i32 1)) w3->aT w3 (A.R.pr i) (#[fy,gF,.bool (A.R.no i),A.R.ks i,.map (some (A.R.qm i))].setIfInBounds 0 (.int .i32 1)) 137/\Below w.heap.size w (w3.setCell ⟨A.R.pr i,0,none⟩ (.int .i32 0))):=fun w3 hB=>by
  refine⟨l7.of_eq (hB.block _ (by rw[<-L1];exact l7.lt)),hB.os,hB.tape,hB.output,?_,fun k hk=>?_⟩
  ·have:=hB.size;simp[World.setCell];omega
  ·exact eW hW rfl (v:=.int .i32 1) (p:=fun k=>k<w.heap.size) (fun k hk=>hB.block k hk) k hk
 generalize hw1:w.setCell ⟨A.R.pr i,0,none⟩ (.int .i32 1)=w1 at *;have d4:w1.cell? ⟨A.R.pr i,4,none⟩=some (.map (some (A.R.qm i))):=l7.cell (o:=4) rfl;obtain⟨n,D,hown,hs⟩:=mU;have h0:∀(j:Nat) (x:ByteArray),r.keys[j]?=some x->Maps.has D (.string x.data.toList)=true:=fun j x hx=>BL hs hnd hx;have hf:=jV A.R i r;clear l7 eK;unfold ptr;go_enter_defers func42,ntmps42;go_wp2_with fail
 refine(lock_free Tryz.a9 ⟨A.R.pr i,0,none⟩ _ c0 f0).mono ?_;rintro e w' ⟨rfl,rfl⟩;rw[hw1];go_wp2_with (at_range;refine wpList_range_own _ rfl _ 135 rfl 9 139 dI underlying135 aL (A.R.qm i) n D rfl hown ?_;intro w0 tC Aq hs0)
 go_frame
 rw[L1]at tC hs0⊢;go_loopw [17] (fun _ wr=>∃left cnt,wr.ranges prog 9 aL (A.R.qm i) w.heap.size n D left cnt/\Below w.heap.size w1 wr/\w.heap.size<wr.heap.size/\Hid (∀(j:Nat) (x:ByteArray),r.keys[j]?=some x->left (.string x.data.toList)=true\/r.asked j=true)) (fun _ wr=>wr.rangeLeft (A.R.qm i) w.heap.size)
 case atStart=>
  exact⟨_,_,tC,(Below.refl _ _).grown Aq (by omega) (fun k e=>by cases e),by omega,fun j x hx=>Or.inl (h0 j x hx)⟩
 case round=>
  obtain⟨left,cnt,lm,hB,hsz,HL⟩:=hrel;go_wp2_with (at_next;refine kI _ rfl _ rfl 9 dI underlying9 (A.R.qm i) w.heap.size n D (bW A.R i r) hs (fun x=>A.R.qb i (bM r.keys x)) _ hf left cnt rfl lm ?_ ?_)
  ·intro hl0;have Hr:Hid (iG r=true):=by
    unfold Hid iG;simp only[List.all_eq_true,List.mem_range];intro j hj;rcases HL.out j _ (zba hj)with e|e
    ·rw[hl0]at e;cases e
    ·exact e
   clear hl0;obtain⟨BM,vf⟩:=HU.out wr hB;have HBl:Hid _:=vf;clear vf;go_wp2_with fail
   refine leaves_cons (f:=38) (args:=#[.pointer (some ⟨A.R.pr i,0,none⟩)]) (by simp) (by simp[go_sem]) ?_;refine(unlock_deferred Tryz.a9 ⟨A.R.pr i,0,none⟩ .returning _ (BM.cell (o:=0) rfl) (BM.frozen 0)).mono ?_;rintro e u' w'' ⟨rfl,rfl,rfl⟩;rw[Hr.out];exact⟨_,results_tmp rfl _ _ _,rfl,HBl.out⟩
  ·intro x w1' CO hxj GY EG uY hlt kC hs1 q9;generalize ZM:bM r.keys x=j at *;have iM:Below w.heap.size w1 w1':=hB.grown kC (by omega) (fun k e=>by cases e;exact Nat.le_refl _);have cq:=Ng j x GY;have ZN:w1'.cell? ⟨A.R.qb i j,1,none⟩=some (.bool (r.asked j)):=(iM.cell (p:=⟨A.R.qb i j,1,none⟩) (by have:=zbc w1 _ cq;simp only at this⊢;omega)).trans cq;have qQ:w.heap.size<w1'.heap.size:=by omega
   clear cq EG;obtain⟨ba,ha⟩:∃ba,r.asked j=ba:=⟨_,rfl⟩
   rw[ha]at ZN;cases ba with
   |false=>
    have Hr:Hid (iG r=false):=by unfold Hid iG;rw[List.all_eq_false];exact⟨j,List.mem_range.2 hxj,by simp[ha]⟩
    obtain⟨BM,vf⟩:=HU.out w1' iM;have HBl:Hid _:=vf;clear vf ha;go_wp2_with fail
    refine leaves_cons (f:=38) (args:=#[.pointer (some ⟨A.R.pr i,0,none⟩)]) (by simp) (by simp[go_sem]) ?_;refine(unlock_deferred Tryz.a9 ⟨A.R.pr i,0,none⟩ .returning _ (BM.cell (o:=0) rfl) (BM.frozen 0)).mono ?_;rintro e u' w'' ⟨rfl,rfl,rfl⟩;rw[Hr.out];exact⟨_,results_tmp rfl _ _ _,rfl,HBl.out⟩
   |true=>
    have HL':Hid (∀(j':Nat) (x':ByteArray),r.keys[j']?=some x'->(left (.string x'.data.toList)&& !(Lit.string x'.data.toList).sameKey (.string x.data.toList))=true\/r.asked j'=true):=by
     intro j' x' hx';by_cases e:j'=j
     ·subst e;exact Or.inr ha
     ·rcases HL.out j' x' hx' with e1|e1
      ·refine Or.inl ?_;rw[e1,Maps.sameKey_ne (by intro e2;injection e2 with e2;have e3:x'=x:=WideShapes.bytes_inj e2;subst e3;exact e ((lz hnd hx').symm.trans ZM))]
       rfl
      ·exact Or.inr e1
    clear ha;go_wp2_with fail
    go_roundw
    case rel=>exact⟨_,_,uY,iM,qQ,HL'⟩
    case measure=>rw[uY.left_eq,lm.left_eq];omega
end
end
section
theorem aK.Ua{k:TypeId}{f:Lit->Option Value}(h:aK w P k b f)(K:Keyed P k){L:List Lit}(hnd:L.Pairwise (fun a b=>a≠b))(hL:∀kl,f kl≠none↔kl∈L):
 ∃n D,w.ownsMap P k aL b n D/\Says D f/\Maps.size D=L.length:=by
 obtain⟨n2,D2,⟨xK,Ik,kQ,_,_,hD2⟩,hsz⟩:=h.size K hnd hL;obtain⟨n,D,⟨es,clock,hb,F,hn,hD⟩,hs⟩:=h;obtain⟨rfl,rfl⟩:xK=es/\Ik=clock:=by rw[hb]at kQ;injection kQ with e;injection e with e1 e2;exact⟨e1.symm,e2.symm⟩
 refine⟨n,D,⟨_,_,hb,F,hn,hD⟩,hs,?_⟩;rw[hD,<-hD2];exact hsz
theorem nW{k:TypeId}{r n:Nat}{left:Lit->Bool}(h:w.ranges P k aL b r n D left cnt)(hb:w'.heap[b]?=w.heap[b]?)(hr:w'.heap[r]?=w.heap[r]?):w'.ranges P k aL b r n D left cnt:=by obtain⟨es,clock,since,seen,c0,h1,h2,h3,h4,h5,rest⟩:=h;exact⟨es,clock,since,seen,c0,hb.trans h1,h2,h3,h4,hr.trans h5,rest⟩
def iz(r:MR):List Lit:=r.keys.map (fun x=>Lit.string x.data.toList)
theorem nV(hn:r.keys.Nodup):(iz r).Pairwise (fun a b=>a≠b):=by unfold iz;rw[List.pairwise_map];refine hn.imp (fun{a b} hab e=>hab ?_);injection e with e;exact WideShapes.bytes_inj e
theorem uX(kl:Lit):bW B i r kl≠none↔kl∈iz r:=by
 unfold iz;constructor
 ·intro h;cases kl with
  |string l=>
   simp only[bW]at h;split at h
   ·rename_i e;obtain⟨y,hy,he⟩:=Da.1 e;exact List.mem_map.2 ⟨y,hy,by rw[he]⟩
   ·exact absurd rfl h
  |_=>exact absurd rfl h
 ·intro h;obtain⟨y,hy,rfl⟩:=List.mem_map.1 h;simp only[bW];rw[if_pos (Da.2 ⟨y,hy,rfl⟩)];simp
section
variable {w:World}{τ:Nat->Tag}{aD b:Nat}{s:MS}{A:SA}
structure Seen(w:World)(A:SA)(i:Nat)(r:MR):Prop where
 nd:r.keys.Nodup
 l1:1<=r.keys.length
 l8:r.keys.length<=8
 kz:∀x∈r.keys,x.size<=8
 rd:aT w (A.R.pr i) #[fy,gF,.bool (A.R.no i),A.R.ks i,.map (some (A.R.qm i))] 137
 qm:aK w prog 9 (A.R.qm i) (bW A.R i r)
 q:∀(j:Nat) (x:ByteArray),r.keys[j]?=some x->∃p,aT w (A.R.qb i j) #[p,.bool (r.asked j),.int .i64 (r.found j),.bool (A.R.hv i j),.string (A.R.tv i j),A.R.ts i j] 146
 ky:w.ownsRow 0 9 1 (A.R.ks i) r.keys.length (r.keys.map Value.string)
 tsf:∀(j:Nat) (x:ByteArray),r.keys[j]?=some x->yl (A.R.ts i j)
theorem Seen.below(h:Seen w A i r)(hB:Below w.heap.size w w'):Seen w' A i r:=
 ⟨h.nd,h.l1,h.l8,h.kz,h.rd.of_eq (hB.block _ h.rd.lt),h.qm.of_eq (hB.block _ h.qm.lt),fun j x hx=>by obtain⟨p,hp⟩:=h.q j x hx;exact⟨p,hp.of_eq (hB.block _ hp.lt)⟩,ak h.ky (fun k hk=>hB.block k (aR h.ky k hk).2),h.tsf⟩
end
end
section
section
variable {w:World}{τ:Nat->Tag}{aD b:Nat}{s:MS}{A:SA}{L:List ByteArray}
def cH(B:SB)(n pr qm:Nat)(qb:Nat->Nat)(no:Bool)(ks:Value):SB:={rm:=B.rm,pr:=fun j=>if j=n then pr else B.pr j,qm:=fun j=>if j=n then qm else B.qm j,qb:=fun j=>if j=n then qb else B.qb j,no:=fun j=>if j=n then no else B.no j,ks:=fun j=>if j=n then ks else B.ks j,hv:=fun j q=>if j=n then false else B.hv j q,tv:=fun j q=>if j=n then⟨#[]⟩else B.tv j q,ts:=fun j q=>if j=n then .nilIface else B.ts j q}
theorem dx(hm:(rs++ [gq L])[i]?=some r):(i<rs.length/\rs[i]?=some r)\/(i=rs.length/\r=gq L):=by
 by_cases e:i<rs.length
 ·rw[List.getElem?_append_left e]at hm;exact Or.inl ⟨e,hm⟩
 ·rw[List.getElem?_append_right (by omega)]at hm;have hi':=aE hm;simp at hi';have:i=rs.length:=by omega
  subst this;simp at hm;exact Or.inr ⟨rfl,hm.symm⟩
theorem Fv{qm:Nat}:dc (rs++ [gq L]) (cH B rs.length pr qm qb no ks)=upd (dc rs B) (.int .i64 ((rs.length:Int)+1)) (ptr pr):=by
 funext kl;by_cases e:kl=.int .i64 ((rs.length:Int)+1)
 ·subst e;rw[upd_same (by simp[WideAt.IsKeyLit])];have:fO (rs++ [gq L]) ((rs.length:Int)+1)=some (gq L):=by unfold fO;rw[if_neg (by simp;omega),show ((rs.length:Int)+1-1).toNat=rs.length from by omega];simp[gq]
  simp[dc,this,cH]
 ·rw[fN e];cases kl with
  |int k n=>
   cases k<;>try rfl
   have hn:n≠(rs.length:Int)+1:=fun e'=>e (by rw[e']);have hf:fO (rs++ [gq L]) n=fO rs n:=by
    unfold fO;by_cases h1:n<1\/(rs.length:Int)<n
    ·rw[if_pos h1,if_pos (by simp;omega)]
    ·rw[if_neg h1,if_neg (by simp;omega),List.getElem?_append_left (by omega)]
   simp only[dc,hf];cases hf2:fO rs n with
   |none=>rfl
   |some r=>
    have:(n-1).toNat≠rs.length:=by
     unfold fO at hf2;split at hf2
     ·cases hf2
     ·omega
    simp only[cH,if_neg this]
  |_=>rfl
theorem aW.aaE(h:aW w τ aD b s A)(KQ:1<=L.length)(Hz:L.length<=8)(hlg:∀x∈L,bK x=true)(hnd:L.Nodup)(hop:cj s.rs<50){qm:Nat}(hno:no=(decide (s.mode=2)&& decide (1<L.length)))
 (hp:iJ w' τ' aD s.rs.length s.parts A.pb pr qm qb no ks L w.heap.size) (ht:∀k,k<w.heap.size->τ' k=τ k)
 (hold:∀k,k<w.heap.size->k≠b->k≠A.R.rm->w'.heap[k]?=w.heap[k]?)
 (hb:aT w' b #[.int .i64 s.mode,A.cD,fy,gF,.int .i64 s.ws.length,.int .i64 ((s.rs.length:Int)+1),.map (some A.wm),.map (some A.R.rm)] 105)
 (hw:aK w' prog 3 A.R.rm (upd (dc s.rs A.R) (.int .i64 ((s.rs.length:Int)+1)) (ptr pr))):
 aW w' τ' aD b {s with rs:=s.rs++ [gq L]} {A with R:=cH A.R s.rs.length pr qm qb no ks}:=by
 have hne:∀{k a c:Nat},τ k=(aD,a,c)->a≠0->a≠10->k<w.heap.size->w'.heap[k]?=w.heap[k]? :=by
  intro k a c htk h0 h5 hk;refine hold k hk (fun e=>?_) (fun e=>?_)
  ·rw[e,h.tag]at htk;simp at htk;omega
  ·rw[e,h.reads.gS]at htk;simp at htk;omega
 refine h.IC (fun k hk h1 h0 JQ=>⟨hne (a:=(τ k).2.1) (c:=(τ k).2.2) (by rw[<-h1]) (by omega) (by omega) hk,ht k hk⟩) (by rw[ht b h.blk.lt,h.tag]) ⟨h.ok.p1,h.ok.p4,h.ok.len,h.ok.items,fun j r hj=>?_,?_⟩ ?_ ?_ ⟨?_,?_,fun j r hj hf=>?_,fun j r hj hf=>?_,fun j r hj hf=>?_,fun j r hj hf=>?_,fun j r q x hj hf hx=>?_,fun j r q x hj hf hx=>?_,fun j r hj hf=>?_,fun j r k hj hf hk=>?_⟩
 ·rcases dx hj with⟨_,e⟩|⟨_,rfl⟩
  ·exact h.ok.keys j r e
  ·exact⟨KQ,Hz,hlg,hnd⟩
 ·have:cj (s.rs++ [gq L])=cj s.rs+1:=by simp[cj,gq]
  show cj (s.rs++ [gq L])<=50;omega
 ·refine⟨h.told.sv,fun j r hj hf=>?_,fun j r q hj ha=>?_,fun j r q x hj hf hx=>?_,fun j r q x hj hf hx hv=>?_,fun j r q x hj hf hx hv=>?_,fun j r q x hj hf hx hv=>?_⟩
  ·rcases dx hj with⟨hjl,e⟩|⟨rfl,rfl⟩
   ·have:j≠s.rs.length:=by omega
    simp only[cH,this,if_false];exact h.told.no j r e hf
   ·simp only[cH,if_true];exact hno
  ·rcases dx hj with⟨hjl,e⟩|⟨rfl,rfl⟩
   ·exact h.told.un j r q e ha
   ·rfl
  ·rcases dx hj with⟨hjl,e⟩|⟨rfl,rfl⟩
   ·have:j≠s.rs.length:=by omega
    simp only[cH,this,if_false];exact h.told.hv j r q x e hf hx
   ·simp[cH,gq]
  ·rcases dx hj with⟨hjl,e⟩|⟨rfl,rfl⟩
   ·have:j≠s.rs.length:=by omega
    simp only[cH,this,if_false]at hv⊢;exact h.told.tv j r q x e hf hx hv
   ·simp[cH]at hv
  ·rcases dx hj with⟨hjl,e⟩|⟨rfl,rfl⟩
   ·have:j≠s.rs.length:=by omega
    simp only[cH,this,if_false]at hv⊢;exact h.told.t0 j r q x e hf hx hv
   ·simp[cH]
  ·rcases dx hj with⟨hjl,e⟩|⟨rfl,rfl⟩
   ·exact h.told.fm j r q x e hf hx hv
   ·simp[gq]at hv
 ·have e:((s.rs++ [gq L]).length:Int)=(s.rs.length:Int)+1:=by simp
  rw[e];exact hb
 ·rw[Fv];exact hw
 ·show τ' A.R.rm=_;rw[ht _ h.reads.qR.lt,h.reads.gS]
 ·rcases dx hj with⟨hjl,e⟩|⟨rfl,rfl⟩
  ·have hb':=h.reads.rd j r e hf;have:j≠s.rs.length:=by omega
   simp only[cH,this,if_false];exact hb'.of_eq (hne (h.reads.iI j r e hf) (by omega) (by omega) hb'.lt)
  ·simpa[cH]using hp.blk
 ·rcases dx hj with⟨hjl,e⟩|⟨rfl,rfl⟩
  ·have hb':=h.reads.rd j r e hf;have:j≠s.rs.length:=by omega
   simp only[cH,this,if_false];rw[ht _ hb'.lt,h.reads.iI j r e hf]
  ·simpa[cH]using hp.tag
 ·rcases dx hj with⟨hjl,e⟩|⟨rfl,rfl⟩
  ·have hb':=h.reads.u5 j r e hf;have hjn:j≠s.rs.length:=by omega
   have e1:bW (cH A.R s.rs.length pr qm qb no ks) j r=bW A.R j r:=by funext kl;cases kl<;>simp[bW,cH,hjn]
   rw[e1];simp only[cH,hjn,if_false];exact hb'.of_eq (hne (h.reads.l5 j r e hf) (by omega) (by omega) hb'.lt)
  ·have e1:bW (cH A.R s.rs.length pr qm qb no ks) s.rs.length (gq L)=qF qb L:=by funext kl;cases kl<;>simp[bW,cH,qF,gq]
   rw[e1];simpa[cH]using hp.map
 ·rcases dx hj with⟨hjl,e⟩|⟨rfl,rfl⟩
  ·have hb':=h.reads.u5 j r e hf;have:j≠s.rs.length:=by omega
   simp only[cH,this,if_false];rw[ht _ hb'.lt,h.reads.l5 j r e hf]
  ·simpa[cH]using hp.gU
 ·rcases dx hj with⟨hjl,e⟩|⟨rfl,rfl⟩
  ·have hb':=h.reads.q j r q x e hf hx;have:j≠s.rs.length:=by omega
   simp only[cH,this,if_false];exact hb'.of_eq (hne (h.reads.lA j r q x e hf hx) (by omega) (by omega) hb'.lt)
  ·have:=hp.q q x hx;simpa[cH,gq]using this
 ·rcases dx hj with⟨hjl,e⟩|⟨rfl,rfl⟩
  ·have hb':=h.reads.q j r q x e hf hx;have:j≠s.rs.length:=by omega
   simp only[cH,this,if_false];rw[ht _ hb'.lt,h.reads.lA j r q x e hf hx]
  ·have:=hp.lA q x hx;simpa[cH]using this
 ·rcases dx hj with⟨hjl,e⟩|⟨rfl,rfl⟩
  ·have hr':=h.reads.ky j r e hf;have:j≠s.rs.length:=by omega
   simp only[cH,this,if_false];exact ak hr' (fun k hk=>hne (h.reads.dF j r k e hf hk) (by omega) (by omega) (aR hr' k hk).2)
  ·have:=hp.ky;simpa[cH,gq]using this
 ·rcases dx hj with⟨hjl,e⟩|⟨rfl,rfl⟩
  ·have hr':=h.reads.ky j r e hf;have hjn:j≠s.rs.length:=by omega
   simp only[cH,hjn,if_false]at hk;rw[ht _ (aR hr' k hk).2,h.reads.dF j r k e hf hk]
  ·simp only[cH,if_true]at hk;exact hp.dF k hk
theorem SN{L:List ByteArray}(h:iH L=0):1<=L.length/\L.length<=8/\(∀x∈L,bK x=true)/\L.Nodup:=by
 unfold iH at h;split at h
 ·cases h
 ·obtain⟨h1,h2⟩:=PE h;exact⟨by omega,by omega,fun x hx=>(h1 x hx).1,h2⟩
theorem AQ(a:Option Addr)(L:List ByteArray)(cap:Nat)(hL:L.length<=maxLen)(Sw:L.length<=cap)(hcm:cap<=maxLen)(hz:PF L)(hI:CG w a L):
 Calls prog 36 #[.slice a L.length cap] w fun e w'=>e=.returned (.int .i64 (iH L))/\w'=w:=by
 by_cases hs:L.length<1\/8<L.length
 ·exact y8 a L cap hL hs
 ·obtain⟨ib,io,rfl,c0⟩:=hI 0 L[0] (zba (by omega));refine y9 ib io L cap (by omega) (by omega) Sw hcm hz (fun k x hx=>?_);obtain⟨ib',io',e,r⟩:=hI k x hx;cases e;exact r
theorem TZ(h:aW w τ aD b s A)(a:Option Addr)(cap:Nat)(hL:L.length<=maxLen)(Sw:L.length<=cap)(hcm:cap<=maxLen)(hz:PF L)(hI:CG w a L)(hf:∀ib io,a=some ⟨ib,io,none⟩->(τ ib).1≠aD)(hrl:s.rs.length<8796093022208):
 Calls prog 21 #[ptr b,.slice a L.length cap] w (Pe w τ aD b (py s L)):=by
 have cc:=AQ a L cap hL Sw hcm hz hI;by_cases hc:iH L=0
 ·obtain⟨h1,h8,hg,hnd⟩:=SN hc;rw[hc]at cc;obtain⟨gb,go,rfl,hc0⟩:=hI 0 L[0] (zba (by omega));have hgb:gb<w.heap.size:=zbc w _ hc0;have AL:=hf gb go rfl;have hcell:∀(k:Nat) (x:ByteArray),L[k]?=some x->w.cell? ⟨gb,go+k,none⟩=some (.string x):=fun k x hx=>by obtain⟨ib',io',e,r⟩:=hI k x hx;cases e;exact r
  have hp1:=h.ok.p1;have HY:=h.ok.p4;have hop:=h.ok.opn;have c2:w.cell? ⟨b,2,none⟩=some (.int .i32 0):=h.blk.cell (o:=2) rfl;have f2:=h.blk.frozen 2;have iR:=h.blk.set 2 (.int .i32 1);have L4:A.R.rm≠b:=fun e=>by have h1:=h.reads.gS;rw[e,h.tag]at h1;simp at h1
  have mU:aK (w.setCell ⟨b,2,none⟩ (.int .i32 1)) prog 3 A.R.rm (dc s.rs A.R):=h.reads.qR.of_eq (za9 _ _ _ _ L4);obtain⟨mn,mD,hown,hsize⟩:=mU.size eD (tI s.rs) zf;rw[oI]at hsize;have c7:(w.setCell ⟨b,2,none⟩ (.int .i32 1)).cell? ⟨b,7,none⟩=some (.map (some A.R.rm)):=iR.cell (o:=7) rfl;by_cases hfull:50<=cj s.rs
  ·have Hr:Hid (py s L=(0,6,s)):=by unfold Hid py;rw[hc];simp[hfull]
   have eF:=gm h.blk (o:=2) rfl (.int .i32 1);unfold fy at eF;unfold ptr;clear hcell hI hf;go_enter_defers func21,ntmps21;go_wp2_with fail
   refine cc.mono ?_;rintro e w1 ⟨rfl,rfl⟩;clear cc;go_wp2_with fail
   refine(lock_free Tryz.a9 ⟨b,2,none⟩ _ c2 f2).mono ?_;rintro e w' ⟨rfl,rfl⟩;go_wp2_with (at_len;refine wpList_len_own _ rfl _ 103 rfl 3 106 underlying103 aL A.R.rm mn mD rfl hown ?_;rw[hsize])
   refine leaves_cons (f:=38) (args:=#[.pointer (some ⟨b,2,none⟩)]) (by simp) (by simp[go_sem]) ?_;refine(unlock_deferred Tryz.a9 ⟨b,2,none⟩ .returning _ (iR.cell (o:=2) rfl) (iR.frozen 2)).mono ?_;rintro e u' w'' ⟨rfl,rfl,rfl⟩;rw[Hr.out];exact⟨_,results_tmp2 rfl _ _ _,τ,A,rfl,h.same eF,eF.nG _ _⟩
  ·have Hr:Hid (py s L=((s.rs.length:Int)+1,0,{s with rs:=s.rs++ [gq L]})):=by unfold Hid py;rw[hc];simp only[ne_eq,not_true,if_false,if_neg hfull]
   have c5:(w.setCell ⟨b,2,none⟩ (.int .i32 1)).cell? ⟨b,5,none⟩=some (.int .i64 s.rs.length):=iR.cell (o:=5) rfl;have f5:(w.setCell ⟨b,2,none⟩ (.int .i32 1)).frozen? ⟨b,5,none⟩=false:=iR.frozen 5;have kQ:=iR.set 5 (.int .i64 ((s.rs.length:Int)+1));unfold ptr;clear hI hf;go_enter_defers func21,ntmps21;go_wp2_with fail
   refine cc.mono ?_;rintro e w1 ⟨rfl,rfl⟩;clear cc;go_wp2_with fail
   refine(lock_free Tryz.a9 ⟨b,2,none⟩ _ c2 f2).mono ?_;rintro e w' ⟨rfl,rfl⟩;have LP:gb≠b:=fun e=>AL (by rw[e,h.tag]);have eK:∀k,k≠b->((w1.setCell ⟨b,2,none⟩ (.int .i32 1)).setCell ⟨b,5,none⟩ (.int .i64 ((s.rs.length:Int)+1))).heap[k]?=w1.heap[k]? :=fun k hk=>(za9 _ _ _ _ hk).trans (za9 _ _ _ _ hk);have Wc:((w1.setCell ⟨b,2,none⟩ (.int .i32 1)).setCell ⟨b,5,none⟩ (.int .i64 ((s.rs.length:Int)+1))).heap.size=w1.heap.size:=by simp[World.setCell]
   have Iz:((w1.setCell ⟨b,2,none⟩ (.int .i32 1)).setCell ⟨b,5,none⟩ (.int .i64 ((s.rs.length:Int)+1))).os=w1.os/\((w1.setCell ⟨b,2,none⟩ (.int .i32 1)).setCell ⟨b,5,none⟩ (.int .i64 ((s.rs.length:Int)+1))).tape=w1.tape/\((w1.setCell ⟨b,2,none⟩ (.int .i32 1)).setCell ⟨b,5,none⟩ (.int .i64 ((s.rs.length:Int)+1))).output=w1.output:=⟨rfl,rfl,rfl⟩
   go_wp2_with (at_len;refine wpList_len_own _ rfl _ 103 rfl 3 106 underlying103 aL A.R.rm mn mD rfl hown ?_;rw[hsize])
   generalize (w1.setCell ⟨b,2,none⟩ (.int .i32 1)).setCell ⟨b,5,none⟩ (.int .i64 ((s.rs.length:Int)+1))=wC at *;have s0:wC.cell? ⟨b,0,none⟩=some (.int .i64 s.mode):=kQ.cell (o:=0) rfl;have s1:wC.cell? ⟨b,1,none⟩=some A.cD:=kQ.cell (o:=1) rfl;have s4:wC.cell? ⟨b,5,none⟩=some (.int .i64 ((s.rs.length:Int)+1)):=kQ.cell (o:=5) rfl;have s5:wC.cell? ⟨b,7,none⟩=some (.map (some A.R.rm)):=kQ.cell (o:=7) rfl;have Fh:wC.ownsRow 0 130 1 A.cD s.parts ((List.range s.parts).map (fun q=>ptr (A.pb q))):=ak h.cD (fun k hk=>eK k (fun e=>by have h1:=h.eI k hk;rw[e,h.tag]at h1;simp at h1));have y5:∀(k:Nat) (x:ByteArray),L[k]?=some x->wC.cell? ⟨gb,go+k,none⟩=some (.string x):=fun k x hx=>(zbb (w:=w1) (eK gb LP)).trans (hcell k x hx);have cn:=Fu (w:=wC.drew) (τ:=τ) (aD:=aD) (i:=s.rs.length) (P:=s.parts) (pb:=A.pb) (L:=L) b s.mode s0 A.cD s1 Fh hp1 HY gb go cap h1 h8 hg hnd y5;unfold ptr at cn;have hMC:aK wC prog 3 A.R.rm (dc s.rs A.R):=h.reads.qR.of_eq (eK _ L4);have We:=kQ.lt;have hn1: -9223372036854775808<=(s.rs.length:Int)+1:=by omega
   have hn2:(s.rs.length:Int)+1<=9223372036854775807:=by omega
   have tu:(lB s.rs).length<maxLen:=by rw[oI];unfold maxLen;omega
   clear hcell y5 Fh c5 f5 hown mU c7 hsize s0;go_region_held3 (fun W=>W.cell? ⟨b,5,none⟩=some (.int .i64 ((s.rs.length:Int)+1))/\W.cell? ⟨b,7,none⟩=some (.map (some A.R.rm))) (simp[*]) ((go_at_call 39;refine cn.mono ?_;rintro e w2 ⟨τ',pr,qm,qb,ks,rfl,hPW,dP,sP⟩;have k4:=(dP.cell (p:=⟨b,5,none⟩) We).trans s4;have k5:=(dP.cell (p:=⟨b,7,none⟩) We).trans s5;obtain⟨w3,hup,G0,hTu⟩:=(hMC.of_eq (w':=w2) (dP.block _ hMC.lt)).store (t:=103) (e:=106) eD underlying103 (lB s.rs) (fun kl hh=>(zf kl).1 hh) tu (keyOf_int hn1 hn2) (.pointer (some ⟨pr,0,none⟩));have C7:=rz.fR hTu;have m4:=(zbb (w:=w2) (a:=⟨b,5,none⟩) (C7.block b (fun e=>L4 e.symm))).trans k4;have m5:=(zbb (w:=w2) (a:=⟨b,7,none⟩) (C7.block b (fun e=>L4 e.symm))).trans k5))
   clear cn;go_wp2_with fail
   have BM:aT w3 b _ _:=(kQ.of_eq (dP.block b We)).of_eq (C7.block b (fun e=>L4 e.symm));refine leaves_cons (f:=38) (args:=#[.pointer (some ⟨b,2,none⟩)]) (by simp) (by simp[go_sem]) ?_;refine(unlock_deferred Tryz.a9 ⟨b,2,none⟩ .returning _ (BM.cell (o:=2) rfl) (BM.frozen 2)).mono ?_;rintro e u' w'' ⟨rfl,rfl,rfl⟩;rw[Hr.out];have IA:wC.drew.heap.size=w1.heap.size:=Wc;rw[IA]at hPW sP;have Og:w1.heap.size<=w2.heap.size:=by have:=dP.size;rw[IA]at this;exact this
   have hold:∀k,k<w1.heap.size->k≠b->k≠A.R.rm->(w3.setCell ⟨b,2,none⟩ (.int .i32 0)).heap[k]?=w1.heap[k]? :=fun k hk hkb hkm=>
    (za9 _ _ _ _ hkb).trans ((C7.block k hkm).trans ((dP.block k (by rw[IA];exact hk)).trans (eK k hkb)))
   have ae4:=h.reads.qR.lt;have vP:=h.blk.lt;refine⟨_,results_tmp2 rfl _ _ _,τ',_,rfl,h.aaE h1 h8 hg hnd (by omega) (w':=w3.setCell ⟨b,2,none⟩ (.int .i32 0)) rfl (hPW.frame (fun k hk tu=>(za9 _ _ _ _ (by simp only;omega)).trans (C7.block k (by omega)))) sP hold ?_ (G0.of_eq (za9 _ _ _ _ L4)),?_⟩
   ·have:=BM.set 2 (.int .i32 0);simpa[fy,gF]using this
   ·refine⟨C7.os.trans (dP.os.trans Iz.1),C7.tape.trans (dP.tape.trans Iz.2.1),C7.output.trans (dP.output.trans Iz.2.2),?_,fun k hk=>sP k (by omega),fun k hk hs=>?_⟩
    ·have:=C7.size;simp[World.setCell];omega
    ·exact hold k (by omega) (fun e=>hs (by rw[e,h.tag])) (fun e=>hs (by rw[e,h.reads.gS]))
 ·have Hr:Hid (py s L=(0,iH L,s)):=by unfold Hid py;simp[hc]
  have hne:(iH L != 0)=true:=by rw[bne_iff_ne];exact hc
  generalize iH L=c at *;unfold ptr;clear hI hf;go_enter_defers func21,ntmps21;go_wp2_with fail
  refine cc.mono ?_;rintro e w1 ⟨rfl,rfl⟩;clear cc;go_wp2_with fail
  rw[Hr.out];exact⟨_,results_tmp2 rfl _ _ _,τ,A,rfl,h,Stp.refl _ _ _⟩
end
end
section
structure yH(r:MR)(ms:List Int):Prop where
 le:ms.length<=8
 of:∀m∈ms,∃j x,r.keys[j]?=some x/\m=r.found j
 all:∀(j:Nat) (x:ByteArray),r.keys[j]?=some x->(r.found j:Int)∈ms
theorem yI{base base':Nat}{e:TypeId}{size:Nat}{n:Nat}{xs:List Value}(h:w.ownsRow base e size v n xs)(hb:base'<=base):w.ownsRow base' e size v n xs:=by refine⟨h.1,h.2.imp id ?_⟩;rintro⟨g,cap,cur,h1,h2,h3⟩;exact⟨g,cap,cur,h1,by omega,h3⟩
section
variable {w:World}{A:SA}
theorem yJ(h:Seen w A i r):
 Calls prog 76 #[ptr (A.R.pr i)] w fun e w'=>∃(ms:List Int) (v:Value),e=.returned v/\w'.ownsRow w.heap.size 3 1 v ms.length (ms.map (Value.int .i64))/\yH r ms/\Below w.heap.size w w':=by
 have c4:w.cell? ⟨A.R.pr i,4,none⟩=some (.map (some (A.R.qm i))):=h.rd.cell (o:=4) rfl;obtain⟨n,D,hown,hs,hsize⟩:=h.qm.Ua dI (nV h.nd) uX;have Hz:(iz r).length<=8:=by unfold iz;simpa using h.l8
 have hf:=jV A.R i r;have hQ:∀(j:Nat) (x:ByteArray),r.keys[j]?=some x->w.cell? ⟨A.R.qb i j,2,none⟩=some (.int .i64 (r.found j)):=fun j x hx=>by obtain⟨p,hp⟩:=h.q j x hx;exact hp.cell (o:=2) rfl
 have Lu:=h.qm.lt;obtain⟨ii,oG,Zv,Zw,Zx⟩:=info_parts J6;unfold ptr;go_enter func76,ntmps76;go_wp2_with (at_range;refine wpList_range_own _ rfl _ 135 rfl 9 139 dI underlying135 aL (A.R.qm i) n D rfl hown ?_;intro w0 tC Aq hs0)
 go_frame
 go_loopw [3,11] (fun s3 _ wr=>∃(left:Lit->Bool) (cnt k:Nat) (xs:List Value) (ms:List Int),wr.ranges prog 9 aL (A.R.qm i) w.heap.size n D left cnt/\wr.ownsRow (w.heap.size+1) 3 1 s3 k xs/\k+cnt<=8/\Below w.heap.size w wr/\w.heap.size<wr.heap.size/\Hid (xs=ms.map (Value.int .i64)/\ms.length=k/\(∀m∈ms,∃j x,r.keys[j]?=some x/\m=r.found j)/\∀(j:Nat) (x:ByteArray),r.keys[j]?=some x->left (.string x.data.toList)=true\/(r.found j:Int)∈ms)) (fun _ _ wr=>wr.rangeLeft (A.R.qm i) w.heap.size)
 case atStart=>
  exact⟨_,_,0, [], [],tC,World.ownsRow_nil _ _ _ _,by omega,(Below.refl _ _).grown Aq (Nat.le_refl _) (fun k e=>by cases e),by omega,rfl,rfl,(fun m hm=>by cases hm),fun j x hx=>Or.inl (BL hs h.nd hx)⟩
 case round=>
  obtain⟨left,cnt,k,xs,ms,lm,hrow,hkc,hB,hsz,HM⟩:=hrel;obtain⟨av,jS,Zt⟩:=gH hrow;subst Zt;go_wp2_with (at_next;refine kI _ rfl _ rfl 9 dI underlying9 (A.R.qm i) w.heap.size n D (bW A.R i r) hs (fun x=>A.R.qb i (bM r.keys x)) _ hf left cnt rfl lm ?_ ?_)
  ·intro hl0;have HL:Hid (yH r ms):=by
    obtain⟨_,q2,q3,q4⟩:=HM.out;refine⟨by omega,q3,fun j x hx=>?_⟩;rcases q4 j x hx with e|e
    ·rw[hl0]at e;cases e
    ·exact e
   clear hl0;have HR:Hid (wr.ownsRow w.heap.size 3 1 (.slice av k jS) ms.length (ms.map (Value.int .i64))):=by obtain⟨q1,q2,_⟩:=HM.out;rw[<-q1,q2];exact yI hrow (by omega)
   go_wp2_with fail
   go_ret;exact⟨ms,_,rfl,HR.out,HL.out,hB⟩
  ·intro x w1 CO hxj GY EG uY hlt kC hs1 q9;generalize ZM:bM r.keys x=j at *;have iM:Below w.heap.size w w1:=hB.grown kC (by omega) (fun k e=>by cases e;exact Nat.le_refl _);have cq:=hQ j x GY;have ZN:w1.cell? ⟨A.R.qb i j,2,none⟩=some (.int .i64 (r.found j)):=(iM.cell (p:=⟨A.R.qb i j,2,none⟩) (zbc w _ cq)).trans cq;have E4:w1.ownsRow (w.heap.size+1) 3 1 (.slice av k jS) k xs:=ak hrow (fun k' hk'=>kC.block k' (aR hrow k' hk').2 (fun e=>by cases e;have:=(aR hrow _ hk').1;omega));have HN:Hid (∀(w2:World) (v2:Value) (o:Obj) (ZO:List Value),w2.ownsRow (w.heap.size+1) 3 1 v2 (k+1) ZO->(w1.alloc o).grownBy w2 (Value.slice av k jS).ownBlock->
    w2.ranges prog 9 aL (A.R.qm i) w.heap.size n D (fun z=>left z && !z.sameKey (.string x.data.toList)) CO/\Below w.heap.size w w2/\w.heap.size<w2.heap.size):=fun w2 v2 o ZO a1 a2=>by
    have Og:w1.heap.size<w2.heap.size:=by have:=a2.size;simp at this;omega
    have vP:∀k',k'<w.heap.size+1->w2.heap[k']?=w1.heap[k']? :=fun k' hk'=>(a2.block k' (by simp;omega) (fun e=>by have:=(aR E4 k' e.symm).1;omega)).trans (Below.heap_alloc _ _ _ (by omega));refine⟨nW uY (vP _ (by omega)) (vP _ (by omega)),⟨a2.os.trans iM.os,a2.tape.trans iM.tape,a2.output.trans iM.output,by omega,fun k' hk'=>(vP k' (by omega)).trans (iM.block k' hk')⟩,by omega⟩
   have hsb:w.heap.size+1<=w1.heap.size:=by omega
   clear cq EG hs1;go_wp2_with (at_builtin;refine wpList_append_own_at _ rfl (.tmp 15) (.tmp 21) 58 rfl (w.heap.size+1) 3 ii _ 1 8 underlying58 oG Zv Zw Zx rfl (by decide) (.slice av k jS) k xs rfl (E4.alloc _) ⟨_,0,none⟩ 1 1 [.int .i64 (r.found j)] rfl rfl (cell_one_new _ _ _) (by simp[Value.oneCell']) (by unfold maxLen;omega) (by omega) (by simp;omega) ?_;intro v2 w2 AA qO Oc hA2)
   obtain⟨r1,r2,r3⟩:=HN.out w2 v2 _ _ AA qO;have Lv:Hid (xs++ [.int .i64 (r.found j)]=(ms++ [(r.found j:Int)]).map (Value.int .i64)/\(ms++ [(r.found j:Int)]).length=k+1/\(∀m∈ms++ [(r.found j:Int)],∃j x,r.keys[j]?=some x/\m=r.found j)/\∀(j':Nat) (x':ByteArray),r.keys[j']?=some x'->(left (.string x'.data.toList)&& !(Lit.string x'.data.toList).sameKey (.string x.data.toList))=true\/(r.found j':Int)∈ms++ [(r.found j:Int)]):=by
    obtain⟨q1,q2,q3,q4⟩:=HM.out;refine⟨by rw[q1];simp,by simp[q2],fun m hm=>?_,fun j' x' hx'=>?_⟩
    ·rcases List.mem_append.1 hm with hm|hm
     ·exact q3 m hm
     ·simp at hm;exact⟨j,x,GY,hm⟩
    ·by_cases e:j'=j
     ·subst e;exact Or.inr (by simp)
     ·rcases q4 j' x' hx' with e1|e1
      ·refine Or.inl ?_;rw[e1,Maps.sameKey_ne (by intro e2;injection e2 with e2;have e3:x'=x:=WideShapes.bytes_inj e2;subst e3;exact e ((lz h.nd hx').symm.trans ZM))]
       rfl
      ·exact Or.inr (List.mem_append_left _ e1)
   go_wp2_with fail
   go_roundw
   case rel=>exact⟨_,_,k+1,_,_,r1,AA,by omega,r2,r3,Lv⟩
   case measure=>rw[r1.left_eq,lm.left_eq];omega
end
end
end Go.Proofs.YteoahlieielcdaaGreat
