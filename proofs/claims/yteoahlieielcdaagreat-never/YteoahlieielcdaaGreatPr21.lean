import Derived.Test.YteoahlieielcdaaGreatPrT
import Derived.Test.YteoahlieielcdaaGreatRef10
set_option linter.all false
set_option maxHeartbeats 6000000
set_option maxRecDepth 100000
namespace Go.Proofs.YteoahlieielcdaaGreat
open Go.Proofs.Tryz
open Go Go.RowKit Go.MuLone
open Go.Maps (Keyed)
abbrev za4:=@RowKit.Below.heap_setCell
abbrev za5:=@List.getElem?_eq_getElem
abbrev za6:=@World.cell?_of_block
abbrev za7:=@World.block_lt_of_cell?
variable{w' w:af}{τ':Nat->Tag}{rs' rs:List MR}{B' B:SB}{i j b cnt pr:Nat}{r r':MR}{v ts ks:aj}{x tv key:ah}{hv no:Bool}{n:Int}{l:List KV}{P:aB}{D:DataW aj}{qb:Nat->Nat}
section
section
variable {w:af}{τ:Nat->Tag}{aO b:Nat}{s:MS}{A:SA}
def a9.Hl(h:a9 w τ aO b s A)
 (hf:∀k,k<w.heap.size->(τ k).1=aO->0< (τ k).2.1->((τ k).2.1<10\/(τ k).2.1=15)->w'.heap[k]?=w.heap[k]? /\τ' k=τ k) (htb:τ' b=(aO,0,0))
 (hok:MOk {s with rs:=rs'}) (ab1:yy {s with rs:=rs'} {A with R:=B'}) (hb:bg w' b #[.int .i64 s.mode,A.cG,eN,fV,.int .i64 s.ws.length,.int .i64 rs'.length,.map (some A.wm),.map (some B'.rm)] 105)
 (hr:RdS w' τ' aO s.parts A.pb rs' B'):a9 w' τ' aO b {s with rs:=rs'} {A with R:=B'}:=by
 have mK:∀{k:Nat} {c:Array aj} {t:az} {g g':Nat},0<g->g<10->bg w k c t->τ k=(aO,g,g')->bg w' k c t/\τ' k=(aO,g,g'):=by intro k c t g g' hg hg' hb ht;obtain⟨e1,e2⟩:=hf k hb.lt (by rw[ht]) (by rw[ht];exact hg) (by rw[ht];exact .inl hg');exact⟨hb.of_eq e1,e2.trans ht⟩
 have hmap:∀{k:Nat} {t:az} {f:Lit->Option aj} {g g':Nat},0<g->g<10->aS w prog t k f->τ k=(aO,g,g')->aS w' prog t k f/\τ' k=(aO,g,g'):=by intro k t f g g' hg hg' hb ht;obtain⟨e1,e2⟩:=hf k hb.lt (by rw[ht]) (by rw[ht];exact hg) (by rw[ht];exact .inl hg');exact⟨hb.of_eq e1,e2.trans ht⟩
 have hrow:∀{e:az} {sz:Nat} {v:aj} {n:Nat} {xs:List aj} {g g':Nat},0<g->g<10->w.ownsRow 0 e sz v n xs->(∀k,v.ownBlock=some k->τ k=(aO,g,g'))->w'.ownsRow 0 e sz v n xs/\∀k,v.ownBlock=some k->τ' k=(aO,g,g'):=by intro e sz v n xs g g' hg hg' ho hv;refine⟨aH ho (fun k hk=>(hf k (aQ ho k hk).2 (by rw[hv k hk]) (by rw[hv k hk];exact hg) (by rw[hv k hk];exact .inl hg')).1),fun k hk=>?_⟩;rw[(hf k (aQ ho k hk).2 (by rw[hv k hk]) (by rw[hv k hk];exact hg) (by rw[hv k hk];exact .inl hg')).2,hv k hk]
 exact⟨hok,⟨h.inv.cp,h.inv.po,h.inv.cc⟩,ab1,hb,htb,(hrow (by omega) (by omega) h.cG h.eF).1,(hrow (by omega) (by omega) h.cG h.eF).2,
  fun q hq=>(mK (by omega) (by omega) (h.part q hq) (h.dh q hq)).1,fun q hq=>(mK (by omega) (by omega) (h.part q hq) (h.dh q hq)).2,
  fun q hq=>(hmap (by omega) (by omega) (h.kept q hq) (h.cF q hq)).1,fun q hq=>(hmap (by omega) (by omega) (h.kept q hq) (h.cF q hq)).2,
  fun q hq=>(hmap (by omega) (by omega) (h.tB q hq) (h.eV q hq)).1,fun q hq=>(hmap (by omega) (by omega) (h.tB q hq) (h.eV q hq)).2,fun q hq=>⟨(h.lB q hq).seen,(h.lB q hq).top⟩,
  (hmap (by omega) (by omega) h.rE h.iJ).1,(hmap (by omega) (by omega) h.rE h.iJ).2,
  fun i m a c=>(mK (by omega) (by omega) (h.wr i m a c) (h.fj i m a c)).1,fun i m a c=>(mK (by omega) (by omega) (h.wr i m a c) (h.fj i m a c)).2,
  fun i m a c=>(hmap (by omega) (by omega) (h.PG i m a c) (h.iX i m a c)).1,fun i m a c=>(hmap (by omega) (by omega) (h.PG i m a c) (h.iX i m a c)).2,
  fun i m q a c o=>(mK (by omega) (by omega) (h.sh i m q a c o) (h.cM i m q a c o)).1,fun i m q a c o=>(mK (by omega) (by omega) (h.sh i m q a c o) (h.cM i m q a c o)).2,
  fun i m q a c o=>(hrow (by omega) (by omega) (h.it i m q a c o) (fun k=>h.eZ i m q k a c o)).1,fun i m q k a c o=>(hrow (by omega) (by omega) (h.it i m q a c o) (fun k=>h.eZ i m q k a c o)).2 k,hr,
  fun i m a=>(h.KY i m a).of fun k hk ht=>hf k hk (by rw[ht]) (by rw[ht];simp) (by rw[ht];exact .inr rfl)⟩
def Lx(hr:rs[i]?=some r)(hf:r'.fin=r.fin)(n:Int):(ed (rs.set i r') n).isSome=(ed rs n).isSome:=by
 unfold ed;simp only[List.length_set];split
 ·rfl
 ·rw[List.getElem?_set];by_cases e:i=(n-1).toNat
  ·rw[if_pos e,<-e,hr,if_pos (aM hr)];simp only[hf];cases r.fin<;>rfl
  ·rw[if_neg e]
def Ho(hr:rs[i]?=some r)(hf:r'.fin=r.fin):dK (rs.set i r') B=dK rs B:=by
 funext kl;cases kl with
 |int k n=>
  cases k<;>try rfl
  simp only[dK];have:=Lx hr hf n;cases h1:ed (rs.set i r') n<;>cases h2:ed rs n<;>simp[h1,h2]at this⊢
 |_=>rfl
def jT(B:SB)(i j:Nat)(hv:Bool)(tv:ah)(ts:aj):SB:=
 {B with hv:=fun i' j'=>if i'=i/\j'=j then hv else B.hv i' j',tv:=fun i' j'=>if i'=i/\j'=j then tv else B.tv i' j',ts:=fun i' j'=>if i'=i/\j'=j then ts else B.ts i' j'}
def a9.ask(h:a9 w τ aO b s A){v:Nat}(hhv:hv=(!A.R.no i && decide (v≠0)))(htv:hv=true->∃m,s.ws[v-1]?=some m/\fO m.items x=some tv/\ts=A.sv (v-1))(ht0:hv=false->tv=⟨#[]⟩/\ts=.nilIface)
 (Rz:v≠0->∃m,s.ws[v-1]?=some m/\aP m.items x=true/\m.comm (partOf s.parts x).toNat=true) (hr:s.rs[i]?=some r) (jh:r.fin=false) (hx:r.keys[j]?=some x) {w':af}
 (hne:∀k,k<w.heap.size->k≠A.R.qb i j->w'.heap[k]?=w.heap[k]?) (hq:bg w' (A.R.qb i j) #[ptr (A.pb (partOf s.parts x).toNat),.bool true,.int .i64 v,.bool hv,.string tv,ts] 146):
 a9 w' τ aO b {s with rs:=s.rs.set i {r with asked:=put r.asked j,found:=fun q=>if q=j then v else r.found q}} {A with R:=jT A.R i j hv tv ts}:=by
 have hi:=aM hr;have hjl:=aM hx;have ht:=h.reads.lu i r j x hr jh hx;have hne':∀{k:Nat},k<w.heap.size->τ k≠(aO,13,i*8+j)->w'.heap[k]?=w.heap[k]? :=fun hl hk=>hne _ hl (fun e=>hk (by rw[e];exact ht));have dL:∀{q:Nat} {rq:MR},(s.rs.set i {r with asked:=put r.asked j,found:=fun q=>if q=j then v else r.found q})[q]?=some rq->∃ro,s.rs[q]?=some ro/\rq.keys=ro.keys/\rq.fin=ro.fin:=by
  intro q rq hq;rcases jO hq with⟨rfl,rfl⟩|⟨_,hq⟩
  ·exact⟨r,hr,rfl,rfl⟩
  ·exact⟨rq,hq,rfl,rfl⟩
 refine h.Hl (B':=jT A.R i j hv tv ts) (fun k hk _ _ Jr=>⟨hne' hk (fun e=>by rw[e]at Jr;simp at Jr),rfl⟩) h.tag ⟨h.ok.p1,h.ok.p4,h.ok.len,h.ok.items,fun q rq hq=>?_,?_⟩ ?_ ?_ ⟨?_,h.reads.iq,fun q rq hq hf=>?_,fun q rq hq hf=>?_,fun q rq hq hf=>?_,fun q rq hq hf=>?_,fun q rq j' x' hq hf hx'=>?_,fun q rq j' x' hq hf hx'=>?_,fun q rq hq hf=>?_,fun q rq k hq hf=>?_⟩
 ·obtain⟨ro,ho,e,_⟩:=dL hq;rw[e];exact h.ok.keys q ro ho
 ·show bq (s.rs.set i {r with asked:=put r.asked j,found:=fun q=>if q=j then v else r.found q})<=50;rw[z4 (r':={r with asked:=put r.asked j,found:=fun q=>if q=j then v else r.found q}) hr rfl];exact h.ok.opn
 ·have jm:∀{q:Nat} {rq:MR},(s.rs.set i {r with asked:=put r.asked j,found:=fun q=>if q=j then v else r.found q})[q]?=some rq->rq.fin=false->∀{j':Nat} {x':ah},rq.keys[j']?=some x'->
   (q=i/\j'=j/\x'=x/\rq.found j'=v)\/(¬(q=i/\j'=j)/\∃ro,s.rs[q]?=some ro/\ro.fin=false/\ro.keys[j']?=some x'/\rq.found j'=ro.found j'):=by
   intro q rq hq hf j' x' hx';rcases jO hq with⟨rfl,rfl⟩|⟨e,hq⟩
   ·by_cases ej:j'=j
    ·subst ej;have FV:r.keys[j']?=some x':=hx';rw[hx]at FV;cases FV;exact Or.inl ⟨rfl,rfl,rfl,by simp⟩
    ·exact Or.inr ⟨fun e=>ej e.2,r,hr,jh,hx',by simp[ej]⟩
   ·exact Or.inr ⟨fun e'=>e e'.1.symm,rq,hq,hf,hx',rfl⟩
  refine⟨h.told.sv,fun q rq hq hf=>?_,fun q rq j' hq ha=>?_,fun q rq j' x' hq hf hx'=>?_,fun q rq j' x' hq hf hx' hv'=>?_,fun q rq j' x' hq hf hx' hv'=>?_,fun q rq j' x' hq hf hx' hv'=>?_⟩
  ·obtain⟨ro,ho,ek,e⟩:=dL hq;rw[e]at hf;rw[ek];exact h.told.no q ro ho hf
  ·rcases jO hq with⟨rfl,rfl⟩|⟨_,hq⟩
   ·by_cases ej:j'=j
    ·subst ej;simp[put]at ha
    ·simp only[put,ej,if_false]at ha⊢;exact h.told.un i r j' hr ha
   ·exact h.told.un q rq j' hq ha
  ·rcases jm hq hf hx' with⟨rfl,rfl,rfl,e⟩|⟨e,ro,h1,h2,h3,h4⟩
   ·rw[e];simp only[jT,and_self,if_true];exact hhv
   ·rw[h4];simp only[jT,if_neg e];exact h.told.hv q ro j' x' h1 h2 h3
  ·rcases jm hq hf hx' with⟨rfl,rfl,rfl,e⟩|⟨e,ro,h1,h2,h3,h4⟩
   ·rw[e];simp only[jT,and_self,if_true]at hv'⊢;exact htv hv'
   ·rw[h4];simp only[jT,if_neg e]at hv'⊢;exact h.told.tv q ro j' x' h1 h2 h3 hv'
  ·rcases jm hq hf hx' with⟨rfl,rfl,rfl,e⟩|⟨e,ro,h1,h2,h3,h4⟩
   ·simp only[jT,and_self,if_true]at hv'⊢;exact ht0 hv'
   ·simp only[jT,if_neg e]at hv'⊢;exact h.told.t0 q ro j' x' h1 h2 h3 hv'
  ·rcases jm hq hf hx' with⟨rfl,rfl,rfl,e⟩|⟨e,ro,h1,h2,h3,h4⟩
   ·rw[e]at hv'⊢;exact Rz hv'
   ·rw[h4]at hv'⊢;exact h.told.fm q ro j' x' h1 h2 h3 hv'
 ·simp only[List.length_set];exact h.blk.of_eq (hne' h.blk.lt (by rw[h.tag];simp))
 ·rw[Ho (r':={r with asked:=put r.asked j,found:=fun q=>if q=j then v else r.found q}) hr rfl];exact h.reads.rC.of_eq (hne' h.reads.rC.lt (by rw[h.reads.iq];simp))
 ·obtain⟨ro,ho,_,e⟩:=dL hq;rw[e]at hf;exact(h.reads.rd q ro ho hf).of_eq (hne' (h.reads.rd q ro ho hf).lt (by rw[h.reads.iI q ro ho hf];simp))
 ·obtain⟨ro,ho,_,e⟩:=dL hq;rw[e]at hf;exact h.reads.iI q ro ho hf
 ·obtain⟨ro,ho,ek,e⟩:=dL hq;rw[e]at hf;refine((h.reads.vV q ro ho hf).of_eq (hne' (h.reads.vV q ro ho hf).lt (by rw[h.reads.mI q ro ho hf];simp))).congr (fun kl=>?_);cases kl<;>simp[cW,ek,jT]
 ·obtain⟨ro,ho,_,e⟩:=dL hq;rw[e]at hf;exact h.reads.mI q ro ho hf
 ·rcases jO hq with⟨rfl,rfl⟩|⟨eq,hq⟩
  ·by_cases ej:j'=j
   ·subst ej;have:x'=x:=by have FV:r.keys[j']?=some x':=hx';rw[hx]at FV;cases FV;rfl
    subst this;simpa[put,jT]using hq
   ·have hb:=h.reads.q i r j' x' hr jh hx';have hj8:=aM hx';have:=hb.of_eq (hne' hb.lt (by rw[h.reads.lu i r j' x' hr jh hx'];simp;omega));simpa[put,ej,jT]using this
  ·have hb:=h.reads.q q rq j' x' hq hf hx';have hj8:j'<8:=by have:=(h.ok.keys q rq hq).2.1;have:=aM hx';omega
   have amc:j<8:=by have:=(h.ok.keys i r hr).2.1;omega
   have e2:¬(q=i/\j'=j):=fun e'=>eq e'.1.symm;simp only[jT,if_neg e2];exact hb.of_eq (hne' hb.lt (by rw[h.reads.lu q rq j' x' hq hf hx'];simp;omega))
 ·obtain⟨ro,ho,ek,e⟩:=dL hq;rw[e]at hf;rw[ek]at hx';exact h.reads.lu q ro j' x' ho hf hx'
 ·obtain⟨ro,ho,ek,e⟩:=dL hq;rw[e]at hf;rw[ek];exact aH (h.reads.ky q ro ho hf) (fun k hk=>hne' (aQ (h.reads.ky q ro ho hf) k hk).2 (by rw[h.reads.dJ q ro k ho hf hk];simp))
 ·obtain⟨ro,ho,ek,e⟩:=dL hq;rw[e]at hf;exact h.reads.dJ q ro k ho hf
def uG(keys:List ah)(key:ah):Hp keys key.data.toList=bH keys key:=by
 unfold Hp bH;congr 1;funext x;by_cases e:x=key
 ·simp[e]
 ·have:x.data.toList≠key.data.toList:=fun e'=>e (WideShapes.bytes_inj e');rw[decide_eq_false e,decide_eq_false this]
def Ba{keys:List ah}(h:bH keys key<keys.length):keys[bH keys key]?=some key:=by unfold bH at h⊢;have:=List.findIdx_getElem (w:=h);rw[za5 h];simpa using this
def EK{q:Int}(hq:partOf n key=q):l.find? (fun x=>decide (x.1=key))=(bl n l q).find? (fun x=>decide (x.1=key)):=by
 unfold bl;rw[List.find?_filter];congr 1;funext x;by_cases e:x.1=key
 ·simp[e,hq]
 ·simp[e]
def gG:aP l key=(l.find? (fun x=>decide (x.1=key))).isSome:=by unfold aP;rw[Bool.eq_iff_iff,List.any_eq_true];exact List.find?_isSome.symm
def a9.tells(h:a9 w τ aO b s A)(key:ah){q:Nat}(hq:partOf s.parts key=q)(PV:q<s.parts):∃(a:Option aA) (L:List KV) (cap:Nat) (sv:aj),
 (bM s A q (.int .i64 (aY s key))).getD (.agg #[.slice none 0 0,.nilIface])=.agg #[.slice a L.length cap,sv]/\zO sv/\L.length<=8/\
 (∀(k:Nat) (x:KV),L[k]?=some x->∃g,a=some ⟨g,0,none⟩/\w.cell? ⟨g,k*2,none⟩=some (.string x.1)/\w.cell? ⟨g,k*2+1,none⟩=some (.string x.2))/\(∀g,a=some ⟨g,0,none⟩->(∃c d,τ g=(aO,9,c)/\d=c))/\
 aP L key=decide (aY s key≠0)/\(aY s key≠0->∃m,s.ws[aY s key-1]?=some m/\fO m.items key=some (valueOf L key)/\sv=A.sv (aY s key-1)/\aP m.items key=true/\m.comm q=true)/\(aY s key=0->valueOf L key=⟨#[]⟩/\sv=.nilIface):=by
 have hv:=h.PR key;rw[hq,Int.toNat_natCast]at hv;by_cases h0:aY s key=0
 ·refine⟨none, [],0,.nilIface,?_,Or.inl rfl,by simp,fun k x hx=>by simp at hx,fun g e=>(by cases e),by simp[h0,aP],fun e=>absurd h0 e,fun _=>⟨rfl,rfl⟩⟩;rw[h0];simp[bM,bI]
 ·obtain⟨m,hm,hc,x,hx,hxl,hxp⟩:=(h.lB q PV).seen key.data.toList (by rw[hv];exact h0);rw[hv]at hm;have MV:x.1=key:=WideShapes.bytes_inj hxl;have hcn:m.dP=false:=by
   cases hcc:m.dP
   ·rfl
   ·rw[h.inv.cc _ m q hm hcc]at hc;cases hc
  have Rt:=h.inv.cp _ m q hm hc;have D6:=h.inv.po _ m q hm Rt;have hrow:=h.it _ m q hm hcn D6;obtain⟨g,cap,hiv,_,_,hcell,_⟩:=cJ hrow (oZ D6);obtain⟨hil,_⟩:=h.ok.items _ m hm;have hfind:bI s ((aY s key:Nat):Int)=some m:=by have:=jJ hm hcn;rw[show (((aY s key-1:Nat):Int)+1)=((aY s key:Nat):Int)from by omega]at this;exact this
  have hkm:aP m.items key=true:=by simp only[aP,List.any_eq_true,decide_eq_true_eq];exact⟨x,hx,MV⟩
  have MZ:aP (bl s.parts m.items q) key=true:=by rw[gG,<-EK hq,<-gG];exact hkm
  refine⟨some ⟨g,0,none⟩,bl s.parts m.items q,cap,A.sv (aY s key-1),?_,h.told.sv _ m hm,Nat.le_trans (nE _ _ _) hil,fun k y hy=>?_,fun g' e=>?_,by rw[MZ];simp[h0],fun _=>⟨m,hm,?_,rfl,hkm,hc⟩,fun e=>absurd e h0⟩
  ·simp only[bM,hfind,Rt,if_true];rw[show ((((aY s key:Nat):Int)-1).toNat)=aY s key-1 from by omega,hiv];rfl
  ·obtain⟨e1,e2⟩:=nB _ k y hy;have hk:=aM hy;exact⟨g,rfl,by rw[hcell (k*2) (by omega),e1],by rw[hcell (k*2+1) (by omega),e2]⟩
  ·cases e;exact⟨_,_,h.eZ _ m q g hm hcn D6 (by rw[hiv];rfl),rfl⟩
  ·rw[Hq hkm];unfold valueOf;rw[EK hq]
def size_set(w:af)(a:aA)(v:aj):(w.setCell a v).heap.size=w.heap.size:=by simp[World.setCell]
def PW(h:a9 w τ aO b s A)(hr:s.rs[i]?=some r)(hc:r.fin=false)(hx:r.keys[j]?=some key)
 (Hr:kE s n key=(0,{s with rs:=s.rs.set i {r with asked:=put r.asked j,found:=fun q=>if q=j then aY s key else r.found q}}))
 (Rz:aY s key≠0->∃m,s.ws[aY s key-1]?=some m/\aP m.items key=true/\m.comm (partOf s.parts key).toNat=true)
 {w2:af} {hv:Bool} {tv:ah} {ts:aj} (hB:Below w.heap.size (w.setCell ⟨A.R.pr i,0,none⟩ (.int .i32 1)) w2) (a1:hv=(!A.R.no i && decide (aY s key≠0))) (a2:hv=true->∃m,s.ws[aY s key-1]?=some m/\fO m.items key=some tv/\ts=A.sv (aY s key-1)) (a3:hv=false->tv=⟨#[]⟩/\ts=.nilIface):
 oa w τ aO b (kE s n key) (.returned (.int .i64 0)) ((((((w2.setCell ⟨A.R.qb i j,2,none⟩ (.int .i64 (aY s key))).setCell ⟨A.R.qb i j,3,none⟩ (.bool hv)).setCell ⟨A.R.qb i j,4,none⟩ (.string tv)).setCell ⟨A.R.qb i j,5,none⟩ ts).setCell ⟨A.R.qb i j,1,none⟩ (.bool true)).setCell ⟨A.R.pr i,0,none⟩ (.int .i32 0)):=by
 have hW:=h.reads.rd i r hr hc;have hQ:=h.reads.q i r j key hr hc hx;have Y6:=h.reads.lu i r j key hr hc hx;have Hs:A.R.qb i j≠A.R.pr i:=fun e=>by rw[e,h.reads.iI i r hr hc]at Y6;simp at Y6
 have rY:bg w2 (A.R.qb i j) _ _:=hQ.of_eq ((hB.block _ hQ.lt).trans (za4 _ _ _ _ Hs));generalize aY s key=v at *;have hQ3:bg (((((w2.setCell ⟨A.R.qb i j,2,none⟩ (.int .i64 v)).setCell ⟨A.R.qb i j,3,none⟩ (.bool hv)).setCell ⟨A.R.qb i j,4,none⟩ (.string tv)).setCell ⟨A.R.qb i j,5,none⟩ ts).setCell ⟨A.R.qb i j,1,none⟩ (.bool true)) (A.R.qb i j) #[ptr (A.pb (partOf s.parts key).toNat),.bool true,.int .i64 v,.bool hv,.string tv,ts] 146:=by have:=((((rY.set 2 (.int .i64 v)).set 3 (.bool hv)).set 4 (.string tv)).set 5 ts).set 1 (.bool true);simpa using this
 have hall:∀k,(k<w.heap.size/\k≠A.R.qb i j)->((((((w2.setCell ⟨A.R.qb i j,2,none⟩ (.int .i64 v)).setCell ⟨A.R.qb i j,3,none⟩ (.bool hv)).setCell ⟨A.R.qb i j,4,none⟩ (.string tv)).setCell ⟨A.R.qb i j,5,none⟩ ts).setCell ⟨A.R.qb i j,1,none⟩ (.bool true)).setCell ⟨A.R.pr i,0,none⟩ eN).heap[k]?=w.heap[k]? :=
  eM hW rfl (v:=.int .i32 1) (fun k hk=>by rw[za4 _ _ _ _ hk.2,za4 _ _ _ _ hk.2,za4 _ _ _ _ hk.2,za4 _ _ _ _ hk.2,za4 _ _ _ _ hk.2];exact hB.block k hk.1)
 have hQ4:=hQ3.of_eq (w':=(((((w2.setCell ⟨A.R.qb i j,2,none⟩ (.int .i64 v)).setCell ⟨A.R.qb i j,3,none⟩ (.bool hv)).setCell ⟨A.R.qb i j,4,none⟩ (.string tv)).setCell ⟨A.R.qb i j,5,none⟩ ts).setCell ⟨A.R.qb i j,1,none⟩ (.bool true)).setCell ⟨A.R.pr i,0,none⟩ eN) (za4 _ _ _ _ Hs);have hsz:=hB.size;have hF:Fr (fun k=>k=A.R.qb i j\/k=A.R.pr i) (w.setCell ⟨A.R.pr i,0,none⟩ (.int .i32 1)) ((((((w2.setCell ⟨A.R.qb i j,2,none⟩ (.int .i64 v)).setCell ⟨A.R.qb i j,3,none⟩ (.bool hv)).setCell ⟨A.R.qb i j,4,none⟩ (.string tv)).setCell ⟨A.R.qb i j,5,none⟩ ts).setCell ⟨A.R.qb i j,1,none⟩ (.bool true)).setCell ⟨A.R.pr i,0,none⟩ eN):=
  ((((((Fr.EL (by rw[size_set];exact hB)).setCell (p:=⟨A.R.qb i j,2,none⟩) (Or.inl rfl) _).setCell (p:=⟨A.R.qb i j,3,none⟩) (Or.inl rfl) _).setCell (p:=⟨A.R.qb i j,4,none⟩) (Or.inl rfl) _).setCell (p:=⟨A.R.qb i j,5,none⟩) (Or.inl rfl) _).setCell (p:=⟨A.R.qb i j,1,none⟩) (Or.inl rfl) _).setCell (p:=⟨A.R.pr i,0,none⟩) (Or.inr rfl) _
 have Cp:=hF.size;rw[size_set]at Cp;have hst:Stp aO τ w τ ((((((w2.setCell ⟨A.R.qb i j,2,none⟩ (.int .i64 v)).setCell ⟨A.R.qb i j,3,none⟩ (.bool hv)).setCell ⟨A.R.qb i j,4,none⟩ (.string tv)).setCell ⟨A.R.qb i j,5,none⟩ ts).setCell ⟨A.R.qb i j,1,none⟩ (.bool true)).setCell ⟨A.R.pr i,0,none⟩ eN):=
  ⟨hF.os,hF.tape,hF.output,Cp,fun _ _=>rfl,fun k hk hs=>hall k ⟨hk,fun e=>hs (by rw[e,Y6])⟩⟩
 clear hF;have agT:=h.ask a1 a2 a3 Rz hr hc hx (fun k h1 h2=>hall k ⟨h1,h2⟩) hQ4;clear hQ4 hQ3 hall rY;rw[Hr];exact⟨_,rfl,agT,hst⟩
def TB(h:a9 w τ aO b s A)(n:Int)(r:MR)(hf:fP s n=some r)(key:ah)(hks:key.size<=maxLen):
 Calls prog 41 #[ptr (A.R.pr (n-1).toNat),.string key] w (oa w τ aO b (kE s n key)):=by
 obtain⟨h1,h2,hr,hc⟩:=vw hf;have hp1:=h.ok.p1;obtain⟨i,hi⟩:∃i:Nat,(n-1).toNat=i:=⟨_,rfl⟩
 rw[hi]at hr⊢;have hW:=h.reads.rd i r hr hc;have c0:w.cell? ⟨A.R.pr i,0,none⟩=some (.int .i32 0):=hW.cell (o:=0) rfl;have f0:=hW.frozen 0;have eD:=fX hW (o:=0) rfl (.int .i32 1);have lC:=hW.set 0 (.int .i32 1);have XU:A.R.qm i≠A.R.pr i:=fun e=>by have h1:=h.reads.mI i r hr hc;rw[e,h.reads.iI i r hr hc]at h1;simp at h1
 have d2:(w.setCell ⟨A.R.pr i,0,none⟩ (.int .i32 1)).cell? ⟨A.R.pr i,4,none⟩=some (.map (some (A.R.qm i))):=lC.cell (o:=4) rfl;have d9:(w.setCell ⟨A.R.pr i,0,none⟩ (.int .i32 1)).cell? ⟨A.R.pr i,2,none⟩=some (.bool (A.R.no i)):=lC.cell (o:=2) rfl;have nZ:aS (w.setCell ⟨A.R.pr i,0,none⟩ (.int .i32 1)) prog 9 (A.R.qm i) (cW A.R i r):=(h.reads.vV i r hr hc).of_eq (za4 _ _ _ _ XU);by_cases UI:bH r.keys key<r.keys.length
 ·have hx:=Ba UI;obtain⟨j,hj⟩:∃j,bH r.keys key=j:=⟨_,rfl⟩
  rw[hj]at hx;have aL:cW A.R i r (.string key.data.toList)=some (.pointer (some ⟨A.R.qb i j,0,none⟩)):=by simp only[cW,uG,if_pos UI];rw[hj];rfl
  have hQ:=h.reads.q i r j key hr hc hx;have Hs:A.R.qb i j≠A.R.pr i:=fun e=>by have h1:=h.reads.lu i r j key hr hc hx;rw[e,h.reads.iI i r hr hc]at h1;simp at h1
  have Dq:bg (w.setCell ⟨A.R.pr i,0,none⟩ (.int .i32 1)) (A.R.qb i j) _ _:=hQ.of_eq (za4 _ _ _ _ Hs);cases ha:r.asked j with
  |true=>
   have Hr:Hid (kE s n key=(10,s)):=Ly hf hj (by omega) ha;rw[ha]at Dq;have e1:(w.setCell ⟨A.R.pr i,0,none⟩ (.int .i32 1)).cell? ⟨A.R.qb i j,1,none⟩=some (.bool true):=Dq.cell (o:=1) rfl;unfold ptr;unfold eN at eD;clear hf ha;go_enter_defers func41,ntmps41;go_wp2_with (first|(go_at_call 37;refine(lock_free Tryz.bA ⟨A.R.pr i,0,none⟩ _ c0 f0).mono ?_;rintro e w' ⟨rfl,rfl⟩)|(at_lookup;refine bZ _ rfl _ _ 135 rfl 9 139 fT underlying135 (mE _) (A.R.qm i) (cW A.R i r) rfl nZ _ (.string key.data.toList) rfl (fG hks) _ aL ?_))
   refine leaves_cons (f:=38) (args:=#[.pointer (some ⟨A.R.pr i,0,none⟩)]) (by simp) (by simp[go_sem]) ?_;refine(unlock_deferred Tryz.bA ⟨A.R.pr i,0,none⟩ .returning _ (lC.cell (o:=0) rfl) (lC.frozen 0)).mono ?_;rintro e u' w'' ⟨rfl,rfl,rfl⟩;rw[Hr.out];exact⟨_,results_tmp rfl _ _ _,A,rfl,h.same eD,eD.ou _ _⟩
  |false=>
   have Hr:=TC hf hi hj (by omega) ha;have Hr':Hid (kE s n key=_):=Hr;rw[ha]at hQ Dq;obtain⟨g0,g1⟩:=dW s.parts key (by omega);obtain⟨q,hq⟩:∃q:Nat,(partOf s.parts key).toNat=q:=⟨_,rfl⟩
   have hqz:partOf s.parts key=q:=by omega
   have PV:q<s.parts:=by omega
   have hVE:=h.PR key;rw[hq]at hVE;rw[hq]at hQ Dq;have agU:A.pb q≠A.R.pr i:=fun e=>by have h1:=h.dh q PV;rw[e,h.reads.iI i r hr hc]at h1;simp at h1
   have agV:A.vb q≠A.R.pr i:=fun e=>by have h1:=h.eV q PV;rw[e,h.reads.iI i r hr hc]at h1;simp at h1
   have agW:A.kb q≠A.R.pr i:=fun e=>by have h1:=h.cF q PV;rw[e,h.reads.iI i r hr hc]at h1;simp at h1
   obtain⟨ta,tL,agX,tsv,hg,hIf,MU,hcell,Vj,hhas,JG,PX⟩:=h.tells key hqz PV;have Rz:aY s key≠0->∃m,s.ws[aY s key-1]?=some m/\aP m.items key=true/\m.comm q=true:=fun e=>by obtain⟨m,r1,_,_,r4,r5⟩:=JG e;exact⟨m,r1,r4,r5⟩
   have PY:aY s key<=200:=by rw[<-hVE];exact h.PZ PV _
   have Y6:=h.reads.lu i r j key hr hc hx;have hval:(Cy A q (.string key.data.toList)).getD (.int .i64 0)=.int .i64 (aY s key):=by
    simp only[Cy,hVE];by_cases e:aY s key=0
    ·rw[if_pos e,e];rfl
    ·rw[if_neg e];rfl
   have eH:∀k,k≠A.R.pr i->(w.setCell ⟨A.R.pr i,0,none⟩ (.int .i32 1)).heap[k]?=w.heap[k]? :=fun k hk=>za4 _ _ _ _ hk;have Lz:(w.setCell ⟨A.R.pr i,0,none⟩ (.int .i32 1)).heap.size=w.heap.size:=by simp[World.setCell]
   have Ru:bg (w.setCell ⟨A.R.pr i,0,none⟩ (.int .i32 1)) (A.pb q) _ _:=(h.part q PV).of_eq (eH _ agU);have hVM:aS (w.setCell ⟨A.R.pr i,0,none⟩ (.int .i32 1)) prog 9 (A.vb q) (Cy A q):=(h.tB q PV).of_eq (eH _ agV);have hKM:aS (w.setCell ⟨A.R.pr i,0,none⟩ (.int .i32 1)) prog 3 (A.kb q) (bM s A q):=(h.kept q PV).of_eq (eH _ agW);have pE:∀(k:Nat) (x:KV),tL[k]?=some x->∃g,ta=some ⟨g,0,none⟩/\(w.setCell ⟨A.R.pr i,0,none⟩ (.int .i32 1)).cell? ⟨g,k*2,none⟩=some (.string x.1)/\(w.setCell ⟨A.R.pr i,0,none⟩ (.int .i32 1)).cell? ⟨g,k*2+1,none⟩=some (.string x.2):=fun k x hx=>by
    obtain⟨g,e,r1,r2⟩:=hcell k x hx;obtain⟨c,_,e9,_⟩:=Vj g e;have hgn:g≠A.R.pr i:=fun e'=>by rw[e',h.reads.iI i r hr hc]at e9;simp at e9
    exact⟨g,e,(ij (w:=w) hgn).trans r1,(ij (w:=w) hgn).trans r2⟩
   have hgb:∀g,ta=some ⟨g,0,none⟩->g≠A.pb q:=fun g e e'=>by obtain⟨c,_,e9,_⟩:=Vj g e;rw[e',h.dh q PV]at e9;simp at e9
   have cv:=PS (A.pb q) (A.kb q) (A.vb q) (Cy A q) Ru hVM key hks _ hval;have ct:=ab5 (A.pb q) (A.kb q) (A.vb q) (Cy A q) (bM s A q) Ru hKM hVM key hks _ PY hval ta tL agX tsv hIf hg MU pE hgb;have HW:Hid (bg (w.setCell ⟨A.R.pr i,0,none⟩ (.int .i32 1)) (A.R.pr i) _ _):=lC;have HF:Hid (∀(w2:af) (hv:Bool) (tv:ah) (ts:aj),Below w.heap.size (w.setCell ⟨A.R.pr i,0,none⟩ (.int .i32 1)) w2->hv=(!A.R.no i && decide (aY s key≠0))->(hv=true->∃m,s.ws[aY s key-1]?=some m/\fO m.items key=some tv/\ts=A.sv (aY s key-1))->(hv=false->tv=⟨#[]⟩/\ts=.nilIface)->
    oa w τ aO b (kE s n key) (.returned (.int .i64 0)) ((((((w2.setCell ⟨A.R.qb i j,2,none⟩ (.int .i64 (aY s key))).setCell ⟨A.R.qb i j,3,none⟩ (.bool hv)).setCell ⟨A.R.qb i j,4,none⟩ (.string tv)).setCell ⟨A.R.qb i j,5,none⟩ ts).setCell ⟨A.R.qb i j,1,none⟩ (.bool true)).setCell ⟨A.R.pr i,0,none⟩ (.int .i32 0))):=fun w2 hv tv ts hB a1 a2 a3=>PW h hr hc hx Hr (by rw[hq];exact Rz) hB a1 a2 a3
   have e0:(w.setCell ⟨A.R.pr i,0,none⟩ (.int .i32 1)).cell? ⟨A.R.qb i j,0,none⟩=some (.pointer (some ⟨A.pb q,0,none⟩)):=Dq.cell (o:=0) rfl;have e1:(w.setCell ⟨A.R.pr i,0,none⟩ (.int .i32 1)).cell? ⟨A.R.qb i j,1,none⟩=some (.bool false):=Dq.cell (o:=1) rfl;have HQ:Hid (∀w2:af,Below w.heap.size (w.setCell ⟨A.R.pr i,0,none⟩ (.int .i32 1)) w2->bg w2 (A.R.qb i j) _ _/\bg w2 (A.R.pr i) _ _):=fun w2 hB=>⟨Dq.of_eq (hB.block _ (by rw[<-Lz];exact Dq.lt)),lC.of_eq (hB.block _ (by rw[<-Lz];exact lC.lt))⟩
   unfold ptr at cv ct⊢;have HV1:Hid _:=JG;have HV0:Hid _:=PX;have HH:Hid _:=hhas;have HIf:Hid _:=hIf;rw[Lz]at cv ct;cases hno:A.R.no i with
   |true=>
    rw[hno]at d9;have HN:Hid (A.R.no i=true):=hno;clear hf ha Hr hval hVE hg hIf MU hcell Vj hhas JG PX Rz pE hgb ct eH Ru hVM hKM hQ Dq hno;go_enter_defers func41,ntmps41;go_wp2_with (first|(go_at_call 37;refine(lock_free Tryz.bA ⟨A.R.pr i,0,none⟩ _ c0 f0).mono ?_;rintro e w' ⟨rfl,rfl⟩)|(at_lookup;refine bZ _ rfl _ _ 135 rfl 9 139 fT underlying135 (mE _) (A.R.qm i) (cW A.R i r) rfl nZ _ (.string key.data.toList) rfl (fG hks) _ aL ?_))
    refine cv.mono ?_;rintro e w2 ⟨rfl,gI⟩;clear cv;obtain⟨rY,rF⟩:=HQ.out w2 gI;have k1:=rY.cell (o:=1) (v:=.bool false) rfl;have k2:w2.cell? ⟨A.R.qb i j,2,none⟩=some _:=rY.cell (o:=2) rfl;have k3:w2.cell? ⟨A.R.qb i j,3,none⟩=some _:=rY.cell (o:=3) rfl;have k4:w2.cell? ⟨A.R.qb i j,4,none⟩=some _:=rY.cell (o:=4) rfl;have k5:w2.cell? ⟨A.R.qb i j,5,none⟩=some _:=rY.cell (o:=5) rfl;have f1:=rY.frozen 1;have f2:=rY.frozen 2;have f3:=rY.frozen 3;have f4:=rY.frozen 4;have f5:=rY.frozen 5;have HR:=HF.out w2 false ⟨#[]⟩ .nilIface gI (by rw[HN.out];rfl) (fun e=>by cases e) (fun _=>⟨rfl,rfl⟩);have HR':Hid _:=HR;clear HR nZ;go_wp2_with fail
    have pF:A.R.pr i≠A.R.qb i j:=fun e=>Hs e.symm;have vC:bg (((((w2.setCell ⟨A.R.qb i j,2,none⟩ (.int .i64 (aY s key))).setCell ⟨A.R.qb i j,3,none⟩ (.bool false)).setCell ⟨A.R.qb i j,4,none⟩ (.string ⟨#[]⟩)).setCell ⟨A.R.qb i j,5,none⟩ .nilIface).setCell ⟨A.R.qb i j,1,none⟩ (.bool true)) (A.R.pr i) _ _:=rF.of_eq (by rw[za4 _ _ _ _ pF,za4 _ _ _ _ pF,za4 _ _ _ _ pF,za4 _ _ _ _ pF,za4 _ _ _ _ pF]);refine leaves_cons (f:=38) (args:=#[.pointer (some ⟨A.R.pr i,0,none⟩)]) (by simp) (by simp[go_sem]) ?_;refine(unlock_deferred Tryz.bA ⟨A.R.pr i,0,none⟩ .returning _ (vC.cell (o:=0) rfl) (vC.frozen 0)).mono ?_;rintro e u' w'' ⟨rfl,rfl,rfl⟩;obtain⟨A',r1,r2,r3⟩:=HR'.out;exact⟨_,results_tmp rfl _ _ _,A',by exact r1,r2,r3⟩
   |false=>
    rw[hno]at d9;have HN:Hid (A.R.no i=false):=hno;clear hf ha Hr hval hVE hg hIf MU hcell Vj hhas JG PX Rz pE hgb cv eH Ru hVM hKM hQ Dq hno;go_enter_defers func41,ntmps41;go_wp2_with (first|(go_at_call 37;refine(lock_free Tryz.bA ⟨A.R.pr i,0,none⟩ _ c0 f0).mono ?_;rintro e w' ⟨rfl,rfl⟩)|(at_lookup;refine bZ _ rfl _ _ 135 rfl 9 139 fT underlying135 (mE _) (A.R.qm i) (cW A.R i r) rfl nZ _ (.string key.data.toList) rfl (fG hks) _ aL ?_))
    refine ct.mono ?_;rintro e w2 ⟨rfl,gI⟩;clear ct;obtain⟨rY,rF⟩:=HQ.out w2 gI;have k1:=rY.cell (o:=1) (v:=.bool false) rfl;have k2:w2.cell? ⟨A.R.qb i j,2,none⟩=some _:=rY.cell (o:=2) rfl;have k3:w2.cell? ⟨A.R.qb i j,3,none⟩=some _:=rY.cell (o:=3) rfl;have k4:w2.cell? ⟨A.R.qb i j,4,none⟩=some _:=rY.cell (o:=4) rfl;have k5:w2.cell? ⟨A.R.qb i j,5,none⟩=some _:=rY.cell (o:=5) rfl;have f1:=rY.frozen 1;have f2:=rY.frozen 2;have f3:=rY.frozen 3;have f4:=rY.frozen 4;have f5:=rY.frozen 5;have HR:=HF.out w2 (aP tL key) (valueOf tL key) tsv gI (by rw[HN.out,HH.out];simp) (fun e=>by
     rw[HH.out]at e;obtain⟨m,r1,r2,r3,_⟩:=HV1.out (of_decide_eq_true e);exact⟨m,r1,r2,r3⟩) (fun e=>by rw[HH.out]at e;exact HV0.out (by simpa using e))
    have HR':Hid _:=HR;clear HR nZ;generalize aP tL key=XV at *;generalize valueOf tL key=XW at *;rcases HIf.out with rfl|⟨st,sx,rfl⟩
    ·go_wp2_with fail
     have pF:A.R.pr i≠A.R.qb i j:=fun e=>Hs e.symm;have vC:bg (((((w2.setCell ⟨A.R.qb i j,2,none⟩ (.int .i64 (aY s key))).setCell ⟨A.R.qb i j,3,none⟩ (.bool XV)).setCell ⟨A.R.qb i j,4,none⟩ (.string XW)).setCell ⟨A.R.qb i j,5,none⟩ .nilIface).setCell ⟨A.R.qb i j,1,none⟩ (.bool true)) (A.R.pr i) _ _:=rF.of_eq (by rw[za4 _ _ _ _ pF,za4 _ _ _ _ pF,za4 _ _ _ _ pF,za4 _ _ _ _ pF,za4 _ _ _ _ pF]);refine leaves_cons (f:=38) (args:=#[.pointer (some ⟨A.R.pr i,0,none⟩)]) (by simp) (by simp[go_sem]) ?_;refine(unlock_deferred Tryz.bA ⟨A.R.pr i,0,none⟩ .returning _ (vC.cell (o:=0) rfl) (vC.frozen 0)).mono ?_;rintro e u' w'' ⟨rfl,rfl,rfl⟩;obtain⟨A',r1,r2,r3⟩:=HR'.out;exact⟨_,results_tmp rfl _ _ _,A',by exact r1,r2,r3⟩
    ·go_wp2_with fail
     have pF:A.R.pr i≠A.R.qb i j:=fun e=>Hs e.symm;have vC:bg (((((w2.setCell ⟨A.R.qb i j,2,none⟩ (.int .i64 (aY s key))).setCell ⟨A.R.qb i j,3,none⟩ (.bool XV)).setCell ⟨A.R.qb i j,4,none⟩ (.string XW)).setCell ⟨A.R.qb i j,5,none⟩ (.iface st sx)).setCell ⟨A.R.qb i j,1,none⟩ (.bool true)) (A.R.pr i) _ _:=rF.of_eq (by rw[za4 _ _ _ _ pF,za4 _ _ _ _ pF,za4 _ _ _ _ pF,za4 _ _ _ _ pF,za4 _ _ _ _ pF]);refine leaves_cons (f:=38) (args:=#[.pointer (some ⟨A.R.pr i,0,none⟩)]) (by simp) (by simp[go_sem]) ?_;refine(unlock_deferred Tryz.bA ⟨A.R.pr i,0,none⟩ .returning _ (vC.cell (o:=0) rfl) (vC.frozen 0)).mono ?_;rintro e u' w'' ⟨rfl,rfl,rfl⟩;obtain⟨A',r1,r2,r3⟩:=HR'.out;exact⟨_,results_tmp rfl _ _ _,A',by exact r1,r2,r3⟩
 ·have Hr:Hid (kE s n key=(4,s)):=P2 hf UI;have aL:cW A.R i r (.string key.data.toList)=none:=by simp only[cW,uG,if_neg UI]
  unfold ptr;unfold eN at eD;clear hf;go_enter_defers func41,ntmps41;go_wp2_with (first|(go_at_call 37;refine(lock_free Tryz.bA ⟨A.R.pr i,0,none⟩ _ c0 f0).mono ?_;rintro e w' ⟨rfl,rfl⟩)|(at_lookup;refine bZ _ rfl _ _ 135 rfl 9 139 fT underlying135 (mE _) (A.R.qm i) (cW A.R i r) rfl nZ _ (.string key.data.toList) rfl (fG hks) _ aL ?_))
  refine leaves_cons (f:=38) (args:=#[.pointer (some ⟨A.R.pr i,0,none⟩)]) (by simp) (by simp[go_sem]) ?_;refine(unlock_deferred Tryz.bA ⟨A.R.pr i,0,none⟩ .returning _ (lC.cell (o:=0) rfl) (lC.frozen 0)).mono ?_;rintro e u' w'' ⟨rfl,rfl,rfl⟩;rw[Hr.out];exact⟨_,results_tmp rfl _ _ _,A,rfl,h.same eD,eD.ou _ _⟩
def ZJ(h:a9 w τ aO b s A)(n:Int)(key:ah)(hks:key.size<=maxLen)(hn: -9223372036854775808<=n)(hn':n<=9223372036854775807):
 Calls prog 22 #[ptr b,.int .i64 n,.string key] w (oa w τ aO b (kE s n key)):=by
 have c:=tu h n hn hn';cases hf:fP s n with
 |none=>
  have Hr:Hid (kE s n key=(7,s)):=LA hf;have hv:gP s A n=(.pointer none,false):=by unfold gP;rw[hf]
  rw[hv]at c;unfold ptr at c⊢;clear hf hv;go_enter func22,ntmps22;go_wp2_with fail
  refine c.mono ?_;rintro e w1 ⟨rfl,hS⟩;go_wp2_with fail
  go_ret;rw[Hr.out];exact⟨A,rfl,h.same hS,hS.ou _ _⟩
 |some r=>
  have hv:gP s A n=(ptr (A.R.pr (n-1).toNat),true):=by unfold gP;rw[hf]
  rw[hv]at c;have c2:∀w1,vX w w1->Calls prog 41 #[ptr (A.R.pr (n-1).toNat),.string key] w1 (oa w1 τ aO b (kE s n key)):=fun w1 hS=>TB (h.same hS) n r hf key hks;generalize (n-1).toNat=j at c c2;unfold ptr at c c2⊢;clear hf hv;go_enter func22,ntmps22;go_wp2_with fail
  refine c.mono ?_;rintro e w1 ⟨rfl,hS⟩;have c3:=c2 w1 hS;clear c c2;go_wp2_with fail
  refine c3.mono ?_;rintro e w2 ⟨A',rfl,hR,hT⟩;go_wp2_with fail
  go_ret;exact⟨A',rfl,hR,(hS.ou _ _).trans hT⟩
end
end
section
def tc(w:af){ops:Array Oper}{rest:List Oper}{o:Oper}{a:Act}{Q:Exit->Act->af->Prop}(hg:o.guard=none)(it:aD)(hop:o.op=Op.next it false)(k:az)(K:Keyed P k)(hk:P.underlying k=some .string)
 (b r n:Nat) (D:DataW aj) (f:Lit->Option aj) (hs:Says D f) (g:ah->Nat) (p:ah->Prop) (hf:∀x u,f (.string x.data.toList)=some u->u=.pointer (some ⟨g x,0,none⟩)/\p x) (left:Lit->Bool) (cnt:Nat)
 (hit:a.eval it=.pointer (some ⟨r,0,none⟩)) (h:w.ranges P k aV b r n D left cnt)
 (hDone:(∀kl,left kl=false)->wpList P ops Q rest (a.put o.dst (.tuple #[.bool false])) w)
 (hMore:∀(x:ah) (w':af) (cnt':Nat),p x->left (.string x.data.toList)=true->w'.ranges P k aV b r n D (fun z=>left z && !z.sameKey (.string x.data.toList)) cnt'->cnt'<cnt->w.grownBy w' (some r)->w'.heap.size=w.heap.size->
   (Instr.entry (.pointer (some ⟨r,0,none⟩))).run P w'=.ok (.tuple #[.string x,.pointer (some ⟨g x,0,none⟩)]) w'->wpList P ops Q rest (a.put o.dst (.tuple #[.bool true,.string x,.pointer (some ⟨g x,0,none⟩)])) w'):
 wpList P ops Q (o :: rest) a w:=by
 refine wpList_plain hg fun K' hK'=>?_;unfold Oper.wp;rcases h.next K o.type with⟨h0,hl,hrun⟩|⟨key,v,kl,y,w',cnt',hkey,hlk,hv,hat,hrun,mC,hlt,U1,hsz,sj⟩
 ·simp[execOp,hop,hit,hrun,Result.andThen];exact hK' _ _ (hDone hl)
 ·obtain⟨x,rfl,rfl,_⟩:=WideMaps.string_of_keyOf hk hkey;simp only[aV,Option.some.injEq]at hv;subst hv;have hh:=Maps.has_true_of_atKey hat;rw[hs.2]at hh;obtain⟨u,hu⟩:=Option.isSome_iff_exists.1 hh;have e1:=(hs.1 _ u hu .nil).symm.trans (hat .nil);injection e1 with e1;subst e1;obtain⟨rfl,hp⟩:=hf x _ hu;simp[execOp,hop,hit,hrun,Result.andThen];exact hK' _ _ (hMore x w' cnt' hp hlk mC hlt U1 hsz sj)
def hU(r:MR):Bool:=(List.range r.keys.length).all r.asked
def me{keys:List ah}(hn:keys.Nodup)(hx:keys[j]?=some x):bH keys x=j:=by obtain⟨hj,rfl⟩:=List.getElem?_eq_some_iff.1 hx;unfold bH;rw[List.findIdx_eq hj];refine⟨by simp,fun k hk=>?_⟩;simp only[decide_eq_false_iff_not];intro e;exact(List.pairwise_iff_getElem.1 hn) k j (by omega) hj hk e
section
variable {w:af}{τ:Nat->Tag}{aO b:Nat}{s:MS}{A:SA}
def oY(B:SB)(i:Nat)(r:MR):∀x u,cW B i r (.string x.data.toList)=some u->u=.pointer (some ⟨B.qb i (bH r.keys x),0,none⟩)/\(bH r.keys x<r.keys.length/\r.keys[bH r.keys x]?=some x):=by
 intro x u hu;simp only[cW,uG]at hu;split at hu
 ·rename_i h;cases hu;exact⟨rfl,h,Ba h⟩
 ·cases hu
def A0(hs:Says D (cW B i r))(hn:r.keys.Nodup)(hx:r.keys[j]?=some x):Maps.has D (.string x.data.toList)=true:=by rw[hs.2];have:=me hn hx;have hj:=aM hx;simp[cW,uG,this,hj]
def x9(h:a9 w τ aO b s A)(hr:s.rs[i]?=some r)(jh:r.fin=false):
 Calls prog 42 #[ptr (A.R.pr i)] w fun e w'=>e=.returned (.bool (hU r))/\Below w.heap.size w w':=by
 have hW:=h.reads.rd i r hr jh;have hnd:=(h.ok.keys i r hr).2.2.2;have c0:w.cell? ⟨A.R.pr i,0,none⟩=some (.int .i32 0):=hW.cell (o:=0) rfl;have f0:=hW.frozen 0;have lC:=hW.set 0 (.int .i32 1);have XU:A.R.qm i≠A.R.pr i:=fun e=>by have h1:=h.reads.mI i r hr jh;rw[e,h.reads.iI i r hr jh]at h1;simp at h1
 have eH:∀k,k≠A.R.pr i->(w.setCell ⟨A.R.pr i,0,none⟩ (.int .i32 1)).heap[k]?=w.heap[k]? :=fun k hk=>za4 _ _ _ _ hk;have nZ:aS (w.setCell ⟨A.R.pr i,0,none⟩ (.int .i32 1)) prog 9 (A.R.qm i) (cW A.R i r):=(h.reads.vV i r hr jh).of_eq (eH _ XU);have Dq:∀(j:Nat) (x:ah),r.keys[j]?=some x->(w.setCell ⟨A.R.pr i,0,none⟩ (.int .i32 1)).cell? ⟨A.R.qb i j,1,none⟩=some (.bool (r.asked j)):=fun j x hx=>by
  have hq:=h.reads.q i r j x hr jh hx;have hne:A.R.qb i j≠A.R.pr i:=fun e=>by have h1:=h.reads.lu i r j x hr jh hx;rw[e,h.reads.iI i r hr jh]at h1;simp at h1
  exact(hq.of_eq (eH _ hne)).cell (o:=1) rfl
 have Lz:(w.setCell ⟨A.R.pr i,0,none⟩ (.int .i32 1)).heap.size=w.heap.size:=by simp[World.setCell]
 have HU:Hid (∀w3:af,Below w.heap.size (w.setCell ⟨A.R.pr i,0,none⟩ (.int .i32 1)) w3->bg w3 (A.R.pr i) (#[eN,fV,.bool (A.R.no i),A.R.ks i,.map (some (A.R.qm i))].setIfInBounds 0 (.int .i32 1)) 137/\Below w.heap.size w (w3.setCell ⟨A.R.pr i,0,none⟩ (.int .i32 0))):=fun w3 hB=>by
  refine⟨lC.of_eq (hB.block _ (by rw[<-Lz];exact lC.lt)),hB.os,hB.tape,hB.output,?_,fun k hk=>?_⟩
  ·have:=hB.size;simp[World.setCell];omega
  ·exact eM hW rfl (v:=.int .i32 1) (p:=fun k=>k<w.heap.size) (fun k hk=>hB.block k hk) k hk
 generalize hw1:w.setCell ⟨A.R.pr i,0,none⟩ (.int .i32 1)=w1 at *;have d4:w1.cell? ⟨A.R.pr i,4,none⟩=some (.map (some (A.R.qm i))):=lC.cell (o:=4) rfl;obtain⟨n,D,hown,hs⟩:=nZ;have h0:∀(j:Nat) (x:ah),r.keys[j]?=some x->Maps.has D (.string x.data.toList)=true:=fun j x hx=>A0 hs hnd hx;have hf:=oY A.R i r;clear lC eH;unfold ptr;go_enter_defers func42,ntmps42;go_wp2_with fail
 refine(lock_free Tryz.bA ⟨A.R.pr i,0,none⟩ _ c0 f0).mono ?_;rintro e w' ⟨rfl,rfl⟩;rw[hw1];go_wp2_with (at_range;refine wpList_range_own _ rfl _ 135 rfl 9 139 fT underlying135 aV (A.R.qm i) n D rfl hown ?_;intro w0 Ck DF hs0)
 go_frame
 rw[Lz]at Ck hs0⊢;go_loopw [17] (fun _ wr=>∃left cnt,wr.ranges prog 9 aV (A.R.qm i) w.heap.size n D left cnt/\Below w.heap.size w1 wr/\w.heap.size<wr.heap.size/\Hid (∀(j:Nat) (x:ah),r.keys[j]?=some x->left (.string x.data.toList)=true\/r.asked j=true)) (fun _ wr=>wr.rangeLeft (A.R.qm i) w.heap.size)
 case atStart=>
  exact⟨_,_,Ck,(Below.refl _ _).grown DF (by omega) (fun k e=>by cases e),by omega,fun j x hx=>Or.inl (h0 j x hx)⟩
 case round=>
  obtain⟨left,cnt,mC,hB,hsz,HL⟩:=hrel;go_wp2_with (at_next;refine tc _ rfl _ rfl 9 fT underlying9 (A.R.qm i) w.heap.size n D (cW A.R i r) hs (fun x=>A.R.qb i (bH r.keys x)) _ hf left cnt rfl mC ?_ ?_)
  ·intro hl0;have Hr:Hid (hU r=true):=by
    unfold Hid hU;simp only[List.all_eq_true,List.mem_range];intro j hj;rcases HL.out j _ (za5 hj)with e|e
    ·rw[hl0]at e;cases e
    ·exact e
   clear hl0;obtain⟨DG,uK⟩:=HU.out wr hB;have HBl:Hid _:=uK;clear uK;go_wp2_with fail
   refine leaves_cons (f:=38) (args:=#[.pointer (some ⟨A.R.pr i,0,none⟩)]) (by simp) (by simp[go_sem]) ?_;refine(unlock_deferred Tryz.bA ⟨A.R.pr i,0,none⟩ .returning _ (DG.cell (o:=0) rfl) (DG.frozen 0)).mono ?_;rintro e u' w'' ⟨rfl,rfl,rfl⟩;rw[Hr.out];exact⟨_,results_tmp rfl _ _ _,rfl,HBl.out⟩
  ·intro x w1' Pm hxj MV K1 Cl hlt lq hs1 sj;generalize hjx:bH r.keys x=j at *;have je:Below w.heap.size w1 w1':=hB.grown lq (by omega) (fun k e=>by cases e;exact Nat.le_refl _);have cq:=Dq j x MV;have cq1:w1'.cell? ⟨A.R.qb i j,1,none⟩=some (.bool (r.asked j)):=(je.cell (p:=⟨A.R.qb i j,1,none⟩) (by have:=za7 w1 _ cq;simp only at this⊢;omega)).trans cq;have vU:w.heap.size<w1'.heap.size:=by omega
   clear cq K1;obtain⟨ba,ha⟩:∃ba,r.asked j=ba:=⟨_,rfl⟩
   rw[ha]at cq1;cases ba with
   |false=>
    have Hr:Hid (hU r=false):=by unfold Hid hU;rw[List.all_eq_false];exact⟨j,List.mem_range.2 hxj,by simp[ha]⟩
    obtain⟨DG,uK⟩:=HU.out w1' je;have HBl:Hid _:=uK;clear uK ha;go_wp2_with fail
    refine leaves_cons (f:=38) (args:=#[.pointer (some ⟨A.R.pr i,0,none⟩)]) (by simp) (by simp[go_sem]) ?_;refine(unlock_deferred Tryz.bA ⟨A.R.pr i,0,none⟩ .returning _ (DG.cell (o:=0) rfl) (DG.frozen 0)).mono ?_;rintro e u' w'' ⟨rfl,rfl,rfl⟩;rw[Hr.out];exact⟨_,results_tmp rfl _ _ _,rfl,HBl.out⟩
   |true=>
    have HL':Hid (∀(j':Nat) (x':ah),r.keys[j']?=some x'->(left (.string x'.data.toList)&& !(Lit.string x'.data.toList).sameKey (.string x.data.toList))=true\/r.asked j'=true):=by
     intro j' x' hx';by_cases e:j'=j
     ·subst e;exact Or.inr ha
     ·rcases HL.out j' x' hx' with e1|e1
      ·refine Or.inl ?_;rw[e1,Maps.sameKey_ne (by intro e2;injection e2 with e2;have e3:x'=x:=WideShapes.bytes_inj e2;subst e3;exact e ((me hnd hx').symm.trans hjx))]
       rfl
      ·exact Or.inr e1
    clear ha;go_wp2_with fail
    go_roundw
    case rel=>exact⟨_,_,Cl,je,vU,HL'⟩
    case measure=>rw[Cl.left_eq,mC.left_eq];omega
end
end
section
def aS.abB{k:az}{f:Lit->Option aj}(h:aS w P k b f)(K:Keyed P k){L:List Lit}(hnd:L.Pairwise (fun a b=>a≠b))(hL:∀kl,f kl≠none↔kl∈L):
 ∃n D,w.ownsMap P k aV b n D/\Says D f/\Maps.size D=L.length:=by
 obtain⟨n2,D2,⟨wV,GZ,j9,_,_,hD2⟩,hsz⟩:=h.size K hnd hL;obtain⟨n,D,⟨es,clock,hb,F,hn,hD⟩,hs⟩:=h;obtain⟨rfl,rfl⟩:wV=es/\GZ=clock:=by rw[hb]at j9;injection j9 with e;injection e with e1 e2;exact⟨e1.symm,e2.symm⟩
 refine⟨n,D,⟨_,_,hb,F,hn,hD⟩,hs,?_⟩;rw[hD,<-hD2];exact hsz
def Cm{k:az}{r n:Nat}{left:Lit->Bool}(h:w.ranges P k aV b r n D left cnt)(hb:w'.heap[b]?=w.heap[b]?)(hr:w'.heap[r]?=w.heap[r]?):w'.ranges P k aV b r n D left cnt:=by obtain⟨es,clock,since,seen,c0,h1,h2,h3,h4,h5,rest⟩:=h;exact⟨es,clock,since,seen,c0,hb.trans h1,h2,h3,h4,hr.trans h5,rest⟩
def jC(r:MR):List Lit:=r.keys.map (fun x=>Lit.string x.data.toList)
def s7(hn:r.keys.Nodup):(jC r).Pairwise (fun a b=>a≠b):=by unfold jC;rw[List.pairwise_map];refine hn.imp (fun{a b} hab e=>hab ?_);injection e with e;exact WideShapes.bytes_inj e
def AZ(kl:Lit):cW B i r kl≠none↔kl∈jC r:=by
 unfold jC;constructor
 ·intro h;cases kl with
  |string l=>
   simp only[cW]at h;split at h
   ·rename_i e;obtain⟨y,hy,he⟩:=CB.1 e;exact List.mem_map.2 ⟨y,hy,by rw[he]⟩
   ·exact absurd rfl h
  |_=>exact absurd rfl h
 ·intro h;obtain⟨y,hy,rfl⟩:=List.mem_map.1 h;simp only[cW];rw[if_pos (CB.2 ⟨y,hy,rfl⟩)];simp
section
variable {w:af}{τ:Nat->Tag}{aO b:Nat}{s:MS}{A:SA}
structure Seen(w:af)(A:SA)(i:Nat)(r:MR):Prop where
 nd:r.keys.Nodup
 l1:1<=r.keys.length
 l8:r.keys.length<=8
 kz:∀x∈r.keys,x.size<=8
 rd:bg w (A.R.pr i) #[eN,fV,.bool (A.R.no i),A.R.ks i,.map (some (A.R.qm i))] 137
 qm:aS w prog 9 (A.R.qm i) (cW A.R i r)
 q:∀(j:Nat) (x:ah),r.keys[j]?=some x->∃p,bg w (A.R.qb i j) #[p,.bool (r.asked j),.int .i64 (r.found j),.bool (A.R.hv i j),.string (A.R.tv i j),A.R.ts i j] 146
 ky:w.ownsRow 0 9 1 (A.R.ks i) r.keys.length (r.keys.map Value.string)
 tsf:∀(j:Nat) (x:ah),r.keys[j]?=some x->zO (A.R.ts i j)
def Seen.below(h:Seen w A i r)(hB:Below w.heap.size w w'):Seen w' A i r:=
 ⟨h.nd,h.l1,h.l8,h.kz,h.rd.of_eq (hB.block _ h.rd.lt),h.qm.of_eq (hB.block _ h.qm.lt),fun j x hx=>by obtain⟨p,hp⟩:=h.q j x hx;exact⟨p,hp.of_eq (hB.block _ hp.lt)⟩,aH h.ky (fun k hk=>hB.block k (aQ h.ky k hk).2),h.tsf⟩
end
end
section
section
variable {w:af}{τ:Nat->Tag}{aO b:Nat}{s:MS}{A:SA}{L:List ah}
def cN(B:SB)(n pr qm:Nat)(qb:Nat->Nat)(no:Bool)(ks:aj):SB:={rm:=B.rm,pr:=fun j=>if j=n then pr else B.pr j,qm:=fun j=>if j=n then qm else B.qm j,qb:=fun j=>if j=n then qb else B.qb j,no:=fun j=>if j=n then no else B.no j,ks:=fun j=>if j=n then ks else B.ks j,hv:=fun j q=>if j=n then false else B.hv j q,tv:=fun j q=>if j=n then⟨#[]⟩else B.tv j q,ts:=fun j q=>if j=n then .nilIface else B.ts j q}
def dG(hm:(rs++ [eY L])[i]?=some r):(i<rs.length/\rs[i]?=some r)\/(i=rs.length/\r=eY L):=by
 by_cases e:i<rs.length
 ·rw[List.getElem?_append_left e]at hm;exact Or.inl ⟨e,hm⟩
 ·rw[List.getElem?_append_right (by omega)]at hm;have hi':=aM hm;simp at hi';have:i=rs.length:=by omega
  subst this;simp at hm;exact Or.inr ⟨rfl,hm.symm⟩
def EO{qm:Nat}:dK (rs++ [eY L]) (cN B rs.length pr qm qb no ks)=upd (dK rs B) (.int .i64 ((rs.length:Int)+1)) (ptr pr):=by
 funext kl;by_cases e:kl=.int .i64 ((rs.length:Int)+1)
 ·subst e;rw[upd_same (by simp[WideAt.IsKeyLit])];have:ed (rs++ [eY L]) ((rs.length:Int)+1)=some (eY L):=by unfold ed;rw[if_neg (by simp;omega),show ((rs.length:Int)+1-1).toNat=rs.length from by omega];simp[eY]
  simp[dK,this,cN]
 ·rw[fI e];cases kl with
  |int k n=>
   cases k<;>try rfl
   have hn:n≠(rs.length:Int)+1:=fun e'=>e (by rw[e']);have hf:ed (rs++ [eY L]) n=ed rs n:=by
    unfold ed;by_cases h1:n<1\/(rs.length:Int)<n
    ·rw[if_pos h1,if_pos (by simp;omega)]
    ·rw[if_neg h1,if_neg (by simp;omega),List.getElem?_append_left (by omega)]
   simp only[dK,hf];cases hf2:ed rs n with
   |none=>rfl
   |some r=>
    have:(n-1).toNat≠rs.length:=by
     unfold ed at hf2;split at hf2
     ·cases hf2
     ·omega
    simp only[cN,if_neg this]
  |_=>rfl
def a9.NN(h:a9 w τ aO b s A)(UE:1<=L.length)(MU:L.length<=8)(hlg:∀x∈L,bK x=true)(hnd:L.Nodup)(hop:bq s.rs<50){qm:Nat}(hno:no=(decide (s.mode=2)&& decide (1<L.length)))
 (hp:iu w' τ' aO s.rs.length s.parts A.pb pr qm qb no ks L w.heap.size) (ht:∀k,k<w.heap.size->τ' k=τ k)
 (hold:∀k,k<w.heap.size->k≠b->k≠A.R.rm->w'.heap[k]?=w.heap[k]?)
 (hb:bg w' b #[.int .i64 s.mode,A.cG,eN,fV,.int .i64 s.ws.length,.int .i64 ((s.rs.length:Int)+1),.map (some A.wm),.map (some A.R.rm)] 105)
 (hw:aS w' prog 3 A.R.rm (upd (dK s.rs A.R) (.int .i64 ((s.rs.length:Int)+1)) (ptr pr))):
 a9 w' τ' aO b {s with rs:=s.rs++ [eY L]} {A with R:=cN A.R s.rs.length pr qm qb no ks}:=by
 have hne:∀{k a c:Nat},τ k=(aO,a,c)->a≠0->a≠10->k<w.heap.size->w'.heap[k]?=w.heap[k]? :=by
  intro k a c htk h0 h5 hk;refine hold k hk (fun e=>?_) (fun e=>?_)
  ·rw[e,h.tag]at htk;simp at htk;omega
  ·rw[e,h.reads.iq]at htk;simp at htk;omega
 refine h.Hl (fun k hk h1 h0 Jr=>⟨hne (a:=(τ k).2.1) (c:=(τ k).2.2) (by rw[<-h1]) (by omega) (by omega) hk,ht k hk⟩) (by rw[ht b h.blk.lt,h.tag]) ⟨h.ok.p1,h.ok.p4,h.ok.len,h.ok.items,fun j r hj=>?_,?_⟩ ?_ ?_ ⟨?_,?_,fun j r hj hf=>?_,fun j r hj hf=>?_,fun j r hj hf=>?_,fun j r hj hf=>?_,fun j r q x hj hf hx=>?_,fun j r q x hj hf hx=>?_,fun j r hj hf=>?_,fun j r k hj hf hk=>?_⟩
 ·rcases dG hj with⟨_,e⟩|⟨_,rfl⟩
  ·exact h.ok.keys j r e
  ·exact⟨UE,MU,hlg,hnd⟩
 ·have:bq (s.rs++ [eY L])=bq s.rs+1:=by simp[bq,eY]
  show bq (s.rs++ [eY L])<=50;omega
 ·refine⟨h.told.sv,fun j r hj hf=>?_,fun j r q hj ha=>?_,fun j r q x hj hf hx=>?_,fun j r q x hj hf hx hv=>?_,fun j r q x hj hf hx hv=>?_,fun j r q x hj hf hx hv=>?_⟩
  ·rcases dG hj with⟨hjl,e⟩|⟨rfl,rfl⟩
   ·have:j≠s.rs.length:=by omega
    simp only[cN,this,if_false];exact h.told.no j r e hf
   ·simp only[cN,if_true];exact hno
  ·rcases dG hj with⟨hjl,e⟩|⟨rfl,rfl⟩
   ·exact h.told.un j r q e ha
   ·rfl
  ·rcases dG hj with⟨hjl,e⟩|⟨rfl,rfl⟩
   ·have:j≠s.rs.length:=by omega
    simp only[cN,this,if_false];exact h.told.hv j r q x e hf hx
   ·simp[cN,eY]
  ·rcases dG hj with⟨hjl,e⟩|⟨rfl,rfl⟩
   ·have:j≠s.rs.length:=by omega
    simp only[cN,this,if_false]at hv⊢;exact h.told.tv j r q x e hf hx hv
   ·simp[cN]at hv
  ·rcases dG hj with⟨hjl,e⟩|⟨rfl,rfl⟩
   ·have:j≠s.rs.length:=by omega
    simp only[cN,this,if_false]at hv⊢;exact h.told.t0 j r q x e hf hx hv
   ·simp[cN]
  ·rcases dG hj with⟨hjl,e⟩|⟨rfl,rfl⟩
   ·exact h.told.fm j r q x e hf hx hv
   ·simp[eY]at hv
 ·have e:((s.rs++ [eY L]).length:Int)=(s.rs.length:Int)+1:=by simp
  rw[e];exact hb
 ·rw[EO];exact hw
 ·show τ' A.R.rm=_;rw[ht _ h.reads.rC.lt,h.reads.iq]
 ·rcases dG hj with⟨hjl,e⟩|⟨rfl,rfl⟩
  ·have hb':=h.reads.rd j r e hf;have:j≠s.rs.length:=by omega
   simp only[cN,this,if_false];exact hb'.of_eq (hne (h.reads.iI j r e hf) (by omega) (by omega) hb'.lt)
  ·simpa[cN]using hp.blk
 ·rcases dG hj with⟨hjl,e⟩|⟨rfl,rfl⟩
  ·have hb':=h.reads.rd j r e hf;have:j≠s.rs.length:=by omega
   simp only[cN,this,if_false];rw[ht _ hb'.lt,h.reads.iI j r e hf]
  ·simpa[cN]using hp.tag
 ·rcases dG hj with⟨hjl,e⟩|⟨rfl,rfl⟩
  ·have hb':=h.reads.vV j r e hf;have hjn:j≠s.rs.length:=by omega
   have e1:cW (cN A.R s.rs.length pr qm qb no ks) j r=cW A.R j r:=by funext kl;cases kl<;>simp[cW,cN,hjn]
   rw[e1];simp only[cN,hjn,if_false];exact hb'.of_eq (hne (h.reads.mI j r e hf) (by omega) (by omega) hb'.lt)
  ·have e1:cW (cN A.R s.rs.length pr qm qb no ks) s.rs.length (eY L)=qF qb L:=by funext kl;cases kl<;>simp[cW,cN,qF,eY]
   rw[e1];simpa[cN]using hp.map
 ·rcases dG hj with⟨hjl,e⟩|⟨rfl,rfl⟩
  ·have hb':=h.reads.vV j r e hf;have:j≠s.rs.length:=by omega
   simp only[cN,this,if_false];rw[ht _ hb'.lt,h.reads.mI j r e hf]
  ·simpa[cN]using hp.gQ
 ·rcases dG hj with⟨hjl,e⟩|⟨rfl,rfl⟩
  ·have hb':=h.reads.q j r q x e hf hx;have:j≠s.rs.length:=by omega
   simp only[cN,this,if_false];exact hb'.of_eq (hne (h.reads.lu j r q x e hf hx) (by omega) (by omega) hb'.lt)
  ·have:=hp.q q x hx;simpa[cN,eY]using this
 ·rcases dG hj with⟨hjl,e⟩|⟨rfl,rfl⟩
  ·have hb':=h.reads.q j r q x e hf hx;have:j≠s.rs.length:=by omega
   simp only[cN,this,if_false];rw[ht _ hb'.lt,h.reads.lu j r q x e hf hx]
  ·have:=hp.lu q x hx;simpa[cN]using this
 ·rcases dG hj with⟨hjl,e⟩|⟨rfl,rfl⟩
  ·have hr':=h.reads.ky j r e hf;have:j≠s.rs.length:=by omega
   simp only[cN,this,if_false];exact aH hr' (fun k hk=>hne (h.reads.dJ j r k e hf hk) (by omega) (by omega) (aQ hr' k hk).2)
  ·have:=hp.ky;simpa[cN,eY]using this
 ·rcases dG hj with⟨hjl,e⟩|⟨rfl,rfl⟩
  ·have hr':=h.reads.ky j r e hf;have hjn:j≠s.rs.length:=by omega
   simp only[cN,hjn,if_false]at hk;rw[ht _ (aQ hr' k hk).2,h.reads.dJ j r k e hf hk]
  ·simp only[cN,if_true]at hk;exact hp.dJ k hk
def TF{L:List ah}(h:gY L=0):1<=L.length/\L.length<=8/\(∀x∈L,bK x=true)/\L.Nodup:=by
 unfold gY at h;split at h
 ·cases h
 ·obtain⟨h1,h2⟩:=P8 h;exact⟨by omega,by omega,fun x hx=>(h1 x hx).1,h2⟩
def z5(a:Option aA)(L:List ah)(cap:Nat)(hL:L.length<=maxLen)(Tq:L.length<=cap)(hcm:cap<=maxLen)(hz:P9 L)(hI:Cd w a L):
 Calls prog 36 #[.slice a L.length cap] w fun e w'=>e=.returned (.int .i64 (gY L))/\w'=w:=by
 by_cases hs:L.length<1\/8<L.length
 ·exact yt a L cap hL hs
 ·obtain⟨ib,io,rfl,c0⟩:=hI 0 L[0] (za5 (by omega));refine yu ib io L cap (by omega) (by omega) Tq hcm hz (fun k x hx=>?_);obtain⟨ib',io',e,r⟩:=hI k x hx;cases e;exact r
def UN(h:a9 w τ aO b s A)(a:Option aA)(cap:Nat)(hL:L.length<=maxLen)(Tq:L.length<=cap)(hcm:cap<=maxLen)(hz:P9 L)(hI:Cd w a L)(hf:∀ib io,a=some ⟨ib,io,none⟩->(τ ib).1≠aO)(hrl:s.rs.length<8796093022208):
 Calls prog 21 #[ptr b,.slice a L.length cap] w (PI w τ aO b (oH s L)):=by
 have cc:=z5 a L cap hL Tq hcm hz hI;by_cases hc:gY L=0
 ·obtain⟨h1,h8,hg,hnd⟩:=TF hc;rw[hc]at cc;obtain⟨gb,go,rfl,hc0⟩:=hI 0 L[0] (za5 (by omega));have hgb:gb<w.heap.size:=za7 w _ hc0;have zX:=hf gb go rfl;have hcell:∀(k:Nat) (x:ah),L[k]?=some x->w.cell? ⟨gb,go+k,none⟩=some (.string x):=fun k x hx=>by obtain⟨ib',io',e,r⟩:=hI k x hx;cases e;exact r
  have hp1:=h.ok.p1;have FX:=h.ok.p4;have hop:=h.ok.opn;have c2:w.cell? ⟨b,2,none⟩=some (.int .i32 0):=h.blk.cell (o:=2) rfl;have f2:=h.blk.frozen 2;have iz:=h.blk.set 2 (.int .i32 1);have LC:A.R.rm≠b:=fun e=>by have h1:=h.reads.iq;rw[e,h.tag]at h1;simp at h1
  have nZ:aS (w.setCell ⟨b,2,none⟩ (.int .i32 1)) prog 3 A.R.rm (dK s.rs A.R):=h.reads.rC.of_eq (za4 _ _ _ _ LC);obtain⟨mn,mD,hown,hsize⟩:=nZ.size eB (tC s.rs) yz;rw[oc]at hsize;have c7:(w.setCell ⟨b,2,none⟩ (.int .i32 1)).cell? ⟨b,7,none⟩=some (.map (some A.R.rm)):=iz.cell (o:=7) rfl;by_cases hfull:50<=bq s.rs
  ·have Hr:Hid (oH s L=(0,6,s)):=by unfold Hid oH;rw[hc];simp[hfull]
   have eD:=fX h.blk (o:=2) rfl (.int .i32 1);unfold eN at eD;unfold ptr;clear hcell hI hf;go_enter_defers func21,ntmps21;go_wp2_with fail
   refine cc.mono ?_;rintro e w1 ⟨rfl,rfl⟩;clear cc;go_wp2_with fail
   refine(lock_free Tryz.bA ⟨b,2,none⟩ _ c2 f2).mono ?_;rintro e w' ⟨rfl,rfl⟩;go_wp2_with (at_len;refine wpList_len_own _ rfl _ 103 rfl 3 106 underlying103 aV A.R.rm mn mD rfl hown ?_;rw[hsize])
   refine leaves_cons (f:=38) (args:=#[.pointer (some ⟨b,2,none⟩)]) (by simp) (by simp[go_sem]) ?_;refine(unlock_deferred Tryz.bA ⟨b,2,none⟩ .returning _ (iz.cell (o:=2) rfl) (iz.frozen 2)).mono ?_;rintro e u' w'' ⟨rfl,rfl,rfl⟩;rw[Hr.out];exact⟨_,results_tmp2 rfl _ _ _,τ,A,rfl,h.same eD,eD.ou _ _⟩
  ·have Hr:Hid (oH s L=((s.rs.length:Int)+1,0,{s with rs:=s.rs++ [eY L]})):=by unfold Hid oH;rw[hc];simp only[ne_eq,not_true,if_false,if_neg hfull]
   have c5:(w.setCell ⟨b,2,none⟩ (.int .i32 1)).cell? ⟨b,5,none⟩=some (.int .i64 s.rs.length):=iz.cell (o:=5) rfl;have f5:(w.setCell ⟨b,2,none⟩ (.int .i32 1)).frozen? ⟨b,5,none⟩=false:=iz.frozen 5;have j9:=iz.set 5 (.int .i64 ((s.rs.length:Int)+1));unfold ptr;clear hI hf;go_enter_defers func21,ntmps21;go_wp2_with fail
   refine cc.mono ?_;rintro e w1 ⟨rfl,rfl⟩;clear cc;go_wp2_with fail
   refine(lock_free Tryz.bA ⟨b,2,none⟩ _ c2 f2).mono ?_;rintro e w' ⟨rfl,rfl⟩;have Ln:gb≠b:=fun e=>zX (by rw[e,h.tag]);have eH:∀k,k≠b->((w1.setCell ⟨b,2,none⟩ (.int .i32 1)).setCell ⟨b,5,none⟩ (.int .i64 ((s.rs.length:Int)+1))).heap[k]?=w1.heap[k]? :=fun k hk=>(za4 _ _ _ _ hk).trans (za4 _ _ _ _ hk);have XO:((w1.setCell ⟨b,2,none⟩ (.int .i32 1)).setCell ⟨b,5,none⟩ (.int .i64 ((s.rs.length:Int)+1))).heap.size=w1.heap.size:=by simp[World.setCell]
   have Hh:((w1.setCell ⟨b,2,none⟩ (.int .i32 1)).setCell ⟨b,5,none⟩ (.int .i64 ((s.rs.length:Int)+1))).os=w1.os/\((w1.setCell ⟨b,2,none⟩ (.int .i32 1)).setCell ⟨b,5,none⟩ (.int .i64 ((s.rs.length:Int)+1))).tape=w1.tape/\((w1.setCell ⟨b,2,none⟩ (.int .i32 1)).setCell ⟨b,5,none⟩ (.int .i64 ((s.rs.length:Int)+1))).output=w1.output:=⟨rfl,rfl,rfl⟩
   go_wp2_with (at_len;refine wpList_len_own _ rfl _ 103 rfl 3 106 underlying103 aV A.R.rm mn mD rfl hown ?_;rw[hsize])
   generalize (w1.setCell ⟨b,2,none⟩ (.int .i32 1)).setCell ⟨b,5,none⟩ (.int .i64 ((s.rs.length:Int)+1))=wC at *;have s0:wC.cell? ⟨b,0,none⟩=some (.int .i64 s.mode):=j9.cell (o:=0) rfl;have s1:wC.cell? ⟨b,1,none⟩=some A.cG:=j9.cell (o:=1) rfl;have s4:wC.cell? ⟨b,5,none⟩=some (.int .i64 ((s.rs.length:Int)+1)):=j9.cell (o:=5) rfl;have s5:wC.cell? ⟨b,7,none⟩=some (.map (some A.R.rm)):=j9.cell (o:=7) rfl;have EG:wC.ownsRow 0 130 1 A.cG s.parts ((List.range s.parts).map (fun q=>ptr (A.pb q))):=aH h.cG (fun k hk=>eH k (fun e=>by have h1:=h.eF k hk;rw[e,h.tag]at h1;simp at h1));have yp:∀(k:Nat) (x:ah),L[k]?=some x->wC.cell? ⟨gb,go+k,none⟩=some (.string x):=fun k x hx=>(za6 (w:=w1) (eH gb Ln)).trans (hcell k x hx);have cn:=EN (w:=wC.drew) (τ:=τ) (aO:=aO) (i:=s.rs.length) (P:=s.parts) (pb:=A.pb) (L:=L) b s.mode s0 A.cG s1 EG hp1 FX gb go cap h1 h8 hg hnd yp;unfold ptr at cn;have hMC:aS wC prog 3 A.R.rm (dK s.rs A.R):=h.reads.rC.of_eq (eH _ LC);have XP:=j9.lt;have hn1: -9223372036854775808<=(s.rs.length:Int)+1:=by omega
   have hn2:(s.rs.length:Int)+1<=9223372036854775807:=by omega
   have ot:(kO s.rs).length<maxLen:=by rw[oc];unfold maxLen;omega
   clear hcell yp EG c5 f5 hown nZ c7 hsize s0;go_region_held3 (fun W=>W.cell? ⟨b,5,none⟩=some (.int .i64 ((s.rs.length:Int)+1))/\W.cell? ⟨b,7,none⟩=some (.map (some A.R.rm))) (simp[*]) ((go_at_call 39;refine cn.mono ?_;rintro e w2 ⟨τ',pr,qm,qb,ks,rfl,hPW,dQ,sn⟩;have k4:=(dQ.cell (p:=⟨b,5,none⟩) XP).trans s4;have k5:=(dQ.cell (p:=⟨b,7,none⟩) XP).trans s5;obtain⟨w3,hup,JC,hTu⟩:=(hMC.of_eq (w':=w2) (dQ.block _ hMC.lt)).store (t:=103) (e:=106) eB underlying103 (kO s.rs) (fun kl hh=>(yz kl).1 hh) ot (keyOf_int hn1 hn2) (.pointer (some ⟨pr,0,none⟩));have xA:=qC.fK hTu;have m4:=(za6 (w:=w2) (a:=⟨b,5,none⟩) (xA.block b (fun e=>LC e.symm))).trans k4;have m5:=(za6 (w:=w2) (a:=⟨b,7,none⟩) (xA.block b (fun e=>LC e.symm))).trans k5))
   clear cn;go_wp2_with fail
   have DG:bg w3 b _ _:=(j9.of_eq (dQ.block b XP)).of_eq (xA.block b (fun e=>LC e.symm));refine leaves_cons (f:=38) (args:=#[.pointer (some ⟨b,2,none⟩)]) (by simp) (by simp[go_sem]) ?_;refine(unlock_deferred Tryz.bA ⟨b,2,none⟩ .returning _ (DG.cell (o:=2) rfl) (DG.frozen 2)).mono ?_;rintro e u' w'' ⟨rfl,rfl,rfl⟩;rw[Hr.out];have Hj:wC.drew.heap.size=w1.heap.size:=XO;rw[Hj]at hPW sn;have Ro:w1.heap.size<=w2.heap.size:=by have:=dQ.size;rw[Hj]at this;exact this
   have hold:∀k,k<w1.heap.size->k≠b->k≠A.R.rm->(w3.setCell ⟨b,2,none⟩ (.int .i32 0)).heap[k]?=w1.heap[k]? :=fun k hk hkb hkm=>
    (za4 _ _ _ _ hkb).trans ((xA.block k hkm).trans ((dQ.block k (by rw[Hj];exact hk)).trans (eH k hkb)))
   have agL:=h.reads.rC.lt;have wJ:=h.blk.lt;refine⟨_,results_tmp2 rfl _ _ _,τ',_,rfl,h.NN h1 h8 hg hnd (by omega) (w':=w3.setCell ⟨b,2,none⟩ (.int .i32 0)) rfl (hPW.frame (fun k hk ot=>(za4 _ _ _ _ (by simp only;omega)).trans (xA.block k (by omega)))) sn hold ?_ (JC.of_eq (za4 _ _ _ _ LC)),?_⟩
   ·have:=DG.set 2 (.int .i32 0);simpa[eN,fV]using this
   ·refine⟨xA.os.trans (dQ.os.trans Hh.1),xA.tape.trans (dQ.tape.trans Hh.2.1),xA.output.trans (dQ.output.trans Hh.2.2),?_,fun k hk=>sn k (by omega),fun k hk hs=>?_⟩
    ·have:=xA.size;simp[World.setCell];omega
    ·exact hold k (by omega) (fun e=>hs (by rw[e,h.tag])) (fun e=>hs (by rw[e,h.reads.iq]))
 ·have Hr:Hid (oH s L=(0,gY L,s)):=by unfold Hid oH;simp[hc]
  have hne:(gY L != 0)=true:=by rw[bne_iff_ne];exact hc
  generalize gY L=c at *;unfold ptr;clear hI hf;go_enter_defers func21,ntmps21;go_wp2_with fail
  refine cc.mono ?_;rintro e w1 ⟨rfl,rfl⟩;clear cc;go_wp2_with fail
  rw[Hr.out];exact⟨_,results_tmp2 rfl _ _ _,τ,A,rfl,h,Stp.refl _ _ _⟩
end
end
section
structure Cj(r:MR)(ms:List Int):Prop where
 le:ms.length<=8
 of:∀m∈ms,∃j x,r.keys[j]?=some x/\m=r.found j
 all:∀(j:Nat) (x:ah),r.keys[j]?=some x->(r.found j:Int)∈ms
def sI{base base':Nat}{e:az}{size:Nat}{n:Nat}{xs:List aj}(h:w.ownsRow base e size v n xs)(hb:base'<=base):w.ownsRow base' e size v n xs:=by refine⟨h.1,h.2.imp id ?_⟩;rintro⟨g,cap,cur,h1,h2,h3⟩;exact⟨g,cap,cur,h1,by omega,h3⟩
section
variable {w:af}{A:SA}
def x8(h:Seen w A i r):
 Calls prog 76 #[ptr (A.R.pr i)] w fun e w'=>∃(ms:List Int) (v:aj),e=.returned v/\w'.ownsRow w.heap.size 3 1 v ms.length (ms.map (Value.int .i64))/\Cj r ms/\Below w.heap.size w w':=by
 have c4:w.cell? ⟨A.R.pr i,4,none⟩=some (.map (some (A.R.qm i))):=h.rd.cell (o:=4) rfl;obtain⟨n,D,hown,hs,hsize⟩:=h.qm.abB fT (s7 h.nd) AZ;have MU:(jC r).length<=8:=by unfold jC;simpa using h.l8
 have hf:=oY A.R i r;have hQ:∀(j:Nat) (x:ah),r.keys[j]?=some x->w.cell? ⟨A.R.qb i j,2,none⟩=some (.int .i64 (r.found j)):=fun j x hx=>by obtain⟨p,hp⟩:=h.q j x hx;exact hp.cell (o:=2) rfl
 have XE:=h.qm.lt;obtain⟨ii,oB,iz0,iz1,iz2⟩:=info_parts Tb;unfold ptr;go_enter func76,ntmps76;go_wp2_with (at_range;refine wpList_range_own _ rfl _ 135 rfl 9 139 fT underlying135 aV (A.R.qm i) n D rfl hown ?_;intro w0 Ck DF hs0)
 go_frame
 go_loopw [3,11] (fun s3 _ wr=>∃(left:Lit->Bool) (cnt k:Nat) (xs:List aj) (ms:List Int),wr.ranges prog 9 aV (A.R.qm i) w.heap.size n D left cnt/\wr.ownsRow (w.heap.size+1) 3 1 s3 k xs/\k+cnt<=8/\Below w.heap.size w wr/\w.heap.size<wr.heap.size/\Hid (xs=ms.map (Value.int .i64)/\ms.length=k/\(∀m∈ms,∃j x,r.keys[j]?=some x/\m=r.found j)/\∀(j:Nat) (x:ah),r.keys[j]?=some x->left (.string x.data.toList)=true\/(r.found j:Int)∈ms)) (fun _ _ wr=>wr.rangeLeft (A.R.qm i) w.heap.size)
 case atStart=>
  exact⟨_,_,0, [], [],Ck,World.ownsRow_nil _ _ _ _,by omega,(Below.refl _ _).grown DF (Nat.le_refl _) (fun k e=>by cases e),by omega,rfl,rfl,(fun m hm=>by cases hm),fun j x hx=>Or.inl (A0 hs h.nd hx)⟩
 case round=>
  obtain⟨left,cnt,k,xs,ms,mC,hrow,hkc,hB,hsz,HM⟩:=hrel;obtain⟨av,gZ,hv3⟩:=cy hrow;subst hv3;go_wp2_with (at_next;refine tc _ rfl _ rfl 9 fT underlying9 (A.R.qm i) w.heap.size n D (cW A.R i r) hs (fun x=>A.R.qb i (bH r.keys x)) _ hf left cnt rfl mC ?_ ?_)
  ·intro hl0;have HL:Hid (Cj r ms):=by
    obtain⟨_,q2,q3,q4⟩:=HM.out;refine⟨by omega,q3,fun j x hx=>?_⟩;rcases q4 j x hx with e|e
    ·rw[hl0]at e;cases e
    ·exact e
   clear hl0;have HR:Hid (wr.ownsRow w.heap.size 3 1 (.slice av k gZ) ms.length (ms.map (Value.int .i64))):=by obtain⟨q1,q2,_⟩:=HM.out;rw[<-q1,q2];exact sI hrow (by omega)
   go_wp2_with fail
   go_ret;exact⟨ms,_,rfl,HR.out,HL.out,hB⟩
  ·intro x w1 Pm hxj MV K1 Cl hlt lq hs1 sj;generalize hjx:bH r.keys x=j at *;have je:Below w.heap.size w w1:=hB.grown lq (by omega) (fun k e=>by cases e;exact Nat.le_refl _);have cq:=hQ j x MV;have cq1:w1.cell? ⟨A.R.qb i j,2,none⟩=some (.int .i64 (r.found j)):=(je.cell (p:=⟨A.R.qb i j,2,none⟩) (za7 w _ cq)).trans cq;have U9:w1.ownsRow (w.heap.size+1) 3 1 (.slice av k gZ) k xs:=aH hrow (fun k' hk'=>lq.block k' (aQ hrow k' hk').2 (fun e=>by cases e;have:=(aQ hrow _ hk').1;omega));have HN:Hid (∀(w2:af) (v2:aj) (o:Obj) (xs2:List aj),w2.ownsRow (w.heap.size+1) 3 1 v2 (k+1) xs2->(w1.alloc o).grownBy w2 (Value.slice av k gZ).ownBlock->
    w2.ranges prog 9 aV (A.R.qm i) w.heap.size n D (fun z=>left z && !z.sameKey (.string x.data.toList)) Pm/\Below w.heap.size w w2/\w.heap.size<w2.heap.size):=fun w2 v2 o xs2 a1 a2=>by
    have Ro:w1.heap.size<w2.heap.size:=by have:=a2.size;simp at this;omega
    have wJ:∀k',k'<w.heap.size+1->w2.heap[k']?=w1.heap[k']? :=fun k' hk'=>(a2.block k' (by simp;omega) (fun e=>by have:=(aQ U9 k' e.symm).1;omega)).trans (Below.heap_alloc _ _ _ (by omega));refine⟨Cm Cl (wJ _ (by omega)) (wJ _ (by omega)),⟨a2.os.trans je.os,a2.tape.trans je.tape,a2.output.trans je.output,by omega,fun k' hk'=>(wJ k' (by omega)).trans (je.block k' hk')⟩,by omega⟩
   have hsb:w.heap.size+1<=w1.heap.size:=by omega
   clear cq K1 hs1;go_wp2_with (at_builtin;refine wpList_append_own_at _ rfl (.tmp 15) (.tmp 21) 58 rfl (w.heap.size+1) 3 ii _ 1 8 underlying58 oB iz0 iz1 iz2 rfl (by decide) (.slice av k gZ) k xs rfl (U9.alloc _) ⟨_,0,none⟩ 1 1 [.int .i64 (r.found j)] rfl rfl (cell_one_new _ _ _) (by simp[Value.oneCell']) (by unfold maxLen;omega) (by omega) (by simp;omega) ?_;intro v2 w2 vR oG Ja hA2)
   obtain⟨r1,r2,r3⟩:=HN.out w2 v2 _ _ vR oG;have HM2:Hid (xs++ [.int .i64 (r.found j)]=(ms++ [(r.found j:Int)]).map (Value.int .i64)/\(ms++ [(r.found j:Int)]).length=k+1/\(∀m∈ms++ [(r.found j:Int)],∃j x,r.keys[j]?=some x/\m=r.found j)/\∀(j':Nat) (x':ah),r.keys[j']?=some x'->(left (.string x'.data.toList)&& !(Lit.string x'.data.toList).sameKey (.string x.data.toList))=true\/(r.found j':Int)∈ms++ [(r.found j:Int)]):=by
    obtain⟨q1,q2,q3,q4⟩:=HM.out;refine⟨by rw[q1];simp,by simp[q2],fun m hm=>?_,fun j' x' hx'=>?_⟩
    ·rcases List.mem_append.1 hm with hm|hm
     ·exact q3 m hm
     ·simp at hm;exact⟨j,x,MV,hm⟩
    ·by_cases e:j'=j
     ·subst e;exact Or.inr (by simp)
     ·rcases q4 j' x' hx' with e1|e1
      ·refine Or.inl ?_;rw[e1,Maps.sameKey_ne (by intro e2;injection e2 with e2;have e3:x'=x:=WideShapes.bytes_inj e2;subst e3;exact e ((me h.nd hx').symm.trans hjx))]
       rfl
      ·exact Or.inr (List.mem_append_left _ e1)
   go_wp2_with fail
   go_roundw
   case rel=>exact⟨_,_,k+1,_,_,r1,vR,by omega,r2,r3,HM2⟩
   case measure=>rw[r1.left_eq,mC.left_eq];omega
end
end
end Go.Proofs.YteoahlieielcdaaGreat
