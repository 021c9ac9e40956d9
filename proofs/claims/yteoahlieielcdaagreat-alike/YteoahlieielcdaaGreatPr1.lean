import Derived.Test.YteoahlieielcdaaGreatBase
import Derived.Test.YteoahlieielcdaaGreatLocks
import Derived.Deep.RegionHeld3
import Derived.Lib.BufferWrite
import Derived.Deep.DeepCutAuto
set_option linter.all false
set_option maxHeartbeats 2000000
set_option maxRecDepth 100000
namespace Go.Proofs.YteoahlieielcdaaGreat
open Go.Proofs.Tryz
abbrev zaa:=@RowKit.Below.heap_setCell
abbrev zab:=@RowKit.Below.heap_alloc
abbrev zac:=@Nat.le_refl
abbrev zad:=@List.getElem?_eq_getElem
abbrev zae:=@World.cell?_of_block
abbrev zaf:=@World.block_lt_of_cell?
abbrev zag:=@Nat.zero_le
abbrev zah:=@Array.length_toList
abbrev zai:=@Int.eq_ofNat_of_zero_le
abbrev zaj:=@List.take_of_length_le
variable{P:Program}{w w' a X w2:World}{τ τ':Nat->Tag}{aD i b k:Nat}{n:Int}{K:List ByteArray}{kv:Value}{c:Array Value}{s:MS}{v:List UInt8->Nat}{p M:Nat->Prop}{f:Lit->Option Value}{m m':MW}{L l:List KV}{x:KV}
section
open Go Go.RowKit
theorem u7(s:ByteArray)(w:World)(hs:s.size<=maxLen):
 Calls prog 49 #[.string s] w fun e w'=>e=.returned (.bool (bK s))/\w'=w:=by
 unfold maxLen at hs;by_cases h1:1<=s.size
 ·go_enter func49,ntmps49;go_wp2;go_ret;exact⟨dH (by rw[Bool.eq_iff_iff];simp[bK];omega),rfl⟩
 ·go_enter func49,ntmps49;go_wp2;go_ret;exact⟨dH (by rw[Bool.eq_iff_iff];simp[bK];omega),rfl⟩
def pE(m:Int):Bool:=decide (1<=m)&& decide (m<=3)
theorem yS(m:Int)(w:World):
 Calls prog 66 #[.int .i64 m] w fun e w'=>e=.returned (.bool (pE m))/\w'=w:=by
 by_cases h1:m=1
 ·subst h1;go_enter func66,ntmps66;go_wp2;go_ret;exact⟨dH rfl,rfl⟩
 ·have g1:(m == 1)=false:=beq_eq_false_iff_ne.2 h1;by_cases h2:m=2
  ·subst h2;go_enter func66,ntmps66;go_wp2;go_ret;exact⟨dH rfl,rfl⟩
  ·have g2:(m == 2)=false:=beq_eq_false_iff_ne.2 h2;go_enter func66,ntmps66;go_wp2;go_ret;exact⟨dH (by rw[Bool.eq_iff_iff];simp[pE];omega),rfl⟩
theorem yT(w:World)(src dst e:TypeId)(s:ByteArray)(hs:P.underlying src=some .string)(hd:P.underlying dst=some (.slice e))(he:P.underlying e=some (.int .u8)):
 ∃cap W,(convert src dst (.string s)).run P w=.ok (.slice (some ⟨w.heap.size,0,none⟩) s.size cap) W/\Below w.heap.size w W/\(∀j (hj:j<s.size),W.cell? ⟨w.heap.size,j,none⟩=some (.int .u8 (s[j].toNat:Int))):=by
 refine⟨_,_,run_bytes_of_string w src dst e s hs hd he,((Below.refl _ _).drew.alloc (zac _) _),fun j hj=>?_⟩;have h:=bytesRow_at s (grownCap w s.size 0 e) j hj;have hh:∀(o:Obj),(w.drew.alloc o).heap[w.heap.size]?=some o:=fun o=>by show (w.heap.push o)[w.heap.size]?=_;simp
 simp only[World.cell?,hh,Option.isSome_none,Bool.false_eq_true,if_false];exact h
theorem sw(b:Nat)(n:Nat)(a:Option Addr)(cap:Nat)(s:ByteArray)(w:World)(hs:s.size<=1000)(hn:0<n)(hn':n<=4)(hp:w.cell? ⟨b,1,none⟩=some (.slice a n cap)):
 Calls prog 50 #[ptr b,.string s] w fun e w'=>e=.returned (.int .i64 (partOf n s))/\Below w.heap.size w w':=by
 obtain⟨cb,W,hcv,hB,hcell⟩:=yT (P:=prog) w 9 116 5 s underlying9 underlying116 underlying5;have rR:W.cell? ⟨b,1,none⟩=some (.slice a n cap):=(hB.cell (p:=⟨b,1,none⟩) (zaf w _ hp)).trans hp;unfold ptr;go_enter func50,ntmps50;go_wp2;go_loop [5,11] (fun m i=>∃k:Nat,k<=s.size/\i=.int .i64 k/\m=.int .i64 (jf (s.data.toList.take k))) (fun _ i=>s.size-(intOf i).toNat)
 case atStart=>exact⟨0,zag _,rfl,rfl⟩
 case round=>
  obtain⟨k,hk,rfl,rfl⟩:=hrel;have hd:=H8 (s.data.toList.take k);have hl:(s.data.toList.take k).length<=k:=List.length_take_le _ _;by_cases hlt:k<s.size
  ·have HS:Hid (jf (s.data.toList.take (k+1))=jf (s.data.toList.take k)+(s[k].toNat:Int)):=by rw[Bz s k hlt];exact CM _ _
   have ck:=hcell k hlt;have hb:=s[k].toNat_lt;generalize s[k]=c at *;clear hcell;go_wp2;go_round
   case rel=>exact⟨k+1,by omega,by go_num,by rw[HS.out]⟩
   case measure=>simp[intOf];omega
  ·clear hcell;go_wp2;go_ret;exact⟨iu (by rw[zaj (by simp;omega)];rfl),hB⟩
end
section
open Go Go.RowKit
open Go.Maps (Keyed)
def aZ(n:Int)(l:List KV)(q:Int):List KV:=l.filter (fun x=>decide (partOf n x.1=q))
def bD(m:MW)(q:Nat):Int:=if m.comm q then 2 else if m.dL q then 1 else 0
def dV:Value:=.slice none 0 0
def fy:Value:=.int .i32 0
def gF:Value:=.int .u32 0
structure SB where
 rm:Nat
 pr:Nat->Nat
 qm:Nat->Nat
 qb:Nat->Nat->Nat
 no:Nat->Bool
 ks:Nat->Value
 hv:Nat->Nat->Bool
 tv:Nat->Nat->ByteArray
 ts:Nat->Nat->Value
def dc(rs:List MR)(B:SB):Lit->Option Value
 |.int .i64 n=>match fO rs n with
  |some _=>some (ptr (B.pr (n-1).toNat))
  |none=>none
 |_=>none
def IE(keys:List ByteArray)(l:List UInt8):Nat:=keys.findIdx (fun x=>decide (x.data.toList=l))
def bW(B:SB)(i:Nat)(r:MR):Lit->Option Value
 |.string l=>if IE r.keys l<r.keys.length then some (ptr (B.qb i (IE r.keys l)))else none
 |_=>none
structure RdS(w:World)(τ:Nat->Tag)(aD:Nat)(n:Nat)(pb:Nat->Nat)(rs:List MR)(B:SB):Prop where
 qR:aK w prog 3 B.rm (dc rs B)
 gS:τ B.rm=(aD,10,0)
 rd:∀(i:Nat) (r:MR),rs[i]?=some r->r.fin=false->aT w (B.pr i) #[fy,gF,.bool (B.no i),B.ks i,.map (some (B.qm i))] 137
 iI:∀(i:Nat) (r:MR),rs[i]?=some r->r.fin=false->τ (B.pr i)=(aD,11,i)
 u5:∀(i:Nat) (r:MR),rs[i]?=some r->r.fin=false->aK w prog 9 (B.qm i) (bW B i r)
 l5:∀(i:Nat) (r:MR),rs[i]?=some r->r.fin=false->τ (B.qm i)=(aD,12,i)
 q:∀(i:Nat) (r:MR) (j:Nat) (x:ByteArray),rs[i]?=some r->r.fin=false->r.keys[j]?=some x->aT w (B.qb i j) #[ptr (pb (partOf n x).toNat),.bool (r.asked j),.int .i64 (r.found j),.bool (B.hv i j),.string (B.tv i j),B.ts i j] 146
 lA:∀(i:Nat) (r:MR) (j:Nat) (x:ByteArray),rs[i]?=some r->r.fin=false->r.keys[j]?=some x->τ (B.qb i j)=(aD,13,i*8+j)
 ky:∀(i:Nat) (r:MR),rs[i]?=some r->r.fin=false->w.ownsRow 0 9 1 (B.ks i) r.keys.length (r.keys.map Value.string)
 dF:∀(i:Nat) (r:MR) (k:Nat),rs[i]?=some r->r.fin=false->(B.ks i).ownBlock=some k->τ k=(aD,14,i)
theorem RdS.frame{n:Nat}{pb:Nat->Nat}{rs:List MR}{B:SB}(h:RdS w τ aD n pb rs B)
 (hf:∀k,k<w.heap.size->(τ k).1=aD->10<=(τ k).2.1->w'.heap[k]?=w.heap[k]? /\τ' k=τ k):RdS w' τ' aD n pb rs B:=by
 have mW:∀{k:Nat} {c:Array Value} {t:TypeId} {g g':Nat},10<=g->aT w k c t->τ k=(aD,g,g')->aT w' k c t/\τ' k=(aD,g,g'):=by intro k c t g g' hg hb ht;obtain⟨e1,e2⟩:=hf k hb.lt (by rw[ht]) (by rw[ht];exact hg);exact⟨hb.of_eq e1,e2.trans ht⟩
 have hmap:∀{k:Nat} {t:TypeId} {f:Lit->Option Value} {g g':Nat},10<=g->aK w prog t k f->τ k=(aD,g,g')->aK w' prog t k f/\τ' k=(aD,g,g'):=by intro k t f g g' hg hb ht;obtain⟨e1,e2⟩:=hf k hb.lt (by rw[ht]) (by rw[ht];exact hg);exact⟨hb.of_eq e1,e2.trans ht⟩
 exact⟨(hmap (by omega) h.qR h.gS).1,(hmap (by omega) h.qR h.gS).2,
  fun i r a c=>(mW (by omega) (h.rd i r a c) (h.iI i r a c)).1,fun i r a c=>(mW (by omega) (h.rd i r a c) (h.iI i r a c)).2,
  fun i r a c=>(hmap (by omega) (h.u5 i r a c) (h.l5 i r a c)).1,fun i r a c=>(hmap (by omega) (h.u5 i r a c) (h.l5 i r a c)).2,
  fun i r j x a c e=>(mW (by omega) (h.q i r j x a c e) (h.lA i r j x a c e)).1,fun i r j x a c e=>(mW (by omega) (h.q i r j x a c e) (h.lA i r j x a c e)).2,
  fun i r a c=>ak (h.ky i r a c) (fun k hk=>(hf k (aR (h.ky i r a c) k hk).2 (by rw[h.dF i r k a c hk]) (by rw[h.dF i r k a c hk];simp)).1),
  fun i r k a c hk=>by rw[(hf k (aR (h.ky i r a c) k hk).2 (by rw[h.dF i r k a c hk]) (by rw[h.dF i r k a c hk];simp)).2,h.dF i r k a c hk]⟩
structure SA where
 cD:Value
 pb:Nat->Nat
 kb:Nat->Nat
 vb:Nat->Nat
 wm:Nat
 pw:Nat->Nat
 sm:Nat->Nat
 sh:Nat->Nat->Nat
 iv:Nat->Nat->Value
 sv:Nat->Value
 vis:Nat->List UInt8->Nat
 R:SB
def cL(s:MS)(A:SA):Lit->Option Value
 |.int .i64 n=>match bF s n with
  |some _=>some (ptr (A.pw (n-1).toNat))
  |none=>none
 |_=>none
def bE(s:MS)(A:SA)(q:Nat):Lit->Option Value
 |.int .i64 n=>match bF s n with
  |some m=>if m.dL q then some (.agg #[A.iv (n-1).toNat q,A.sv (n-1).toNat])else none
  |none=>none
 |_=>none
def bL(s:MS)(A:SA)(i:Nat)(m:MW):Lit->Option Value
 |.int .i64 q=>if az s.parts m.items q=true then some (ptr (A.sh i q.toNat))else none
 |_=>none
def C8(A:SA)(q:Nat):Lit->Option Value
 |.string l=>if A.vis q l=0 then none else some (.int .i64 (A.vis q l))
 |_=>none
structure Kk(s:MS)(q:Nat)(v:List UInt8->Nat):Prop where
 seen:∀l,v l≠0->∃m,s.ws[v l-1]?=some m/\m.comm q=true/\∃x∈m.items,x.1.data.toList=l/\partOf s.parts x.1=q
 top:∀(i:Nat) (m:MW) (x:KV),s.ws[i]?=some m->m.comm q=true->x∈m.items->partOf s.parts x.1=q->i+1<=v x.1.data.toList
structure afL(s:MS):Prop where
 cp:∀(i:Nat) (m:MW) (q:Nat),s.ws[i]?=some m->m.comm q=true->m.dL q=true
 po:∀(i:Nat) (m:MW) (q:Nat),s.ws[i]?=some m->m.dL q=true->az s.parts m.items q=true
 cc:∀(i:Nat) (m:MW) (q:Nat),s.ws[i]?=some m->m.ed=true->m.comm q=false
def yl(v:Value):Prop:=v=.nilIface\/∃t x,v=.iface t x
def jg(l:List KV)(k:ByteArray):Option ByteArray:=(l.find? (fun x=>decide (x.1=k))).map (fun x=>x.2)
structure ze(s:MS)(A:SA):Prop where
 sv:∀(i:Nat) (m:MW),s.ws[i]?=some m->yl (A.sv i)
 no:∀(i:Nat) (r:MR),s.rs[i]?=some r->r.fin=false->A.R.no i=(decide (s.mode=2)&& decide (1<r.keys.length))
 un:∀(i:Nat) (r:MR) (j:Nat),s.rs[i]?=some r->r.asked j=false->r.found j=0
 hv:∀(i:Nat) (r:MR) (j:Nat) (x:ByteArray),s.rs[i]?=some r->r.fin=false->r.keys[j]?=some x->A.R.hv i j=(!A.R.no i && decide (r.found j≠0))
 tv:∀(i:Nat) (r:MR) (j:Nat) (x:ByteArray),s.rs[i]?=some r->r.fin=false->r.keys[j]?=some x->A.R.hv i j=true->∃m,s.ws[r.found j-1]?=some m/\jg m.items x=some (A.R.tv i j)/\A.R.ts i j=A.sv (r.found j-1)
 t0:∀(i:Nat) (r:MR) (j:Nat) (x:ByteArray),s.rs[i]?=some r->r.fin=false->r.keys[j]?=some x->A.R.hv i j=false->A.R.tv i j=⟨#[]⟩/\A.R.ts i j=.nilIface
 fm:∀(i:Nat) (r:MR) (j:Nat) (x:ByteArray),s.rs[i]?=some r->r.fin=false->r.keys[j]?=some x->r.found j≠0->∃m,s.ws[r.found j-1]?=some m/\aH m.items x=true/\m.comm (partOf s.parts x).toNat=true
theorem ze.ws{s s':MS}{A A':SA}(h:ze s A)(hrs:s'.rs=s.rs)(hmode:s'.mode=s.mode)(WE:s'.parts=s.parts)(hR:A'.R=A.R)(BF:∀(i:Nat) (m:MW),s'.ws[i]?=some m->yl (A'.sv i))
 (hw:∀(i:Nat) (m:MW),s.ws[i]?=some m->∃m',s'.ws[i]?=some m'/\m'.items=m.items/\(∀q,m.comm q=true->m'.comm q=true)/\A'.sv i=A.sv i):ze s' A':=by
 refine⟨BF,fun i r a c=>?_,fun i r j a=>?_,fun i r j x a c e=>?_,fun i r j x a c e f=>?_,fun i r j x a c e f=>?_,fun i r j x a c e f=>?_⟩;all_goals rw[hrs]at a
 ·rw[hR,hmode];exact h.no i r a c
 ·exact h.un i r j a
 ·rw[hR];exact h.hv i r j x a c e
 ·rw[hR]at f⊢;obtain⟨m,hm,h1,h2⟩:=h.tv i r j x a c e f;obtain⟨m',hm',e1,_,e3⟩:=hw _ m hm;exact⟨m',hm',by rw[e1];exact h1,by rw[e3];exact h2⟩
 ·rw[hR]at f⊢;exact h.t0 i r j x a c e f
 ·obtain⟨m,hm,h1,h2⟩:=h.fm i r j x a c e f;obtain⟨m',hm',e1,e2,_⟩:=hw _ m hm;exact⟨m',hm',by rw[e1];exact h1,by rw[WE];exact e2 _ h2⟩
def lg(l:List UInt8):Int:=l.foldl (fun h b=>IntKind.u64.wrap (IntKind.u64.wrap (h*31)+(b.toNat:Int))) 0
def wW(s:ByteArray):Int:=IntKind.u64.wrap (2 ^(lg s.data.toList % 64).toNat)
def orF(m n:Int):Int:=IntKind.u64.wrap ((BitVec.ofInt IntKind.u64.bits m |||BitVec.ofInt IntKind.u64.bits n).toNat:Int)
def ry(K:List ByteArray):Int:=K.foldl (fun m x=>orF m (wW x)) 0
inductive FE(w:World)(τ:Nat->Tag)(aD i:Nat)(K:List ByteArray):Int->Value->Prop
 |keys (v:Value):w.ownsRow 0 9 1 v K.length (K.map Value.string)->(∀k,v.ownBlock=some k->τ k=(aD,15,i))->FE w τ aD i K 1 (.iface 225 v)
 |mask:FE w τ aD i K 3 (.iface 226 (.int .u64 (ry K)))
 |none {mode:Int}:mode≠1->mode≠3->FE w τ aD i K mode .nilIface
theorem FE.of{mode:Int}{sv:Value}(h:FE w τ aD i K mode sv)(hf:∀k,k<w.heap.size->τ k=(aD,15,i)->w'.heap[k]?=w.heap[k]? /\τ' k=τ k):FE w' τ' aD i K mode sv:=by
 cases h with
 |keys v h1 h2=>exact .keys v (ak h1 (fun k hk=>(hf k (aR h1 k hk).2 (h2 k hk)).1)) (fun k hk=>by rw[(hf k (aR h1 k hk).2 (h2 k hk)).2,h2 k hk])
 |mask=>exact .mask
 |none h1 h3=>exact .none h1 h3
def Uo(mode:Int)(kv:Value)(K:List ByteArray)(sv:Value):Prop:=(mode=1/\sv=.iface 225 kv)\/(mode=3/\sv=.iface 226 (.int .u64 (ry K)))\/(mode≠1/\mode≠3/\sv=.nilIface)
theorem Uo.isIf{mode:Int}{sv:Value}(h:Uo mode kv K sv):yl sv:=by
 rcases h with⟨_,rfl⟩|⟨_,rfl⟩|⟨_,_,rfl⟩
 ·exact .inr ⟨_,_,rfl⟩
 ·exact .inr ⟨_,_,rfl⟩
 ·exact .inl rfl
theorem Uo.ok{mode:Int}{sv:Value}(h:Uo mode kv K sv)(h1:w.ownsRow 0 9 1 kv K.length (K.map Value.string))(h2:∀k,kv.ownBlock=some k->τ k=(aD,15,i)):FE w τ aD i K mode sv:=by
 rcases h with⟨rfl,rfl⟩|⟨rfl,rfl⟩|⟨e1,e3,rfl⟩
 ·exact .keys kv h1 h2
 ·exact .mask
 ·exact .none e1 e3
structure aW(w:World)(τ:Nat->Tag)(aD b:Nat)(s:MS)(A:SA):Prop where
 ok:MOk s
 inv:afL s
 told:ze s A
 blk:aT w b #[.int .i64 s.mode,A.cD,fy,gF,.int .i64 s.ws.length,.int .i64 s.rs.length,.map (some A.wm),.map (some A.R.rm)] 105
 tag:τ b=(aD,0,0)
 cD:w.ownsRow 0 130 1 A.cD s.parts ((List.range s.parts).map (fun q=>ptr (A.pb q)))
 eI:∀k,A.cD.ownBlock=some k->τ k=(aD,1,0)
 part:∀q,q<s.parts->aT w (A.pb q) #[fy,gF,.map (some (A.kb q)),.map (some (A.vb q))] 202
 cS:∀q,q<s.parts->τ (A.pb q)=(aD,2,q)
 kept:∀q,q<s.parts->aK w prog 3 (A.kb q) (bE s A q)
 cC:∀q,q<s.parts->τ (A.kb q)=(aD,3,q)
 tH:∀q,q<s.parts->aK w prog 9 (A.vb q) (C8 A q)
 eZ:∀q,q<s.parts->τ (A.vb q)=(aD,4,q)
 l6:∀q,q<s.parts->Kk s q (A.vis q)
 sC:aK w prog 3 A.wm (cL s A)
 iU:τ A.wm=(aD,5,0)
 wr:∀(i:Nat) (m:MW),s.ws[i]?=some m->m.ed=false->aT w (A.pw i) #[fy,gF,.int .i64 ((i:Int)+1),A.sv i,.bool false,.map (some (A.sm i))] 164
 fB:∀(i:Nat) (m:MW),s.ws[i]?=some m->m.ed=false->τ (A.pw i)=(aD,6,i)
 Pd:∀(i:Nat) (m:MW),s.ws[i]?=some m->m.ed=false->aK w prog 3 (A.sm i) (bL s A i m)
 jh:∀(i:Nat) (m:MW),s.ws[i]?=some m->m.ed=false->τ (A.sm i)=(aD,7,i)
 sh:∀(i:Nat) (m:MW) (q:Nat),s.ws[i]?=some m->m.ed=false->az s.parts m.items q=true->aT w (A.sh i q) #[ptr (A.pb q),.int .i64 (bD m q),if m.dL q then dV else A.iv i q] 174
 cG:∀(i:Nat) (m:MW) (q:Nat),s.ws[i]?=some m->m.ed=false->az s.parts m.items q=true->τ (A.sh i q)=(aD,8,i*4+q)
 it:∀(i:Nat) (m:MW) (q:Nat),s.ws[i]?=some m->m.ed=false->az s.parts m.items q=true->w.ownsRow 0 70 2 (A.iv i q) (aZ s.parts m.items q).length (aY (aZ s.parts m.items q))
 fA:∀(i:Nat) (m:MW) (q:Nat) (k:Nat),s.ws[i]?=some m->m.ed=false->az s.parts m.items q=true->(A.iv i q).ownBlock=some k->τ k=(aD,9,i*4+q)
 reads:RdS w τ aD s.parts A.pb s.rs A.R
 La:∀(i:Nat) (m:MW),s.ws[i]?=some m->FE w τ aD i (m.items.map Prod.fst) s.mode (A.sv i)
section
variable {w:World}{τ:Nat->Tag}{aD b:Nat}{s:MS}{A:SA}
theorem aW.frame(h:aW w τ aD b s A){w':World}{τ':Nat->Tag}(hf:∀k,k<w.heap.size->(τ k).1=aD->w'.heap[k]?=w.heap[k]? /\τ' k=τ k):aW w' τ' aD b s A:=by
 have mW:∀{k:Nat} {c:Array Value} {t:TypeId} {g:Nat×Nat},aT w k c t->τ k=(aD,g)->aT w' k c t/\τ' k=(aD,g):=by intro k c t g hb ht;obtain⟨e1,e2⟩:=hf k hb.lt (by rw[ht]);exact⟨hb.of_eq e1,e2.trans ht⟩
 have hmap:∀{k:Nat} {t:TypeId} {f:Lit->Option Value} {g:Nat×Nat},aK w prog t k f->τ k=(aD,g)->aK w' prog t k f/\τ' k=(aD,g):=by intro k t f g hb ht;obtain⟨e1,e2⟩:=hf k hb.lt (by rw[ht]);exact⟨hb.of_eq e1,e2.trans ht⟩
 have hrow:∀{e:TypeId} {sz:Nat} {v:Value} {n:Nat} {xs:List Value} {g:Nat×Nat},w.ownsRow 0 e sz v n xs->(∀k,v.ownBlock=some k->τ k=(aD,g))->w'.ownsRow 0 e sz v n xs/\∀k,v.ownBlock=some k->τ' k=(aD,g):=by intro e sz v n xs g ho hv;refine⟨ak ho (fun k hk=>(hf k (aR ho k hk).2 (by rw[hv k hk])).1),fun k hk=>?_⟩;rw[(hf k (aR ho k hk).2 (by rw[hv k hk])).2,hv k hk]
 exact⟨h.ok,h.inv,h.told,(mW h.blk h.tag).1,(mW h.blk h.tag).2,(hrow h.cD h.eI).1,(hrow h.cD h.eI).2,
  fun q hq=>(mW (h.part q hq) (h.cS q hq)).1,fun q hq=>(mW (h.part q hq) (h.cS q hq)).2,
  fun q hq=>(hmap (h.kept q hq) (h.cC q hq)).1,fun q hq=>(hmap (h.kept q hq) (h.cC q hq)).2,
  fun q hq=>(hmap (h.tH q hq) (h.eZ q hq)).1,fun q hq=>(hmap (h.tH q hq) (h.eZ q hq)).2,h.l6,
  (hmap h.sC h.iU).1,(hmap h.sC h.iU).2,
  fun i m a c=>(mW (h.wr i m a c) (h.fB i m a c)).1,fun i m a c=>(mW (h.wr i m a c) (h.fB i m a c)).2,
  fun i m a c=>(hmap (h.Pd i m a c) (h.jh i m a c)).1,fun i m a c=>(hmap (h.Pd i m a c) (h.jh i m a c)).2,
  fun i m q a c o=>(mW (h.sh i m q a c o) (h.cG i m q a c o)).1,fun i m q a c o=>(mW (h.sh i m q a c o) (h.cG i m q a c o)).2,
  fun i m q a c o=>(hrow (h.it i m q a c o) (fun k=>h.fA i m q k a c o)).1,fun i m q k a c o=>(hrow (h.it i m q a c o) (fun k=>h.fA i m q k a c o)).2 k,h.reads.frame (fun k hk h1 _=>hf k hk h1),
  fun i m a=>(h.La i m a).of fun k hk ht=>hf k hk (by rw[ht])⟩
structure u6(w w':World):Prop where
 heap:w'.heap=w.heap
 os:w'.os=w.os
 tape:w'.tape=w.tape
 output:w'.output=w.output
theorem u6.nG(h:u6 w w')(s:Nat)(τ:Nat->Tag):Stp s τ w τ w':=⟨h.os,h.tape,h.output,by rw[h.heap];exact zac _,fun _ _=>rfl,fun k _ _=>by rw[h.heap]⟩
theorem aW.same(h:aW w τ aD b s A)(hs:u6 w w'):aW w' τ aD b s A:=h.frame (fun k _ _=>⟨by rw[hs.heap],rfl⟩)
theorem aW.below(h:aW w τ aD b s A)(hb:Below w.heap.size w w'):aW w' τ aD b s A:=h.frame (fun k hk _=>⟨hb.block k hk,rfl⟩)
theorem gm{o:Nat}{t:TypeId}(h:aT w b c t)(hc:c[o]?=some fy)(v:Value):u6 w ((w.setCell ⟨b,o,none⟩ v).setCell ⟨b,o,none⟩ fy):=by
 refine⟨?_,rfl,rfl,rfl⟩;apply Array.ext_getElem?;intro i;by_cases e:i=b
 ·subst e;have h1:((w.setCell ⟨i,o,none⟩ v).setCell ⟨i,o,none⟩ fy).heap[i]?=some (.cells ((c.setIfInBounds o v).setIfInBounds o fy) t (0,0)):=(h.set o v).set o fy;have h2:w.heap[i]?=some (.cells c t (0,0)):=h;rw[h1,h2];obtain⟨ho,hv⟩:=Array.getElem?_eq_some_iff.1 hc;congr 2;apply Array.ext_getElem?;intro j;by_cases e:o=j
  ·subst e;simp[ho,hv]
  ·simp[e]
 ·rw[zaa _ _ _ _ e,zaa _ _ _ _ e]
end
end
section
open Go Go.RowKit Go.MuLone
open Go.Maps (Keyed)
theorem eD:Keyed prog 3:=Maps.int_keyed underlying3
theorem dI:Keyed prog 9:=Maps.string_keyed underlying9
theorem Wi(h: -9223372036854775808<=n)(h':n<=9223372036854775807):(Lit.int .i64 n).wf=true:=WalkArith.wf_i64 ⟨h,h'⟩
theorem keyOf_int(h: -9223372036854775808<=n)(h':n<=9223372036854775807):keyOf prog 3 (.int .i64 n)=some (.int .i64 n):=Maps.keyOf_int_mk underlying3 (Wi h h')
theorem dZ{s:ByteArray}(h:s.size<=maxLen):keyOf prog 9 (.string s)=some (.string s.data.toList):=WideMaps.keyOf_string_mk underlying9 h
theorem Pk(w:World):(zeroValue 118).run prog w=.ok (.pointer none) w:=by kernel_rfl
theorem va(w:World):(zeroValue 168).run prog w=.ok (.pointer none) w:=by kernel_rfl
theorem mV(w:World):(zeroValue 214).run prog w=.ok (.agg #[.slice none 0 0,.nilIface]) w:=by kernel_rfl
theorem zc(x y:Value)(w:World):(Instr.field 214 (.agg #[x,y]) 0).run prog w=.ok x w:=by kernel_rfl
theorem Wj(x y:Value)(w:World):(Instr.field 214 (.agg #[x,y]) 1).run prog w=.ok y w:=by kernel_rfl
theorem C9(w:World):(zeroValue 3).run prog w=.ok (.int .i64 0) w:=by kernel_rfl
section
variable {w:World}{τ:Nat->Tag}{aD b:Nat}{s:MS}{A:SA}
theorem aW.aax(h:aW w τ aD b s A):∃a cap,A.cD=.slice a s.parts cap/\w.cell? ⟨b,1,none⟩=some (.slice a s.parts cap):=by obtain⟨a,cap,hv⟩:=gH h.cD;exact⟨a,cap,hv,by rw[<-hv];exact h.blk.cell (o:=1) rfl⟩
theorem T7(h:aW w τ aD b s A)(k:ByteArray)(hk:k.size<=maxLen):
 Calls prog 27 #[ptr b,.string k] w fun e w'=>e=.returned (.tuple #[.int .i64 (if bK k then partOf s.parts k else 0),.int .i64 (if bK k then 0 else 4)])/\Below w.heap.size w w':=by
 have c:=u7 k w hk;have HY:=h.ok.p4;have hp1:=h.ok.p1;unfold ptr;cases hg:bK k with
 |true=>
  have hsz:1<=k.size/\k.size<=8:=by simpa[bK]using hg
  obtain⟨a,cap,_,cP⟩:=h.aax;have cp:=sw b s.parts a cap k w (by omega) (by omega) (by omega) cP;unfold ptr at cp;rw[hg]at c;clear hg;go_enter func27,ntmps27;go_wp2_with fail
  refine c.mono ?_;rintro e w' ⟨rfl,rfl⟩;go_wp2_with fail
  refine cp.mono ?_;rintro e w' ⟨rfl,hB⟩;go_wp2_with fail
  go_ret2
  exact⟨rfl,hB⟩
 |false=>
  rw[hg]at c;clear hg;go_enter func27,ntmps27;go_wp2_with fail
  refine c.mono ?_;rintro e w' ⟨rfl,rfl⟩;go_wp2_with fail
  go_ret2
  exact⟨rfl,Below.refl _ _⟩
def eT(s:MS)(A:SA)(n:Int):Value×Bool:=match bF s n with
 |some _=>(ptr (A.pw (n-1).toNat),true)
 |none=>(.pointer none,false)
theorem yU(h:aW w τ aD b s A)(n:Int)(hn: -9223372036854775808<=n)(hn':n<=9223372036854775807):
 Calls prog 51 #[ptr b,.int .i64 n] w fun e w'=>e=.returned (.tuple #[(eT s A n).1,.bool (eT s A n).2])/\u6 w w':=by
 have c2:w.cell? ⟨b,2,none⟩=some (.int .i32 0):=h.blk.cell (o:=2) rfl;have c5:w.cell? ⟨b,6,none⟩=some (.map (some A.wm)):=h.blk.cell (o:=6) rfl;have f2:=h.blk.frozen 2;have hM:∀v,aK (w.setCell ⟨b,2,none⟩ v) prog 3 A.wm (cL s A):=fun v=>h.sC.of_eq (zaa _ _ _ _ (fun e=>by have:=h.iU;rw[e,h.tag]at this;simp at this));have eF:=gm h.blk (o:=2) rfl (.int .i32 1);unfold fy at eF;obtain⟨fv,aj,hval⟩:∃fv,cL s A (.int .i64 n)=fv/\(eT s A n).1=fv.getD (.pointer none)/\(eT s A n).2=fv.isSome:=by refine⟨_,rfl,?_⟩;unfold cL eT;cases hf:bF s n<;>simp only[hf]<;>exact⟨rfl,rfl⟩
 rw[hval.1,hval.2];unfold ptr;go_enter_defers func51,ntmps51;go_wp2_with (first|(go_at_call 37;refine(lock_free Tryz.a9 ⟨b,2,none⟩ _ c2 f2).mono ?_;rintro e w' ⟨rfl,rfl⟩)|(at_lookup;refine bZ _ rfl _ _ 102 rfl 3 118 eD underlying102 (Pk _) A.wm (cL s A) rfl (hM _) _ (.int .i64 n) rfl (keyOf_int hn hn') fv aj ?_))
 refine leaves_cons (f:=38) (args:=#[.pointer (some ⟨b,2,none⟩)]) (by simp) (by simp[go_sem]) ?_;refine(unlock_deferred Tryz.a9 ⟨b,2,none⟩ .returning _ ?_ ?_).mono ?_
 ·exact World.cell?_setCell_same w ⟨b,2,none⟩ (.int .i32 1) c2
 ·simp[f2]
 rintro e u' w'' ⟨rfl,rfl,rfl⟩;exact⟨_,results_tmp2 rfl _ _ _,rfl,eF⟩
def eV(s:MS)(A:SA)(i:Nat)(m:MW)(p:Int):Value×Int:=if az s.parts m.items p=true then(ptr (A.sh i p.toNat),0)else(.pointer none,8)
theorem BQ{v v':Value}{a b:Int}(h:(v,a)=(v',b)):Ending.returned (.tuple #[v,.int .i64 a])=.returned (.tuple #[v',.int .i64 b]):=by cases h;rfl
theorem wz(pw sm:Nat)(i:Nat)(m:MW)(p:Int)(w:World)(hp: -9223372036854775808<=p)(rR:p<=9223372036854775807)(c3:w.cell? ⟨pw,4,none⟩=some (.bool false))(c4:w.cell? ⟨pw,5,none⟩=some (.map (some sm)))(hM:aK w prog 3 sm (bL s A i m)):
 Calls prog 88 #[ptr pw,.int .i64 p] w fun e w'=>e=.returned (.tuple #[(eV s A i m p).1,.int .i64 (eV s A i m p).2])/\w'=w:=by
 unfold ptr;cases ho:az s.parts m.items p with
 |true=>
  have aj:bL s A i m (.int .i64 p)=some (.pointer (some ⟨A.sh i p.toNat,0,none⟩)):=by simp only[bL,ho,if_true];rfl
  have Hr:Hid (eV s A i m p=(.pointer (some ⟨A.sh i p.toNat,0,none⟩),0)):=by unfold Hid eV;rw[ho];rfl
  clear ho;go_enter func88,ntmps88;go_wp2_with (at_lookup;refine bZ _ rfl _ _ 162 rfl 3 168 eD underlying162 (va _) sm (bL s A i m) rfl hM _ (.int .i64 p) rfl (keyOf_int hp rR) _ aj ?_)
  go_ret2
  exact⟨BQ Hr.out.symm,rfl⟩
 |false=>
  have aj:bL s A i m (.int .i64 p)=none:=by simp[bL,ho]
  have Hr:Hid (eV s A i m p=(.pointer none,8)):=by unfold Hid eV;rw[ho];rfl
  clear ho;go_enter func88,ntmps88;go_wp2_with (at_lookup;refine bZ _ rfl _ _ 162 rfl 3 168 eD underlying162 (va _) sm (bL s A i m) rfl hM _ (.int .i64 p) rfl (keyOf_int hp rR) _ aj ?_)
  go_ret2
  exact⟨BQ Hr.out.symm,rfl⟩
end
end
section
open Go Go.RowKit Go.MuLone
open Go.Maps (Keyed)
structure rz(w w':World)(b:Nat):Prop where
 os:w'.os=w.os
 tape:w'.tape=w.tape
 output:w'.output=w.output
 size:w'.heap.size=w.heap.size
 block:∀k,k≠b->w'.heap[k]?=w.heap[k]?
theorem rz.fR(h:w.mapTurned w' b):rz w w' b:=⟨h.grown.os,h.grown.tape,h.grown.output,EW h,fun _ hk=>CL h hk⟩
theorem rz.locked{w1:World}{o kb:Nat}{t:TypeId}(hb:aT w b c t)(hc:c[o]?=some fy)(v:Value)(h:rz (w.setCell ⟨b,o,none⟩ v) w1 kb)(hne:b≠kb):rz w (w1.setCell ⟨b,o,none⟩ fy) kb:=by
 refine⟨h.os,h.tape,h.output,by simpa[World.setCell]using h.size,fun k hk=>?_⟩;by_cases e:k=b
 ·subst e;have h1:aT (w1.setCell ⟨k,o,none⟩ fy) k ((c.setIfInBounds o v).setIfInBounds o fy) t:=((hb.set o v).of_eq (h.block k hne)).set o fy;have h2:aT ((w.setCell ⟨k,o,none⟩ v).setCell ⟨k,o,none⟩ fy) k ((c.setIfInBounds o v).setIfInBounds o fy) t:=(hb.set o v).set o fy;have h3:=(gm hb hc v).heap;rw[show (w1.setCell ⟨k,o,none⟩ fy).heap[k]?=_ from h1,<-show ((w.setCell ⟨k,o,none⟩ v).setCell ⟨k,o,none⟩ fy).heap[k]?=_ from h2,h3]
 ·rw[zaa _ _ _ _ e,h.block k hk,zaa _ _ _ _ e]
theorem eW{w3:World}{o:Nat}{t:TypeId}{v:Value}(hb:aT w b c t)(hc:c[o]?=some fy)(h3:∀k,p k->w3.heap[k]?=(w.setCell ⟨b,o,none⟩ v).heap[k]?)(k:Nat)(hk:p k):
 (w3.setCell ⟨b,o,none⟩ fy).heap[k]?=w.heap[k]? :=by
 by_cases e:k=b
 ·subst e;have h1:aT (w3.setCell ⟨k,o,none⟩ fy) k ((c.setIfInBounds o v).setIfInBounds o fy) t:=((hb.set o v).of_eq (h3 k hk)).set o fy;have h2:aT ((w.setCell ⟨k,o,none⟩ v).setCell ⟨k,o,none⟩ fy) k ((c.setIfInBounds o v).setIfInBounds o fy) t:=(hb.set o v).set o fy;have h4:=(gm hb hc v).heap;rw[show (w3.setCell ⟨k,o,none⟩ fy).heap[k]?=_ from h1,<-show ((w.setCell ⟨k,o,none⟩ v).setCell ⟨k,o,none⟩ fy).heap[k]?=_ from h2,h4]
 ·rw[zaa _ _ _ _ e,h3 k hk,zaa _ _ _ _ e]
theorem cU{t t':TypeId}(h:aT w b c t)(hm:aK w P t' k f):b≠k:=by rintro rfl;obtain⟨n,D,⟨es,clock,hb,_⟩,_⟩:=hm;have:w.heap[b]?=some (.cells c t (0,0)):=h;rw[this]at hb;cases hb
section
variable {w:World}
theorem PG(pb kb vb:Nat)(f:Lit->Option Value)(hb:aT w pb #[fy,gF,.map (some kb),.map (some vb)] 202)(hM:aK w prog 3 kb f)(L:List Lit)(hL:∀kl,f kl≠none->kl∈L)(hn:L.length<maxLen)
 (n:Int) (h1: -9223372036854775808<=n) (h2:n<=9223372036854775807) (iv sv:Value) (hiv:∃a l c,iv=.slice a l c) (BF:yl sv):
 Calls prog 91 #[ptr pb,.int .i64 n,iv,sv] w fun e w'=>e=.returned (.tuple #[])/\aK w' prog 3 kb (upd f (.int .i64 n) (.agg #[iv,sv]))/\rz w w' kb:=by
 have c0:w.cell? ⟨pb,0,none⟩=some (.int .i32 0):=hb.cell (o:=0) rfl;have c2:w.cell? ⟨pb,2,none⟩=some (.map (some kb)):=hb.cell (o:=2) rfl;have f0:=hb.frozen 0;have hne:=cU hb hM;have mU:∀v,aK (w.setCell ⟨pb,0,none⟩ v) prog 3 kb f:=fun v=>hM.of_eq (zaa _ _ _ _ (fun e=>hne e.symm));obtain⟨ia,il,ic,rfl⟩:=hiv;unfold ptr;rcases BF with rfl|⟨st,sx,rfl⟩
 all_goals
  go_enter_defers func91,ntmps91
  go_wp2_with (first|(go_at_call 37;refine(lock_free Tryz.a9 ⟨pb,0,none⟩ _ c0 f0).mono ?_;rintro e w' ⟨rfl,rfl⟩)|(at_mapUpdate;refine pG _ rfl _ _ _ 199 rfl 3 214 eD underlying199 kb f rfl (mU _) L hL hn _ _ (.int .i64 n) rfl rfl (keyOf_int h1 h2) ?_;intro w1 xd hT))
  have hB:=rz.fR hT
  have iR:aT w1 pb _ 202:=(hb.set 0 (.int .i32 1)).of_eq (hB.block pb hne)
  refine leaves_cons (f:=38) (args:=#[.pointer (some ⟨pb,0,none⟩)]) (by simp) (by simp[go_sem]) ?_
  refine(unlock_deferred Tryz.a9 ⟨pb,0,none⟩ .returning _ (iR.cell (o:=0) rfl) (iR.frozen 0)).mono ?_
  rintro e u' w'' ⟨rfl,rfl,rfl⟩
  exact⟨_,results_none rfl _ _ _,rfl,xd.of_eq (zaa _ _ _ _ (fun e=>hne e.symm)),rz.locked hb rfl _ hB hne⟩
theorem aaF(pb kb vb:Nat)(f:Lit->Option Value)(hb:aT w pb #[fy,gF,.map (some kb),.map (some vb)] 202)(hM:aK w prog 3 kb f)
 (n:Int) (h1: -9223372036854775808<=n) (h2:n<=9223372036854775807):
 Calls prog 92 #[ptr pb,.int .i64 n] w fun e w'=>e=.returned (.tuple #[])/\aK w' prog 3 kb (del f (.int .i64 n))/\rz w w' kb:=by
 have c0:w.cell? ⟨pb,0,none⟩=some (.int .i32 0):=hb.cell (o:=0) rfl;have c2:w.cell? ⟨pb,2,none⟩=some (.map (some kb)):=hb.cell (o:=2) rfl;have f0:=hb.frozen 0;have hne:=cU hb hM;have mU:∀v,aK (w.setCell ⟨pb,0,none⟩ v) prog 3 kb f:=fun v=>hM.of_eq (zaa _ _ _ _ (fun e=>hne e.symm));unfold ptr;go_enter_defers func92,ntmps92;go_wp2_with (first|(go_at_call 37;refine(lock_free Tryz.a9 ⟨pb,0,none⟩ _ c0 f0).mono ?_;rintro e w' ⟨rfl,rfl⟩)|(at_delete;refine pI _ rfl _ _ 199 3 rfl 214 eD underlying199 kb f rfl (mU _) _ (.int .i64 n) rfl (keyOf_int h1 h2) ?_;intro w1 xd hT))
 have hB:=rz.fR hT;have iR:aT w1 pb _ 202:=(hb.set 0 (.int .i32 1)).of_eq (hB.block pb hne);refine leaves_cons (f:=38) (args:=#[.pointer (some ⟨pb,0,none⟩)]) (by simp) (by simp[go_sem]) ?_;refine(unlock_deferred Tryz.a9 ⟨pb,0,none⟩ .returning _ (iR.cell (o:=0) rfl) (iR.frozen 0)).mono ?_;rintro e u' w'' ⟨rfl,rfl,rfl⟩;exact⟨_,results_none rfl _ _ _,rfl,xd.of_eq (zaa _ _ _ _ (fun e=>hne e.symm)),rz.locked hb rfl _ hB hne⟩
end
end
section
open Go Go.RowKit
open Go.Maps (Keyed)
section
variable {w:World}{τ:Nat->Tag}{aD b:Nat}{s:MS}{A:SA}
def setAt(s:MS)(i:Nat)(m:MW):MS:={s with ws:=s.ws.set i m}
theorem C1(s:MS)(n:Int)(m:MW):wY s n m=setAt s (n-1).toNat m:=rfl
theorem Ux(h:bF s n=none):n<1\/(s.ws.length:Int)<n\/(1<=n/\n<=s.ws.length/\∃m,s.ws[(n-1).toNat]?=some m/\m.ed=true):=by
 unfold bF at h;split at h
 ·omega
 ·rename_i hb;have hlt:(n-1).toNat<s.ws.length:=by omega
  rw[zad hlt]at h;simp only at h;refine Or.inr (Or.inr ⟨by omega,by omega,_,zad hlt,?_⟩);cases hc:s.ws[(n-1).toNat].ed
  ·rw[hc]at h;simp at h
  ·rfl
theorem eP(h:bF s n=some m):1<=n/\n<=s.ws.length/\s.ws[(n-1).toNat]?=some m/\m.ed=false:=by
 unfold bF at h;split at h
 ·cases h
 ·rename_i hb;have hlt:(n-1).toNat<s.ws.length:=by omega
  rw[zad hlt]at h;simp only at h;split at h
  ·cases h
  ·rename_i hc;cases h;exact⟨by omega,by omega,zad hlt,by simpa using hc⟩
theorem jW(hm:s.ws[i]?=some m)(hc:m.ed=false):bF s ((i:Int)+1)=some m:=by have hi:=aE hm;unfold bF;rw[if_neg (by omega),show ((i:Int)+1-1).toNat=i from by omega,hm];simp[hc]
theorem lC(hi:i<s.ws.length)(hc:m.ed=false):bF (setAt s i m) ((i:Int)+1)=some m:=
 jW (by simp[setAt,hi]) hc
theorem gy(hn:n≠(i:Int)+1):bF (setAt s i m) n=bF s n:=by
 unfold bF setAt;simp only[List.length_set];split
 ·rfl
 ·rw[List.getElem?_set_ne (by omega)]
theorem jJ{j:Nat}(h:(setAt s i m').ws[j]?=some m):(i=j/\m=m')\/(i≠j/\s.ws[j]?=some m):=jU h
theorem FF(hm:s.ws[i]?=some m)(hc:m.ed=false)(Ay:m'.ed=false):cL (setAt s i m') A=cL s A:=by
 funext kl;cases kl with
 |int k n=>
  cases k<;>try rfl
  simp only[cL];by_cases e:n=(i:Int)+1
  ·rw[e,lC (aE hm) Ay,jW hm hc]
  ·rw[gy e]
 |_=>rfl
theorem aW.wY(h:aW w τ aD b s A)(hm:s.ws[i]?=some m)(hc:m.ed=false)(hit:m'.items=m.items)(Ay:m'.ed=false)
 (afM:∀q,m.comm q=true->m'.comm q=true) (Kc:∀q,m'.comm q=true->m'.dL q=true) (Z3:∀q:Nat,m'.dL q=true->az s.parts m.items q=true) {w':World} {L5:Nat->List UInt8->Nat}
 (hsame:∀k,k<w.heap.size->(∀q,q<s.parts->k≠A.kb q/\k≠A.vb q/\(az s.parts m.items q=true->k≠A.sh i q))->w'.heap[k]?=w.heap[k]?)
 (hk:∀q,q<s.parts->aK w' prog 3 (A.kb q) (bE (setAt s i m') A q))
 (hv:∀q,q<s.parts->aK w' prog 9 (A.vb q) (C8 {A with vis:=L5} q)) (hvo:∀q,q<s.parts->Kk (setAt s i m') q (L5 q))
 (hs:∀q:Nat,az s.parts m.items q=true->aT w' (A.sh i q) #[ptr (A.pb q),.int .i64 (bD m' q),if m'.dL q then dV else A.iv i q] 174):
 aW w' τ aD b (setAt s i m') {A with vis:=L5}:=by
 have hi:=aE hm;have hbd:∀q:Nat,az s.parts m.items q=true->q<s.parts:=fun q ho=>by have:=(dw (by have:=h.ok.p1;omega) ho).2;omega
 have hne:∀{k a c:Nat},τ k=(aD,a,c)->a≠3->a≠4->(a=8->∀q,q<s.parts->c≠i*4+q)->k<w.heap.size->w'.heap[k]?=w.heap[k]? :=by
  intro k a c ht h3 h4 h8 tu;refine hsame k tu (fun q hq=>⟨fun e=>?_,fun e=>?_,fun ho e=>?_⟩)
  ·have:=h.cC q hq;rw[<-e,ht]at this;simp at this;omega
  ·have:=h.eZ q hq;rw[<-e,ht]at this;simp at this;omega
  ·have:=h.cG i m q hm hc ho;rw[<-e,ht]at this;simp at this;exact h8 this.1 q hq this.2
 have HY:=h.ok.p4;have afN:∀{j:Nat} {mj mj':MW},mj'.items=mj.items->bL (setAt s i m') A j mj'=bL s A j mj:=by
  intro j mj mj' e;funext kl;cases kl with
  |int k n=>cases k<;>first|rfl|(simp only[bL,e];rfl)
  |_=>rfl
 have dK:∀{j:Nat} {mj:MW},(setAt s i m').ws[j]?=some mj->∃mo,s.ws[j]?=some mo/\mj.items=mo.items/\(mj.ed=false->mo.ed=false)/\(i≠j->mj=mo):=by
  intro j mj hj;rcases jJ hj with⟨rfl,rfl⟩|⟨e,hj'⟩
  ·exact⟨m,hm,hit,fun _=>hc,fun e=>absurd rfl e⟩
  ·exact⟨mj,hj',rfl,id,fun _=>rfl⟩
 refine⟨⟨h.ok.p1,h.ok.p4,by simpa[setAt]using h.ok.len,fun j mj hj=>?_,h.ok.keys,h.ok.opn⟩,⟨fun j mj q hj=>?_,fun j mj q hj=>?_,fun j mj q hj=>?_⟩,?_,?_,h.tag,?_,h.eI,fun q hq=>?_,h.cS,hk,h.cC,hv,h.eZ,hvo,?_,h.iU,fun j mj hj ep=>?_,fun j mj hj ep=>?_,fun j mj hj ep=>?_,fun j mj hj ep=>?_,fun j mj q hj ep ho=>?_,fun j mj q hj ep ho=>?_,fun j mj q hj ep ho=>?_,fun j mj q k hj ep ho=>?_,h.reads.frame (fun k hk h1 JQ=>⟨hne (a:=(τ k).2.1) (c:=(τ k).2.2) (by rw[<-h1]) (by omega) (by omega) (by omega) hk,rfl⟩),fun j mj hj=>?_⟩
 ·obtain⟨mo,ho,e,_⟩:=dK hj;rw[e];exact h.ok.items j mo ho
 ·intro hcm;rcases jJ hj with⟨rfl,rfl⟩|⟨_,hj'⟩
  ·exact Kc q hcm
  ·exact h.inv.cp j mj q hj' hcm
 ·intro Up;rcases jJ hj with⟨rfl,rfl⟩|⟨_,hj'⟩
  ·rw[hit];exact Z3 q Up
  ·exact h.inv.po j mj q hj' Up
 ·intro hcm;rcases jJ hj with⟨rfl,rfl⟩|⟨_,hj'⟩
  ·rw[Ay]at hcm;cases hcm
  ·exact h.inv.cc j mj q hj' hcm
 ·refine h.told.ws rfl rfl rfl rfl (fun j mj hj=>by obtain⟨mo,ho,_⟩:=dK hj;exact h.told.sv j mo ho) (fun j mj hj=>?_);by_cases e:i=j
  ·subst e;rw[hm]at hj;cases hj;exact⟨m',by simp[setAt,hi],hit,afM,rfl⟩
  ·exact⟨mj,by simp only[setAt];rw[List.getElem?_set_ne e];exact hj,rfl,fun _ hq=>hq,rfl⟩
 ·have:=h.blk.of_eq (hne h.tag (by omega) (by omega) (by omega) h.blk.lt);simpa[setAt]using this
 ·exact ak h.cD (fun k hk=>hne (h.eI k hk) (by omega) (by omega) (by omega) (aR h.cD k hk).2)
 ·exact(h.part q hq).of_eq (hne (h.cS q hq) (by omega) (by omega) (by omega) (h.part q hq).lt)
 ·have:cL (setAt s i m') {A with vis:=L5}=cL s A:=FF (A:=A) hm hc Ay;rw[this];exact h.sC.of_eq (hne h.iU (by omega) (by omega) (by omega) h.sC.lt)
 ·obtain⟨mo,ho,_,ec,_⟩:=dK hj;have hb:=h.wr j mo ho (ec ep);exact hb.of_eq (hne (h.fB j mo ho (ec ep)) (by omega) (by omega) (by omega) hb.lt)
 ·obtain⟨mo,ho,_,ec,_⟩:=dK hj;exact h.fB j mo ho (ec ep)
 ·obtain⟨mo,ho,e,ec,_⟩:=dK hj;have:bL (setAt s i m') {A with vis:=L5} j mj=bL s A j mo:=afN e;rw[this];have hb:=h.Pd j mo ho (ec ep);exact hb.of_eq (hne (h.jh j mo ho (ec ep)) (by omega) (by omega) (by omega) hb.lt)
 ·obtain⟨mo,ho,_,ec,_⟩:=dK hj;exact h.jh j mo ho (ec ep)
 ·obtain⟨mo,hmo,e,ec,en⟩:=dK hj;rw[e]at ho;by_cases Nh:i=j
  ·subst Nh;rw[hm]at hmo;cases hmo;rcases jJ hj with⟨_,rfl⟩|⟨e',_⟩
   ·exact hs q ho
   ·exact absurd rfl e'
  ·rw[en Nh];rw[en Nh]at ep;have hb:=h.sh j mo q hmo ep ho;refine hb.of_eq (hne (h.cG j mo q hmo ep ho) (by omega) (by omega) (fun _ q' fU e'=>?_) hb.lt);have hq1:=(dw (n:=(s.parts:Int)) (by have:=h.ok.p1;omega) ho).2;omega
 ·obtain⟨mo,hmo,e,ec,_⟩:=dK hj;rw[e]at ho;exact h.cG j mo q hmo (ec ep) ho
 ·obtain⟨mo,hmo,e,ec,_⟩:=dK hj;rw[e]at ho;rw[e];have hr:=h.it j mo q hmo (ec ep) ho;exact ak hr (fun k hk=>hne (h.fA j mo q k hmo (ec ep) ho hk) (by omega) (by omega) (by omega) (aR hr k hk).2)
 ·obtain⟨mo,hmo,e,ec,_⟩:=dK hj;rw[e]at ho;exact h.fA j mo q k hmo (ec ep) ho
 ·obtain⟨mo,hmo,e,_,_⟩:=dK hj;rw[e];exact(h.La j mo hmo).of fun k hk ht=>⟨hne ht (by omega) (by omega) (by omega) hk,rfl⟩
end
end
section
open Go Go.RowKit Go.MuLone
open Go.Maps (Keyed)
def jI:List Lit:=(List.range 201).map (fun(i:Nat)=>Lit.int .i64 (i:Int))
theorem pR(h:0<=n)(h':n<=200):Lit.int .i64 n∈jI:=by unfold jI;refine List.mem_map.2 ⟨n.toNat,List.mem_range.2 (by omega),?_⟩;rw[Int.toNat_of_nonneg h]
theorem pS:jI.length<maxLen:=by unfold jI maxLen;simp
section
variable {w:World}{τ:Nat->Tag}{aD b:Nat}{s:MS}{A:SA}
theorem IJ(hlen:s.ws.length<=200)(q:Nat):∀kl,bE s A q kl≠none->kl∈jI:=by
 intro kl h;cases kl with
 |int k n=>
  cases k<;>try exact absurd rfl h
  simp only[bE]at h;cases hf:bF s n with
  |none=>rw[hf]at h;exact absurd rfl h
  |some m=>obtain⟨h1,h2,_⟩:=eP hf;exact pR (by omega) (by omega)
 |_=>exact absurd rfl h
def oH(w:World)(τ:Nat->Tag)(aD b:Nat)(r:Int×MS)(e:Ending)(w':World):Prop:=
 ∃A',e=.returned (.int .i64 r.1)/\aW w' τ aD b r.2 A'/\Stp aD τ w τ w'
theorem IK(hm:s.ws[i]?=some m)(hc:m.ed=false)(q q':Nat):
 bE (setAt s i {m with dL:=put m.dL q}) A q'=if q'=q then upd (bE s A q) (.int .i64 ((i:Int)+1)) (.agg #[A.iv i q,A.sv i])else bE s A q':=by
 have hi:=aE hm;funext kl;cases kl with
 |int k n=>
  by_cases ek:k=.i64
  ·subst ek;by_cases e:n=(i:Int)+1
   ·subst e;have h1:bF (setAt s i {m with dL:=put m.dL q}) ((i:Int)+1)=some {m with dL:=put m.dL q}:=lC hi hc;by_cases eq:q'=q
    ·subst eq;simp only[if_true];rw[upd_same (by trivial)];simp only[bE,h1,put,if_true];rw[show ((i:Int)+1-1).toNat=i from by omega]
    ·simp only[if_neg eq,bE,h1,jW hm hc,put]
   ·have h1:bF (setAt s i {m with dL:=put m.dL q}) n=bF s n:=gy e;by_cases eq:q'=q
    ·subst eq;simp only[if_true];rw[fN (by intro e';injection e';omega)];simp only[bE,h1]
    ·simp only[if_neg eq,bE,h1]
  ·have hno:∀(s:MS) (q:Nat),bE s A q (.int k n)=none:=fun s q=>by cases k<;>first|rfl|exact absurd rfl ek
   by_cases eq:q'=q
   ·subst eq;simp only[if_true];rw[fN (by intro e';injection e' with e1 e2;exact ek e1),hno,hno]
   ·rw[if_neg eq,hno,hno]
 |_=>
  by_cases eq:q'=q
  ·subst eq;simp only[if_true];rw[fN (by intro e';cases e')];rfl
  ·rw[if_neg eq];rfl
theorem og{s':MS}{q:Nat}(h:Kk s q v)(hp:s'.parts=s.parts)
 (h1:∀(i:Nat) (m:MW),s.ws[i]?=some m->m.comm q=true->∃m',s'.ws[i]?=some m'/\m'.comm q=true/\m'.items=m.items)
 (h2:∀(i:Nat) (m':MW),s'.ws[i]?=some m'->m'.comm q=true->∃m,s.ws[i]?=some m/\m.comm q=true/\m'.items=m.items):Kk s' q v:=by
 refine⟨fun l hl=>?_,fun i m' x hm hc hx hq=>?_⟩
 ·obtain⟨m,hm,hc,x,hx,e⟩:=h.seen l hl;obtain⟨m',hm',Ay,hi⟩:=h1 _ m hm hc;exact⟨m',hm',Ay,x,by rw[hi];exact hx,by rw[hp];exact e⟩
 ·obtain⟨m,hm0,hc0,hi⟩:=h2 i m' hm hc;exact h.top i m x hm0 hc0 (by rw[<-hi];exact hx) (by rw[<-hp];exact hq)
theorem aW.dL(h:aW w τ aD b s A){i:Nat}{m:MW}(hm:s.ws[i]?=some m)(hc:m.ed=false){q:Nat}(ho:az s.parts m.items q=true)(hnp:m.dL q=false){w':World}
 (hsame:∀k,k≠A.kb q->k≠A.sh i q->w'.heap[k]?=w.heap[k]?)
 (hk:aK w' prog 3 (A.kb q) (upd (bE s A q) (.int .i64 ((i:Int)+1)) (.agg #[A.iv i q,A.sv i])))
 (hs:aT w' (A.sh i q) #[ptr (A.pb q),.int .i64 1,dV] 174):
 aW w' τ aD b (setAt s i {m with dL:=put m.dL q}) A:=by
 have hp1:=h.ok.p1;have hq:q<s.parts:=by have:=(dw (by omega) ho).2;omega
 have Wu:m.comm q=false:=by
  cases Ee:m.comm q
  ·rfl
  ·rw[h.inv.cp i m q hm Ee]at hnp;cases hnp
 have hkn:∀q',q'<s.parts->q'≠q->A.kb q'≠A.kb q:=fun q' fU hne e=>by have h1:=h.cC q' fU;rw[e,h.cC q hq]at h1;simp at h1;omega
 have hks:∀q',q'<s.parts->A.kb q'≠A.sh i q:=fun q' fU e=>by have h1:=h.cC q' fU;rw[e,h.cG i m q hm hc ho]at h1;simp at h1
 have hvk:∀q',q'<s.parts->A.vb q'≠A.kb q/\A.vb q'≠A.sh i q:=fun q' fU=>⟨fun e=>by
  have h1:=h.eZ q' fU;rw[e,h.cC q hq]at h1;simp at h1,fun e=>by have h1:=h.eZ q' fU;rw[e,h.cG i m q hm hc ho]at h1;simp at h1⟩
 refine h.wY (m':={m with dL:=put m.dL q}) (L5:=A.vis) hm hc rfl hc (fun _ hq=>hq) (fun q' fU=>?_) (fun q' fU=>?_) (fun k _ hne=>?_) (fun q' fU=>?_) (fun q' fU=>?_) (fun q' fU=>?_) (fun q' ho'=>?_)
 ·show put m.dL q q'=true;unfold put;split
  ·rfl
  ·exact h.inv.cp i m q' hm fU
 ·have G2:put m.dL q q'=true:=fU;unfold put at G2;split at G2
  ·rename_i e;rw[e];exact ho
  ·exact h.inv.po i m q' hm G2
 ·exact hsame k (hne q hq).1 ((hne q hq).2.2 ho)
 ·rw[IK hm hc];split
  ·rename_i e;subst e;exact hk
  ·rename_i e;exact(h.kept q' fU).of_eq (hsame _ (hkn q' fU e) (hks q' fU))
 ·exact(h.tH q' fU).of_eq (hsame _ (hvk q' fU).1 (hvk q' fU).2)
 ·refine og (h.l6 q' fU) rfl (fun j mj hj ep=>?_) (fun j mj hj ep=>?_)
  ·by_cases e:i=j
   ·subst e;rw[hm]at hj;cases hj;exact⟨{m with dL:=put m.dL q},by simp[setAt,aE hm],ep,rfl⟩
   ·exact⟨mj,by simp[setAt,e,hj],ep,rfl⟩
  ·rcases jJ hj with⟨rfl,rfl⟩|⟨_,hj'⟩
   ·exact⟨m,hm,ep,rfl⟩
   ·exact⟨mj,hj',ep,rfl⟩
 ·by_cases e:q'=q
  ·subst e;simpa[bD,put,Wu]using hs
  ·have hb:=h.sh i m q' hm hc ho';have G2:q'<s.parts:=by have:=(dw (by omega) ho').2;omega
   have:aT w' (A.sh i q') _ _:=hb.of_eq (hsame _ (fun e'=>by
    have h1:=h.cG i m q' hm hc ho';rw[e',h.cC q hq]at h1;simp at h1) (fun e'=>by have h1:=h.cG i m q' hm hc ho';rw[e',h.cG i m q hm hc ho]at h1;simp at h1;omega))
   simpa[bD,put,e]using this
theorem Fw(h:aW w τ aD b s A)(n:Int)(m:MW)(hf:bF s n=some m)(p:Int)(hp: -9223372036854775808<=p)(rR:p<=9223372036854775807):
 Calls prog 53 #[ptr (A.pw (n-1).toNat),.int .i64 p] w (oH w τ aD b (ez s n p)):=by
 obtain⟨h1,h2,hm,hc⟩:=eP hf;have hlen:=h.ok.len;have hp1:=h.ok.p1;have HY:=h.ok.p4;obtain⟨i,hi⟩:∃i:Nat,n=(i:Int)+1:=⟨(n-1).toNat,by omega⟩
 subst hi;rw[show ((i:Int)+1-1).toNat=i from by omega]at hm⊢;have hW:=h.wr i m hm hc;have c0:w.cell? ⟨A.pw i,0,none⟩=some (.int .i32 0):=hW.cell (o:=0) rfl;have f0:=hW.frozen 0;have eF:=gm hW (o:=0) rfl (.int .i32 1);have L6:A.sm i≠A.pw i:=fun e=>by have h1:=h.jh i m hm hc;rw[e,h.fB i m hm hc]at h1;simp at h1
 have l7:=hW.set 0 (.int .i32 1);have d3:(w.setCell ⟨A.pw i,0,none⟩ (.int .i32 1)).cell? ⟨A.pw i,4,none⟩=some (.bool false):=l7.cell (o:=4) rfl;have d4:(w.setCell ⟨A.pw i,0,none⟩ (.int .i32 1)).cell? ⟨A.pw i,5,none⟩=some (.map (some (A.sm i))):=l7.cell (o:=5) rfl;have mU:aK (w.setCell ⟨A.pw i,0,none⟩ (.int .i32 1)) prog 3 (A.sm i) (bL s A i m):=(h.Pd i m hm hc).of_eq (zaa _ _ _ _ L6);have cs:=wz (s:=s) (A:=A) (A.pw i) (A.sm i) i m p _ hp rR d3 d4 mU;cases ho:az s.parts m.items p with
 |false=>
  have Hr:Hid (ez s ((i:Int)+1) p=(8,s)):=by unfold Hid ez;rw[hf];simp[ho]
  have hv:eV s A i m p=(.pointer none,8):=by unfold eV;rw[ho];rfl
  rw[hv]at cs;unfold ptr at cs⊢;unfold fy at eF;clear ho hv hf;go_enter_defers func53,ntmps53;go_wp2_with fail
  refine(lock_free Tryz.a9 ⟨A.pw i,0,none⟩ _ c0 f0).mono ?_;rintro e w' ⟨rfl,rfl⟩;go_wp2_with fail
  refine cs.mono ?_;rintro e w' ⟨rfl,rfl⟩;go_wp2_with fail
  refine leaves_cons (f:=38) (args:=#[.pointer (some ⟨A.pw i,0,none⟩)]) (by simp) (by simp[go_sem]) ?_;refine(unlock_deferred Tryz.a9 ⟨A.pw i,0,none⟩ .returning _ (l7.cell (o:=0) rfl) (l7.frozen 0)).mono ?_;rintro e u' w'' ⟨rfl,rfl,rfl⟩;rw[Hr.out];exact⟨_,results_tmp rfl _ _ _,A,rfl,h.same eF,eF.nG _ _⟩
 |true=>
  obtain⟨hb0,iR⟩:=dw (by omega) ho;obtain⟨q,rfl⟩:=zai hb0;have hq:q<s.parts:=by omega
  have hv:eV s A i m q=(.pointer (some ⟨A.sh i q,0,none⟩),0):=by unfold eV;rw[ho];rfl
  rw[hv]at cs;have hS:=h.sh i m q hm hc ho;have rA:A.sh i q≠A.pw i:=fun e=>by have h1:=h.cG i m q hm hc ho;rw[e,h.fB i m hm hc]at h1;simp at h1
  have oN:aT (w.setCell ⟨A.pw i,0,none⟩ (.int .i32 1)) (A.sh i q) _ _:=hS.of_eq (zaa _ _ _ _ rA);cases hpq:m.dL q with
  |true=>
   have Hr:Hid (ez s ((i:Int)+1) q=(10,s)):=by unfold Hid ez;rw[hf];simp[ho,hpq]
   have hst:(bD m q != 0)=true:=by unfold bD;rw[hpq];cases m.comm q<;>rfl
   have e1:(w.setCell ⟨A.pw i,0,none⟩ (.int .i32 1)).cell? ⟨A.sh i q,1,none⟩=some (.int .i64 (bD m q)):=oN.cell (o:=1) rfl;unfold ptr at cs⊢;unfold fy at eF;clear ho hv hf hpq;go_enter_defers func53,ntmps53;go_wp2_with fail
   refine(lock_free Tryz.a9 ⟨A.pw i,0,none⟩ _ c0 f0).mono ?_;rintro e w' ⟨rfl,rfl⟩;go_wp2_with fail
   refine cs.mono ?_;rintro e w' ⟨rfl,rfl⟩;go_wp2_with fail
   refine leaves_cons (f:=38) (args:=#[.pointer (some ⟨A.pw i,0,none⟩)]) (by simp) (by simp[go_sem]) ?_;refine(unlock_deferred Tryz.a9 ⟨A.pw i,0,none⟩ .returning _ (l7.cell (o:=0) rfl) (l7.frozen 0)).mono ?_;rintro e u' w'' ⟨rfl,rfl,rfl⟩;rw[Hr.out];exact⟨_,results_tmp rfl _ _ _,A,rfl,h.same eF,eF.nG _ _⟩
  |false=>
   have Hr:Hid (ez s ((i:Int)+1) q=(0,setAt s i {m with dL:=put m.dL q})):=by unfold Hid ez;rw[hf];simp only[ho,hpq,C1,Int.toNat_natCast];rw[show ((i:Int)+1-1).toNat=i from by omega];rfl
   have hst:bD m q=0:=by
    unfold bD;rw[hpq];cases Ee:m.comm q
    ·rfl
    ·rw[h.inv.cp i m q hm Ee]at hpq;cases hpq
   rw[hst,hpq]at hS oN;have hWb:=hW;have afl:=hpq;generalize hW:w.setCell ⟨A.pw i,0,none⟩ (.int .i32 1)=w1 at *;have e0:w1.cell? ⟨A.sh i q,0,none⟩=some (.pointer (some ⟨A.pb q,0,none⟩)):=oN.cell (o:=0) rfl;have e1:w1.cell? ⟨A.sh i q,1,none⟩=some (.int .i64 0):=oN.cell (o:=1) rfl;have e2:w1.cell? ⟨A.sh i q,2,none⟩=some (A.iv i q):=oN.cell (o:=2) rfl;have d2:w1.cell? ⟨A.pw i,2,none⟩=some (.int .i64 ((i:Int)+1)):=l7.cell (o:=2) rfl;have d9:w1.cell? ⟨A.pw i,3,none⟩=some (A.sv i):=l7.cell (o:=3) rfl;have afm:=h.told.sv i m hm;have afn:∃a l c,A.iv i q=.slice a l c:=by obtain⟨a,cap,e⟩:=gH (h.it i m q hm hc ho);exact⟨a,_,cap,e⟩
   have Ej:=h.cC q hq;have hks:A.sh i q≠A.kb q:=fun e=>by have h1:=h.cG i m q hm hc ho;rw[e,Ej]at h1;simp at h1
   have yc:A.pw i≠A.kb q:=fun e=>by have h1:=h.fB i m hm hc;rw[e,Ej]at h1;simp at h1
   have hpw:A.pb q≠A.pw i:=fun e=>by have h1:=h.cS q hq;rw[e,h.fB i m hm hc]at h1;simp at h1
   have Rk:aT w1 (A.pb q) _ _:=(h.part q hq).of_eq (by rw[<-hW];exact zaa _ _ _ _ hpw);have hKM:aK w1 prog 3 (A.kb q) (bE s A q):=(h.kept q hq).of_eq (by rw[<-hW];exact zaa _ _ _ _ (fun e=>yc e.symm));have hn1: -9223372036854775808<=(i:Int)+1:=by omega
   have hn2:(i:Int)+1<=9223372036854775807:=by omega
   unfold ptr at cs⊢;clear hv hf hpq hst;go_enter_defers func53,ntmps53;go_wp2_with fail
   refine(lock_free Tryz.a9 ⟨A.pw i,0,none⟩ _ c0 f0).mono ?_;rintro e w' ⟨rfl,rfl⟩;rw[hW];go_wp2_with fail
   refine cs.mono ?_;rintro e w' ⟨rfl,rfl⟩;go_wp2_with fail
   go_region_held3 (fun W=>W.cell? ⟨A.sh i q,0,none⟩=some (.pointer (some ⟨A.pb q,0,none⟩))/\W.cell? ⟨A.sh i q,2,none⟩=some (A.iv i q)/\W.cell? ⟨A.pw i,2,none⟩=some (.int .i64 ((i:Int)+1))/\W.cell? ⟨A.pw i,3,none⟩=some (A.sv i)) (simp[*]) ((go_at_call 91;refine(PG (A.pb q) (A.kb q) (A.vb q) (bE s A q) (by exact Rk) (by exact hKM) jI (IJ hlen q) pS _ hn1 hn2 _ _ afn afm).mono ?_;rintro e w2 ⟨rfl,xd,dP⟩;have fE:=oN.of_eq (dP.block _ hks);have sD:=l7.of_eq (dP.block _ yc);have k0:=fE.cell (o:=0) (v:=.pointer (some ⟨A.pb q,0,none⟩)) rfl;have k2:=fE.cell (o:=2) (v:=A.iv i q) rfl;have k1:=sD.cell (o:=2) (v:=.int .i64 ((i:Int)+1)) rfl;have k9:=sD.cell (o:=3) (v:=A.sv i) rfl))
   have k3:=fE.cell (o:=1) (v:=.int .i64 0) rfl;have f1:=fE.frozen 1;have f2:=fE.frozen 2;go_wp2_with fail
   have Rg:=(fE.set 1 (.int .i64 1)).set 2 (.slice none 0 0);have wy:aT ((w2.setCell ⟨A.sh i q,1,none⟩ (.int .i64 1)).setCell ⟨A.sh i q,2,none⟩ (.slice none 0 0)) (A.pw i) _ _:=sD.of_eq ((zaa _ _ _ _ (fun e=>rA e.symm)).trans (zaa _ _ _ _ (fun e=>rA e.symm)));refine leaves_cons (f:=38) (args:=#[.pointer (some ⟨A.pw i,0,none⟩)]) (by simp) (by simp[go_sem]) ?_;refine(unlock_deferred Tryz.a9 ⟨A.pw i,0,none⟩ .returning _ (wy.cell (o:=0) rfl) (wy.frozen 0)).mono ?_;rintro e u' w'' ⟨rfl,rfl,rfl⟩;rw[Hr.out];have hall:∀k,(k≠A.kb q/\k≠A.sh i q)->(((w2.setCell ⟨A.sh i q,1,none⟩ (.int .i64 1)).setCell ⟨A.sh i q,2,none⟩ (.slice none 0 0)).setCell ⟨A.pw i,0,none⟩ fy).heap[k]?=w.heap[k]? :=
    eW hWb rfl (v:=.int .i32 1) (fun k hk=>by rw[zaa _ _ _ _ hk.2,zaa _ _ _ _ hk.2,hW];exact dP.block k hk.1)
   refine⟨_,results_tmp rfl _ _ _,A,rfl,?_,?_⟩
   ·exact h.dL hm hc ho afl (fun k h1 h2=>hall k ⟨h1,h2⟩) (xd.of_eq ((zaa _ _ _ _ (fun e=>yc e.symm)).trans ((zaa _ _ _ _ (fun e=>hks e.symm)).trans (zaa _ _ _ _ (fun e=>hks e.symm)))))
     (Rg.of_eq (zaa _ _ _ _ rA))
   ·refine⟨dP.os.trans (by rw[<-hW];rfl),dP.tape.trans (by rw[<-hW];rfl),dP.output.trans (by rw[<-hW];rfl),?_,fun _ _=>rfl,fun k _ hk=>hall k ⟨fun e=>hk (by rw[e,Ej]),fun e=>hk (by rw[e,h.cG i m q hm hc ho])⟩⟩;have:=dP.size;rw[show w'.drew.heap.size=w.heap.size from by rw[<-hW];simp[World.setCell]]at this;simp[World.setCell,this]
theorem EN(h:aW w τ aD b s A)(n p:Int)(hn: -9223372036854775808<=n)(hn':n<=9223372036854775807)(hp: -9223372036854775808<=p)(rR:p<=9223372036854775807):
 Calls prog 29 #[ptr b,.int .i64 n,.int .i64 p] w (oH w τ aD b (ez s n p)):=by
 have c:=yU h n hn hn';cases hf:bF s n with
 |none=>
  have Hr:Hid (ez s n p=(7,s)):=by unfold Hid ez;rw[hf]
  have hv:eT s A n=(.pointer none,false):=by unfold eT;rw[hf]
  rw[hv]at c;unfold ptr at c⊢;clear hf hv;go_enter func29,ntmps29;go_wp2_with fail
  refine c.mono ?_;rintro e w1 ⟨rfl,hS⟩;go_wp2_with fail
  go_ret;rw[Hr.out];exact⟨A,rfl,h.same hS,hS.nG _ _⟩
 |some m=>
  have hv:eT s A n=(ptr (A.pw (n-1).toNat),true):=by unfold eT;rw[hf]
  rw[hv]at c;have c2:∀w1,u6 w w1->Calls prog 53 #[ptr (A.pw (n-1).toNat),.int .i64 p] w1 (oH w1 τ aD b (ez s n p)):=fun w1 hS=>Fw (h.same hS) n m hf p hp rR;generalize (n-1).toNat=j at c c2;unfold ptr at c c2⊢;clear hf hv;go_enter func29,ntmps29;go_wp2_with fail
  refine c.mono ?_;rintro e w1 ⟨rfl,hS⟩;have c3:=c2 w1 hS;clear c c2;go_wp2_with fail
  refine c3.mono ?_;rintro e w2 ⟨A',rfl,hR,hT⟩;go_wp2_with fail
  go_ret;exact⟨A',rfl,hR,(hS.nG _ _).trans hT⟩
end
end
section
open Go Go.RowKit Go.MuLone
open Go.Maps (Keyed)
theorem tK(w:World){ops:Array Oper}{rest:List Oper}{o:Oper}{a:Act}{Q:Exit->Act->World->Prop}(hg:o.guard=none)(it:Operand)(hop:o.op=Op.next it false)(k:TypeId)(K:Keyed P k)(hk:P.underlying k=some (.int .i64))
 (b r n:Nat) (D:DataW Value) (f:Lit->Option Value) (hs:Says D f) (g:Int->Nat) (p:Int->Prop) (hf:∀x u,f (.int .i64 x)=some u->u=.pointer (some ⟨g x,0,none⟩)/\p x) (left:Lit->Bool) (cnt:Nat)
 (hit:a.eval it=.pointer (some ⟨r,0,none⟩)) (h:w.ranges P k aL b r n D left cnt)
 (hDone:(∀kl,left kl=false)->wpList P ops Q rest (a.put o.dst (.tuple #[.bool false])) w)
 (hMore:∀(x:Int) (w':World) (cnt':Nat),p x->left (.int .i64 x)=true->w'.ranges P k aL b r n D (fun z=>left z && !z.sameKey (.int .i64 x)) cnt'->cnt'<cnt->w.grownBy w' (some r)->w'.heap.size=w.heap.size->
   (Instr.entry (.pointer (some ⟨r,0,none⟩))).run P w'=.ok (.tuple #[.int .i64 x,.pointer (some ⟨g x,0,none⟩)]) w'->wpList P ops Q rest (a.put o.dst (.tuple #[.bool true,.int .i64 x,.pointer (some ⟨g x,0,none⟩)])) w'):
 wpList P ops Q (o :: rest) a w:=by
 refine wpList_plain hg fun K' hK'=>?_;unfold Oper.wp;rcases h.next K o.type with⟨h0,hl,hrun⟩|⟨key,v,kl,y,w',cnt',hkey,hlk,hv,hat,hrun,lm,hlt,TU,hsz,q9⟩
 ·simp[execOp,hop,hit,hrun,Result.andThen];exact hK' _ _ (hDone hl)
 ·obtain⟨x,rfl,rfl,_⟩:=Maps.keyOf_int_inv hk hkey;simp only[aL,Option.some.injEq]at hv;subst hv;have hh:=Maps.has_true_of_atKey hat;rw[hs.2]at hh;obtain⟨u,hu⟩:=Option.isSome_iff_exists.1 hh;have e1:=(hs.1 _ u hu .nil).symm.trans (hat .nil);injection e1 with e1;subst e1;obtain⟨rfl,hp⟩:=hf x _ hu;simp[execOp,hop,hit,hrun,Result.andThen];exact hK' _ _ (hMore x w' cnt' hp hlk lm hlt TU hsz q9)
def ji(s:MS)(m:MW)(at_:Int):Bool:=(List.range s.parts).any (fun q=>az s.parts m.items q &&(bD m q == at_))
theorem mH{c:Int}{q:Nat}(hq:q<s.parts)(ho:az s.parts m.items q=true)(h:bD m q=c):ji s m c=true:=by simp only[ji,List.any_eq_true,List.mem_range];exact⟨q,hq,by simp[ho,h]⟩
theorem lE{c:Int}(h:∀q,q<s.parts->az s.parts m.items q=true->bD m q≠c):ji s m c=false:=by
 simp only[ji,List.any_eq_false,List.mem_range];intro q hq;cases ho:az s.parts m.items q
 ·simp
 ·simpa using h q hq ho
section
variable {w:World}{τ:Nat->Tag}{aD b:Nat}{s:MS}{A:SA}
theorem BS(i:Nat)(m:MW)(c:Int)(hp1:1<=s.parts)(c4:w.cell? ⟨A.pw i,5,none⟩=some (.map (some (A.sm i))))(hM:aK w prog 3 (A.sm i) (bL s A i m))
 (hS:∀q:Nat,q<s.parts->az s.parts m.items q=true->w.cell? ⟨A.sh i q,1,none⟩=some (.int .i64 (bD m q))):
 Calls prog 89 #[ptr (A.pw i),.int .i64 c] w fun e w'=>e=.returned (.bool (ji s m c))/\Below w.heap.size w w':=by
 obtain⟨n,D,hown,hs⟩:=hM;have hf:∀x u,bL s A i m (.int .i64 x)=some u->u=.pointer (some ⟨A.sh i x.toNat,0,none⟩)/\(0<=x/\x<s.parts/\az s.parts m.items x=true):=by
  intro x u hu;simp only[bL]at hu;split at hu
  ·rename_i ho;cases hu;exact⟨rfl,(dw (by omega) ho).1,(dw (by omega) ho).2,ho⟩
  ·cases hu
 have h0:∀q:Nat,q<s.parts->az s.parts m.items q=true->Maps.has D (.int .i64 q)=true:=by intro q hq ho;rw[hs.2];simp[bL,ho]
 unfold ptr;go_enter func89,ntmps89;go_wp2_with (at_range;refine wpList_range_own _ rfl _ 162 rfl 3 168 eD underlying162 aL (A.sm i) n D rfl hown ?_;intro w0 tC Aq hs0)
 go_frame
 go_loopw [6] (fun _ wr=>∃left cnt,wr.ranges prog 3 aL (A.sm i) w.heap.size n D left cnt/\Below w.heap.size w wr/\w.heap.size<wr.heap.size/\Hid (∀q:Nat,q<s.parts->az s.parts m.items q=true->left (.int .i64 q)=true\/bD m q≠c)) (fun _ wr=>wr.rangeLeft (A.sm i) w.heap.size)
 case atStart=>
  exact⟨_,_,tC,(Below.refl _ _).grown Aq (zac _) (fun k e=>by cases e),by omega,fun q hq ho=>Or.inl (h0 q hq ho)⟩
 case round=>
  obtain⟨left,cnt,lm,hB,hsz,HL⟩:=hrel;go_wp2_with (at_next;refine tK _ rfl _ rfl 3 eD underlying3 (A.sm i) w.heap.size n D (bL s A i m) hs (fun x=>A.sh i x.toNat) _ hf left cnt rfl lm ?_ ?_)
  ·intro hl0;have Hr:Hid (ji s m c=false):=lE (fun q hq ho=>by
    rcases HL.out q hq ho with e|e
    ·rw[hl0]at e;cases e
    ·exact e)
   clear hl0;go_wp2_with fail
   go_ret;exact⟨dH Hr.out.symm,hB⟩
  ·intro x w1 CO hx0 hx1 Rl EG uY hlt kC hs1 q9;obtain⟨q,rfl⟩:=zai hx0;simp only[Int.toNat_natCast]at q9⊢;have hq:q<s.parts:=by omega
   have iM:Below w.heap.size w w1:=hB.grown kC (by omega) (fun k e=>by cases e;exact zac _);have cq:=hS q hq Rl;have ZN:w1.cell? ⟨A.sh i q,1,none⟩=some (.int .i64 (bD m q)):=(iM.cell (p:=⟨A.sh i q,1,none⟩) (zaf w _ cq)).trans cq;have qQ:w.heap.size<w1.heap.size:=by omega
   clear cq EG;by_cases he:bD m q=c
   ·have Hr:Hid (ji s m c=true):=mH hq Rl he;have heb:(bD m q == c)=true:=beq_iff_eq.2 he;clear he Rl;go_wp2_with fail
    go_ret;exact⟨dH Hr.out.symm,iM⟩
   ·have HL':Hid (∀q':Nat,q'<s.parts->az s.parts m.items q'=true->(left (.int .i64 q')&& !(Lit.int .i64 q').sameKey (.int .i64 q))=true\/bD m q'≠c):=by
     intro q' fU ho';by_cases e:q'=q
     ·subst e;exact Or.inr he
     ·rcases HL.out q' fU ho' with e1|e1
      ·refine Or.inl ?_;rw[e1,Maps.sameKey_ne (by intro e2;injection e2 with _ e2;omega)];rfl
      ·exact Or.inr e1
    have heb:(bD m q == c)=false:=beq_eq_false_iff_ne.2 he;clear he Rl;go_wp2_with fail
    go_roundw
    case rel=>exact⟨_,_,uY,iM,qQ,HL'⟩
    case measure=>rw[uY.left_eq,lm.left_eq];omega
end
end
section
open Go Go.RowKit Go.MuLone
open Go.Maps (Keyed)
structure Fr(M:Nat->Prop)(w w':World):Prop where
 os:w'.os=w.os
 tape:w'.tape=w.tape
 output:w'.output=w.output
 size:w.heap.size<=w'.heap.size
 block:∀k,k<w.heap.size->¬M k->w'.heap[k]?=w.heap[k]?
theorem Fr.refl(M:Nat->Prop)(w:World):Fr M w w:=⟨rfl,rfl,rfl,zac _,fun _ _ _=>rfl⟩
theorem Fr.trans{M:Nat->Prop}{a b c:World}(h:Fr M a b)(g:Fr M b c):Fr M a c:=
 ⟨g.os.trans h.os,g.tape.trans h.tape,g.output.trans h.output,Nat.le_trans h.size g.size,fun k hk hm=>(g.block k (Nat.lt_of_lt_of_le hk h.size) hm).trans (h.block k hk hm)⟩
theorem Fr.drew{M:Nat->Prop}{a b:World}(h:Fr M a b):Fr M a b.drew:=⟨h.os,h.tape,h.output,h.size,h.block⟩
theorem Fr.alloc{M:Nat->Prop}{a b:World}(h:Fr M a b)(o:Obj):Fr M a (b.alloc o):=
 h.trans ⟨rfl,rfl,rfl,by simp,fun k hk _=>zab _ _ _ hk⟩
theorem Fr.setCell{M:Nat->Prop}{a b:World}(h:Fr M a b){p:Addr}(hp:M p.block)(v:Value):Fr M a (b.setCell p v):=
 h.trans ⟨rfl,rfl,rfl,by simp[World.setCell],fun k _ hm=>zaa _ _ _ _ (fun e=>hm (by rw[e];exact hp))⟩
theorem Fr.PI{b:World}(h:rz a b k)(hk:M k):Fr M a b:=⟨h.os,h.tape,h.output,Nat.le_of_eq h.size.symm,fun i _ hm=>h.block i (fun e=>hm (by rw[e];exact hk))⟩
theorem Fr.Fp{b:World}(h:Below a.heap.size a b):Fr M a b:=⟨h.os,h.tape,h.output,h.size,fun k hk _=>h.block k hk⟩
theorem Fr.of_same{b:World}(h:u6 a b):Fr M a b:=⟨h.os,h.tape,h.output,by rw[h.heap];exact zac _,fun k _ _=>by rw[h.heap]⟩
theorem Fr.blk{b:World}(h:Fr M a b){t:TypeId}(hb:aT a k c t)(hm:¬M k):aT b k c t:=hb.of_eq (h.block k hb.lt hm)
theorem Fr.map{b:World}(h:Fr M a b){t:TypeId}(hb:aK a P t k f)(hm:¬M k):aK b P t k f:=hb.of_eq (h.block k hb.lt hm)
def pY(v:List UInt8->Nat):Lit->Option Value
 |.string l=>if v l=0 then none else some (.int .i64 (v l))
 |_=>none
theorem Dc(A:SA)(q:Nat):C8 A q=pY (A.vis q):=by funext kl;cases kl<;>rfl
def cV(v:List UInt8->Nat)(n:Nat)(L:List KV):List UInt8->Nat:=fun l=>if L.any (fun x=>decide (x.1.data.toList=l))then max (v l) n else v l
theorem Fy(v:List UInt8->Nat)(n:Nat)(hn:0<n)(L:List KV)(x:KV):pY (cV v n (L++ [x]))=upd (pY (cV v n L)) (.string x.1.data.toList) (.int .i64 (max (cV v n L x.1.data.toList) n:Nat)):=by
 funext kl;by_cases e:kl=.string x.1.data.toList
 ·subst e;rw[upd_same (by trivial)];simp only[pY,cV,List.any_append,List.any_cons,decide_true,Bool.or_true,List.any_nil,Bool.or_false,if_true];cases L.any (fun y=>decide (y.1.data.toList=x.1.data.toList)) <;>simp<;>omega
 ·rw[fN e];cases kl with
  |string l=>
   have:x.1.data.toList≠l:=fun e'=>e (by rw[e']);have h1:cV v n (L++ [x]) l=cV v n L l:=by unfold cV;rw[List.any_append,List.any_cons,List.any_nil,decide_eq_false this,Bool.false_or,Bool.or_false]
   simp only[pY,h1]
  |_=>rfl
theorem IL(v:List UInt8->Nat)(n:Nat):cV v n []=v:=by funext l;simp[cV]
theorem L8{n:Nat}(hv:∀l,v l<=200)(hn:n<=200)(L:List KV)(l:List UInt8):cV v n L l<=200:=by unfold cV;have:=hv l;split<;>omega
theorem Fz{n:Nat}{SL:List Lit}(hSL:∀l,v l≠0->Lit.string l∈SL)(K:List KV)(hK:∀x∈K,x∈L):
 ∀kl,pY (cV v n K) kl≠none->kl∈SL++L.map (fun x=>Lit.string x.1.data.toList):=by
 intro kl h;cases kl with
 |string l=>
  rw[List.mem_append];by_cases hk:K.any (fun x=>decide (x.1.data.toList=l))=true
  ·rw[List.any_eq_true]at hk;obtain⟨x,hx,e⟩:=hk;exact Or.inr (List.mem_map.2 ⟨x,hK x hx,by rw[of_decide_eq_true e]⟩)
  ·refine Or.inl (hSL l (fun e0=>h ?_));simp only[pY,cV,hk,e0];rfl
 |_=>exact absurd rfl h
theorem L9(u:List UInt8->Nat)(l:List UInt8):(pY u (.string l)).getD (.int .i64 0)=.int .i64 (u l):=by
 simp only[pY];by_cases h:u l=0
 ·simp[h]
 ·simp[h]
section
variable {w:World}
theorem SP(pb kb vb:Nat)(f:Lit->Option Value)(v:List UInt8->Nat)(n:Nat)(iv sv:Value)(L:List KV)(SL:List Lit)(hb:aT w pb #[fy,gF,.map (some kb),.map (some vb)] 202)(hM:aK w prog 3 kb f)(hf:f (.int .i64 n)=some (.agg #[iv,sv]))
 (hV:aK w prog 9 vb (pY v)) (hO:w.ownsRow 0 70 2 iv L.length (aY L)) (hL0:0<L.length) (hL8:L.length<=8) (hLg:∀x∈L,gj x=true) (hn0:0<n) (hn:n<=200) (hv:∀l,v l<=200)
 (hSL:∀l,v l≠0->Lit.string l∈SL) (hSn:SL.length<=2000):
 Calls prog 90 #[ptr pb,.int .i64 n] w fun e w'=>e=.returned (.tuple #[])/\aK w' prog 9 vb (pY (cV v n L))/\Fr (fun k=>k=vb) w w':=by
 have c0:w.cell? ⟨pb,0,none⟩=some (.int .i32 0):=hb.cell (o:=0) rfl;have f0:=hb.frozen 0;have hne:=cU hb hM;have XM:=cU hb hV;have iR:=hb.set 0 (.int .i32 1);obtain⟨g,cap,hiv,_,hcap,hcell,_⟩:=dJ hO hL0;subst hiv;have hfi:=zc (.slice (some ⟨g,0,none⟩) L.length cap) sv;have hgl:g<w.heap.size:=(aR hO g rfl).2;have hgp:g≠pb:=by
  rintro rfl;obtain⟨_,h2⟩:=hO;rcases h2 with⟨e,_⟩|⟨g',cap',cur,e,_,hg,_⟩
  ·cases e
  ·cases e;have h3:w.heap[g]?=some (.cells _ 202 (0,0)):=hb;rw[h3]at hg;cases hg
 have mU:aK (w.setCell ⟨pb,0,none⟩ (.int .i32 1)) prog 3 kb f:=hM.of_eq (zaa _ _ _ _ (fun e=>hne e.symm));have hV1:aK (w.setCell ⟨pb,0,none⟩ (.int .i32 1)) prog 9 vb (pY v):=hV.of_eq (zaa _ _ _ _ (fun e=>XM e.symm));have pW:∀j,j<L.length*2->(w.setCell ⟨pb,0,none⟩ (.int .i32 1)).cell? ⟨g,j,none⟩=(aY L)[j]? :=fun j hj=>(zae (w:=w) (zaa _ _ _ _ hgp)).trans (hcell j hj);have qQ:(w.setCell ⟨pb,0,none⟩ (.int .i32 1)).heap.size=w.heap.size:=by simp[World.setCell]
 have hgv:g≠vb:=by
  rintro rfl;obtain⟨_,h2⟩:=hO;rcases h2 with⟨e,_⟩|⟨g',cap',cur,e,_,hg,_⟩
  ·cases e
  ·cases e;obtain⟨n,D,⟨es,clock,hb',_⟩,_⟩:=hV;rw[hg]at hb';cases hb'
 generalize hw1:w.setCell ⟨pb,0,none⟩ (.int .i32 1)=w1 at *;have d2:w1.cell? ⟨pb,2,none⟩=some (.map (some kb)):=iR.cell (o:=2) rfl;unfold ptr;go_enter_defers func90,ntmps90;go_wp2_with fail
 refine(lock_free Tryz.a9 ⟨pb,0,none⟩ _ c0 f0).mono ?_;rintro e w' ⟨rfl,rfl⟩;rw[hw1];go_wp2_with (at_lookup;refine kH _ rfl _ _ 199 rfl 3 214 eD underlying199 (mV _) kb f rfl mU _ (.int .i64 n) rfl (keyOf_int (by omega) (by omega)) _ hf ?_)
 go_loopw [21] (fun u wr=>∃k:Nat,k<=L.length/\u=.int .i64 k/\Fr (fun k=>k=vb) w1 wr/\aK wr prog 9 vb (pY (cV v n (L.take k)))) (fun u _=>L.length-(intOf u).toNat)
 case atStart=>exact⟨0,zag _,rfl,Fr.refl _ _,by rw[List.take_zero,IL];exact hV1⟩
 case round=>
  obtain⟨k,hk,rfl,hF,hVk⟩:=hrel;by_cases hlt:k<L.length
  ·have hx:L[k]?=some L[k]:=zad hlt;obtain⟨e1,e2⟩:=nT L k _ hx;have ck:=pW (k*2) (by omega);have cv:=pW (k*2+1) (by omega);rw[e1]at ck;rw[e2]at cv;have XH:wr.cell? ⟨g,k*2,none⟩=some (.string L[k].1):=(zae (w:=w1) (hF.block g (by omega) hgv)).trans ck;have cv':wr.cell? ⟨g,k*2+1,none⟩=some (.string L[k].2):=(zae (w:=w1) (hF.block g (by omega) hgv)).trans cv;have hbr:=hF.blk iR XM;have d3:wr.cell? ⟨pb,3,none⟩=some (.map (some vb)):=hbr.cell (o:=3) rfl;have hpl:pb<wr.heap.size:=hbr.lt;have AL:=gO (hLg _ (List.getElem_mem hlt));have HT:Hid (L.take (k+1)=L.take k++ [L[k]]):=List.take_succ_eq_append_getElem hlt;generalize L[k]=x at *;obtain⟨kk,vv⟩:=x;simp only at XH cv' AL;clear ck cv e1 e2 hx pW hcell;go_wp2_with fail
   have hVW:aK (wr.alloc (.cells #[.string kk,.string vv] 70)) prog 9 vb (pY (cV v n (L.take k))):=hVk.of_eq (zab _ _ _ hVk.lt);have cI:(wr.alloc (.cells #[.string kk,.string vv] 70)).cell? ⟨wr.heap.size,0,none⟩=some (.string kk):=(aT.new wr _ _).cell (o:=0) rfl;have d3W:(wr.alloc (.cells #[.string kk,.string vv] 70)).cell? ⟨pb,3,none⟩=some (.map (some vb)):=(zae (w:=wr) (zab _ _ _ hpl)).trans d3;have hFW:Fr (fun k=>k=vb) w1 (wr.alloc (.cells #[.string kk,.string vv] 70)):=hF.alloc _;generalize wr.alloc (.cells #[.string kk,.string vv] 70)=W at *;have hu:=L8 hv hn (L.take k) kk.data.toList;have hwv:wr.heap.size≠vb:=by have:=hVk.lt;omega
   have hSu:∀kl,pY (cV v n (L.take k)) kl≠none->kl∈SL++L.map (fun x=>Lit.string x.1.data.toList):=Fz hSL (L.take k) (fun x hx=>List.mem_of_mem_take hx);have hlk:(Instr.lookup 200 (.map (some vb)) (.string kk) false).run prog W.drew=.ok (.int .i64 (cV v n (L.take k) kk.data.toList)) W.drew:=by have:=aK.look (w:=W.drew) (e:=3) hVW dI underlying200 (C9 _) (dZ (s:=kk) (by unfold maxLen;omega));rw[L9]at this;exact this
   obtain⟨W2,hup,xd,sP⟩:=aK.store (w:=W.drew) (e:=3) hVW dI underlying200 _ hSu (by simp;unfold maxLen;omega) (dZ (s:=kk) (by unfold maxLen;omega)) (.int .i64 (max (cV v n (L.take k) kk.data.toList) n:Nat));have Lv:=xd;rw[<-Fy v n hn0 (L.take k) (kk,vv),<-HT.out]at Lv;generalize cV v n (L.take k) kk.data.toList=u at *;clear xd hSu hVW;have aaK:Fr (fun k=>k=vb) w1 W2:=hFW.drew.trans (Fr.PI (M:=fun k=>k=vb) (rz.fR sP) rfl);by_cases hun:n<=u
   ·have hgt:¬(u:Int)<n:=by omega
    rw[show (max u n:Nat)=u from by omega]at hup;have c1:=rz.fR sP;have q1:W2.cell? ⟨wr.heap.size,0,none⟩=some (.string kk):=(zae (w:=W.drew) (c1.block _ hwv)).trans cI;have q2:W2.cell? ⟨pb,3,none⟩=some (.map (some vb)):=(zae (w:=W.drew) (c1.block _ XM)).trans d3W;go_region_held3 (fun W'=>W'.cell? ⟨wr.heap.size,0,none⟩=some (.string kk)/\W'.cell? ⟨pb,3,none⟩=some (.map (some vb))) (simp[*]) (fail)
    go_wp2_with fail
    go_roundw
    case rel=>exact⟨k+1,by omega,by go_num,aaK,Lv⟩
    case measure=>simp[intOf];omega
   ·have hgt:(u:Int)<n:=by omega
    rw[show (max u n:Nat)=n from by omega]at hup;have c1:=rz.fR sP;have q1:W2.cell? ⟨wr.heap.size,0,none⟩=some (.string kk):=(zae (w:=W.drew) (c1.block _ hwv)).trans cI;have q2:W2.cell? ⟨pb,3,none⟩=some (.map (some vb)):=(zae (w:=W.drew) (c1.block _ XM)).trans d3W;go_region_held3 (fun W'=>W'.cell? ⟨wr.heap.size,0,none⟩=some (.string kk)/\W'.cell? ⟨pb,3,none⟩=some (.map (some vb))) (simp[*]) (fail)
    go_wp2_with fail
    go_roundw
    case rel=>exact⟨k+1,by omega,by go_num,aaK,Lv⟩
    case measure=>simp[intOf];omega
  ·have Ix:k=L.length:=by omega
   rw[Ix,List.take_length]at hVk;have hbr:=hF.blk iR XM;clear pW hcell Ix;go_wp2_with fail
   refine leaves_cons (f:=38) (args:=#[.pointer (some ⟨pb,0,none⟩)]) (by simp) (by simp[go_sem]) ?_;refine(unlock_deferred Tryz.a9 ⟨pb,0,none⟩ .returning _ (hbr.cell (o:=0) rfl) (hbr.frozen 0)).mono ?_;rintro e u' w'' ⟨rfl,rfl,rfl⟩;refine⟨_,results_none rfl _ _ _,rfl,hVk.of_eq (zaa _ _ _ _ (fun e=>XM e.symm)),⟨hF.os.trans (by rw[<-hw1];rfl),hF.tape.trans (by rw[<-hw1];rfl),hF.output.trans (by rw[<-hw1];rfl),?_,fun k hk hm=>?_⟩⟩
   ·have:=hF.size;simp[World.setCell];omega
   ·exact eW hb rfl (v:=.int .i32 1) (p:=fun k=>k<w.heap.size/\¬k=vb) (fun k hk=>by rw[hw1];exact hF.block k (by omega) hk.2) k ⟨hk,hm⟩
end
end
section
open Go Go.RowKit Go.MuLone
open Go.Maps (Keyed)
def oh(ws:List MW):List Lit:=ws.flatMap (fun m=>m.items.map (fun x=>Lit.string x.1.data.toList))
theorem FA(ws:List MW)(h:∀m∈ws,m.items.length<=8):(oh ws).length<=8*ws.length:=by
 induction ws with
 |nil=>simp[oh]
 |cons m r ih=>
  have h1:=h m (List.mem_cons_self ..);have h2:=ih (fun m' hm'=>h m' (List.mem_cons_of_mem _ hm'));have e:oh (m :: r)=m.items.map (fun x=>Lit.string x.1.data.toList)++oh r:=rfl;rw[e,List.length_append,List.length_map,List.length_cons];omega
theorem FB{ws:List MW}(hm:ws[i]?=some m)(hx:x∈m.items):Lit.string x.1.data.toList∈oh ws:=
 List.mem_flatMap.2 ⟨m,List.mem_of_getElem? hm,List.mem_map.2 ⟨x,hx,rfl⟩⟩
theorem l9{q:Int}:x∈aZ n l q↔x∈l/\partOf n x.1=q:=by simp[aZ]
theorem pN{q:Int}(h:az n l q=true):0< (aZ n l q).length:=by simp only[az,List.any_eq_true,decide_eq_true_eq]at h;obtain⟨x,hx,e⟩:=h;exact List.length_pos_of_mem (l9.2 ⟨hx,e⟩)
theorem nY(n:Int)(l:List KV)(q:Int):(aZ n l q).length<=l.length:=List.length_filter_le _ _
section
variable {w:World}{τ:Nat->Tag}{aD b:Nat}{s:MS}{A:SA}
theorem aW.Px(h:aW w τ aD b s A){q:Nat}(hq:q<s.parts)(l:List UInt8):A.vis q l<=200:=by
 by_cases e:A.vis q l=0
 ·omega
 ·obtain⟨m,hm,_⟩:=(h.l6 q hq).seen l e;have:=aE hm;have:=h.ok.len;omega
theorem aW.PK(h:aW w τ aD b s A){q:Nat}(hq:q<s.parts):∀l,A.vis q l≠0->Lit.string l∈oh s.ws:=by intro l e;obtain⟨m,hm,_,x,hx,e1,_⟩:=(h.l6 q hq).seen l e;rw[<-e1];exact FB hm hx
theorem AR(h:aW w τ aD b s A)(hm:s.ws[i]?=some m):ji s m 0= !je s.parts m:=by
 cases ha:je s.parts m with
 |true=>
  refine lE (fun q hq ho e=>?_);simp only[je,List.all_eq_true,List.mem_range]at ha;have:=ha q hq;simp only[ho,Bool.not_true,Bool.false_or]at this;unfold bD at e;rw[this]at e;cases Ee:m.comm q<;>rw[Ee]at e<;>simp at e
 |false=>
  simp only[je,List.all_eq_false,List.mem_range]at ha;obtain⟨q,hq,e⟩:=ha;cases ho:az s.parts m.items q
  ·simp[ho]at e
  ·simp[ho]at e;refine mH hq ho ?_;unfold bD;rw[e];cases Ee:m.comm q
   ·rfl
   ·rw[h.inv.cp i m q hm Ee]at e;cases e
theorem IM(hm:s.ws[i]?=some m)(hc:m.ed=false)(f:Nat->Bool)(q:Nat):bE (setAt s i {m with comm:=f}) A q=bE s A q:=by
 funext kl;cases kl with
 |int k n=>
  cases k<;>try rfl
  simp only[bE];by_cases e:n=(i:Int)+1
  ·rw[e,lC (m:={m with comm:=f}) (aE hm) hc,jW hm hc]
  ·rw[gy e]
 |_=>rfl
theorem aW.comm(h:aW w τ aD b s A){i:Nat}{m:MW}(hm:s.ws[i]?=some m)(hc:m.ed=false){q:Nat}(ho:az s.parts m.items q=true)(hp:m.dL q=true)(hnc:m.comm q=false){w':World}
 (hsame:∀k,k<w.heap.size->k≠A.vb q->k≠A.sh i q->w'.heap[k]?=w.heap[k]?)
 (hv:aK w' prog 9 (A.vb q) (pY (cV (A.vis q) (i+1) (aZ s.parts m.items q))))
 (hs:aT w' (A.sh i q) #[ptr (A.pb q),.int .i64 2,dV] 174):
 aW w' τ aD b (setAt s i {m with comm:=put m.comm q}) {A with vis:=fun q'=>if q'=q then cV (A.vis q) (i+1) (aZ s.parts m.items q)else A.vis q'}:=by
 have hp1:=h.ok.p1;have hq:q<s.parts:=by have:=(dw (by omega) ho).2;omega
 have hvn:∀q',q'<s.parts->q'≠q->A.vb q'≠A.vb q:=fun q' fU hne e=>by have h1:=h.eZ q' fU;rw[e,h.eZ q hq]at h1;simp at h1;omega
 have hvs:∀q',q'<s.parts->A.vb q'≠A.sh i q:=fun q' fU e=>by have h1:=h.eZ q' fU;rw[e,h.cG i m q hm hc ho]at h1;simp at h1
 have hkv:∀q',q'<s.parts->A.kb q'≠A.vb q/\A.kb q'≠A.sh i q:=fun q' fU=>⟨fun e=>by
  have h1:=h.cC q' fU;rw[e,h.eZ q hq]at h1;simp at h1,fun e=>by have h1:=h.cC q' fU;rw[e,h.cG i m q hm hc ho]at h1;simp at h1⟩
 refine h.wY (m':={m with comm:=put m.comm q}) hm hc rfl hc (fun q' fU=>by show put m.comm q q'=true;simp only[put,fU];split<;>rfl) (fun q' fU=>?_) (fun q' fU=>h.inv.po i m q' hm fU) (fun k tu hne=>?_) (fun q' fU=>?_) (fun q' fU=>?_) (fun q' fU=>?_) (fun q' ho'=>?_)
 ·have G2:put m.comm q q'=true:=fU;unfold put at G2;split at G2
  ·rename_i e;rw[e];exact hp
  ·exact h.inv.cp i m q' hm G2
 ·exact hsame k tu (hne q hq).2.1 ((hne q hq).2.2 ho)
 ·rw[IM hm hc];exact(h.kept q' fU).of_eq (hsame _ (h.kept q' fU).lt (hkv q' fU).1 (hkv q' fU).2)
 ·rw[Dc];by_cases e:q'=q
  ·subst e;simpa using hv
  ·simp only[e,if_false];have:=(h.tH q' fU).of_eq (hsame _ (h.tH q' fU).lt (hvn q' fU e) (hvs q' fU));rwa [Dc]at this
 ·by_cases e:q'=q
  ·subst e;simp only[if_true];refine⟨fun l hl=>?_,fun j mj x hj ep hx hpx=>?_⟩
   ·by_cases hin:(aZ s.parts m.items q').any (fun x=>decide (x.1.data.toList=l))=true
    ·have ev:cV (A.vis q') (i+1) (aZ s.parts m.items q') l=max (A.vis q' l) (i+1):=by unfold cV;rw[if_pos hin]
     rw[ev];by_cases hge:i+1<A.vis q' l
     ·rw[show max (A.vis q' l) (i+1)=A.vis q' l from by omega];obtain⟨m0,hm0,hc0,r⟩:=(h.l6 q' hq).seen l (by omega);refine⟨m0,?_,hc0,r⟩;show (s.ws.set i _)[A.vis q' l-1]?=some m0;rw[List.getElem?_set_ne (by omega)];exact hm0
     ·rw[show max (A.vis q' l) (i+1)=i+1 from by omega];rw[List.any_eq_true]at hin;obtain⟨x,hx,ex⟩:=hin;obtain⟨hx1,RN⟩:=l9.1 hx;exact⟨{m with comm:=put m.comm q'},by simp[setAt,aE hm],by simp[put],x,hx1,of_decide_eq_true ex,RN⟩
    ·have ev:cV (A.vis q') (i+1) (aZ s.parts m.items q') l=A.vis q' l:=by unfold cV;rw[if_neg hin]
     rw[ev]at hl⊢;obtain⟨m0,hm0,hc0,r⟩:=(h.l6 q' hq).seen l hl;by_cases e:A.vis q' l-1=i
     ·rw[e,hm]at hm0;cases hm0;rw[hnc]at hc0;cases hc0
     ·refine⟨m0,?_,hc0,r⟩;show (s.ws.set i _)[A.vis q' l-1]?=some m0;rw[List.getElem?_set_ne (fun e'=>e e'.symm)];exact hm0
   ·rcases jJ hj with⟨rfl,rfl⟩|⟨_,hj'⟩
    ·have hin:(aZ s.parts m.items q').any (fun y=>decide (y.1.data.toList=x.1.data.toList))=true:=
      List.any_eq_true.2 ⟨x,l9.2 ⟨hx,hpx⟩,by simp⟩
     unfold cV;rw[if_pos hin];omega
    ·have:=(h.l6 q' hq).top j mj x hj' ep hx hpx;unfold cV;split<;>omega
  ·simp only[e,if_false];refine og (h.l6 q' fU) rfl (fun j mj hj ep=>?_) (fun j mj hj ep=>?_)
   ·by_cases e2:i=j
    ·subst e2;rw[hm]at hj;cases hj;exact⟨{m with comm:=put m.comm q},by simp[setAt,aE hm],by simp[put,e,ep],rfl⟩
    ·exact⟨mj,by simp[setAt,e2,hj],ep,rfl⟩
   ·rcases jJ hj with⟨rfl,rfl⟩|⟨_,hj'⟩
    ·exact⟨m,hm,by simpa[put,e]using ep,rfl⟩
    ·exact⟨mj,hj',ep,rfl⟩
 ·by_cases e:q'=q
  ·subst e;simpa[bD,put,hp]using hs
  ·have hb:=h.sh i m q' hm hc ho';have:aT w' (A.sh i q') _ _:=hb.of_eq (hsame _ hb.lt (fun e'=>by
    have h1:=h.cG i m q' hm hc ho';rw[e',h.eZ q hq]at h1;simp at h1) (fun e'=>by have h1:=h.cG i m q' hm hc ho';rw[e',h.cG i m q hm hc ho]at h1;simp at h1;omega))
   simpa[bD,put,e]using this
theorem IP(h:aW w τ aD b s A)(n:Int)(m:MW)(hf:bF s n=some m)(p:Int)(hp: -9223372036854775808<=p)(rR:p<=9223372036854775807):
 Calls prog 52 #[ptr (A.pw (n-1).toNat),.int .i64 p] w (oH w τ aD b (eH s n p)):=by
 obtain⟨h1,h2,hm,hc⟩:=eP hf;have hlen:=h.ok.len;have hp1:=h.ok.p1;have HY:=h.ok.p4;obtain⟨i,hi⟩:∃i:Nat,n=(i:Int)+1:=⟨(n-1).toNat,by omega⟩
 subst hi;rw[show ((i:Int)+1-1).toNat=i from by omega]at hm⊢;have hW:=h.wr i m hm hc;have c0:w.cell? ⟨A.pw i,0,none⟩=some (.int .i32 0):=hW.cell (o:=0) rfl;have f0:=hW.frozen 0;have eF:=gm hW (o:=0) rfl (.int .i32 1);have L6:A.sm i≠A.pw i:=fun e=>by have h1:=h.jh i m hm hc;rw[e,h.fB i m hm hc]at h1;simp at h1
 have l7:=hW.set 0 (.int .i32 1);have hWb:=hW;have eK:∀k,k≠A.pw i->(w.setCell ⟨A.pw i,0,none⟩ (.int .i32 1)).heap[k]?=w.heap[k]? :=fun k hk=>zaa _ _ _ _ hk;have qQ:(w.setCell ⟨A.pw i,0,none⟩ (.int .i32 1)).heap.size=w.heap.size:=by simp[World.setCell]
 have hos:(w.setCell ⟨A.pw i,0,none⟩ (.int .i32 1)).os=w.os/\(w.setCell ⟨A.pw i,0,none⟩ (.int .i32 1)).tape=w.tape/\(w.setCell ⟨A.pw i,0,none⟩ (.int .i32 1)).output=w.output:=⟨rfl,rfl,rfl⟩
 have hun:∀(w3:World) (p:Nat->Prop),(∀k,p k->w3.heap[k]?=(w.setCell ⟨A.pw i,0,none⟩ (.int .i32 1)).heap[k]?)->∀k,p k->(w3.setCell ⟨A.pw i,0,none⟩ fy).heap[k]?=w.heap[k]? :=fun w3 p hp k hk=>eW hWb rfl hp k hk;generalize hw1:w.setCell ⟨A.pw i,0,none⟩ (.int .i32 1)=w1 at *;have d3:w1.cell? ⟨A.pw i,4,none⟩=some (.bool false):=l7.cell (o:=4) rfl;have d4:w1.cell? ⟨A.pw i,5,none⟩=some (.map (some (A.sm i))):=l7.cell (o:=5) rfl;have mU:aK w1 prog 3 (A.sm i) (bL s A i m):=(h.Pd i m hm hc).of_eq (eK _ L6);have cs:=wz (s:=s) (A:=A) (A.pw i) (A.sm i) i m p _ hp rR d3 d4 mU;have rA:∀q:Nat,az s.parts m.items q=true->A.sh i q≠A.pw i:=fun q ho e=>by have h1:=h.cG i m q hm hc ho;rw[e,h.fB i m hm hc]at h1;simp at h1
 have oN:∀q:Nat,az s.parts m.items q=true->aT w1 (A.sh i q) #[ptr (A.pb q),.int .i64 (bD m q),if m.dL q then dV else A.iv i q] 174:=fun q ho=>(h.sh i m q hm hc ho).of_eq (eK _ (rA q ho));have ca:=BS (s:=s) (A:=A) i m 0 hp1 d4 mU (fun q _ ho=>(oN q ho).cell (o:=1) rfl);rw[AR h hm]at ca;cases ho:az s.parts m.items p with
 |false=>
  have Hr:Hid (eH s ((i:Int)+1) p=(8,s)):=by unfold Hid eH;rw[hf];simp[ho]
  have hv:eV s A i m p=(.pointer none,8):=by unfold eV;rw[ho];rfl
  rw[hv]at cs;unfold ptr at cs⊢;unfold fy at eF;clear ho hv hf ca oN hun;go_enter_defers func52,ntmps52;go_wp2_with fail
  refine(lock_free Tryz.a9 ⟨A.pw i,0,none⟩ _ c0 f0).mono ?_;rintro e w' ⟨rfl,rfl⟩;rw[hw1];go_wp2_with fail
  refine cs.mono ?_;rintro e w' ⟨rfl,rfl⟩;go_wp2_with fail
  refine leaves_cons (f:=38) (args:=#[.pointer (some ⟨A.pw i,0,none⟩)]) (by simp) (by simp[go_sem]) ?_;refine(unlock_deferred Tryz.a9 ⟨A.pw i,0,none⟩ .returning _ (l7.cell (o:=0) rfl) (l7.frozen 0)).mono ?_;rintro e u' w'' ⟨rfl,rfl,rfl⟩;rw[Hr.out];exact⟨_,results_tmp rfl _ _ _,A,rfl,h.same eF,eF.nG _ _⟩
 |true=>
  obtain⟨hb0,iR⟩:=dw (by omega) ho;obtain⟨q,rfl⟩:=zai hb0;have hq:q<s.parts:=by omega
  have hv:eV s A i m q=(.pointer (some ⟨A.sh i q,0,none⟩),0):=by unfold eV;rw[ho];rfl
  rw[hv]at cs;cases hap:je s.parts m with
  |false=>
   have Hr:Hid (eH s ((i:Int)+1) q=(9,s)):=by unfold Hid eH;rw[hf];simp[ho,hap]
   rw[hap]at ca;unfold ptr at cs ca⊢;clear ho hv hf hap oN;go_enter_defers func52,ntmps52;go_wp2_with fail
   refine(lock_free Tryz.a9 ⟨A.pw i,0,none⟩ _ c0 f0).mono ?_;rintro e w' ⟨rfl,rfl⟩;rw[hw1];go_wp2_with fail
   refine cs.mono ?_;rintro e w' ⟨rfl,rfl⟩;go_wp2_with fail
   refine ca.mono ?_;rintro e w2 ⟨rfl,hB⟩;go_wp2_with fail
   have sD:aT w2 (A.pw i) _ _:=l7.of_eq (hB.block _ l7.lt);refine leaves_cons (f:=38) (args:=#[.pointer (some ⟨A.pw i,0,none⟩)]) (by simp) (by simp[go_sem]) ?_;refine(unlock_deferred Tryz.a9 ⟨A.pw i,0,none⟩ .returning _ (sD.cell (o:=0) rfl) (sD.frozen 0)).mono ?_;rintro e u' w'' ⟨rfl,rfl,rfl⟩;rw[Hr.out];have hall:=hun w2 (fun k=>k<w.heap.size) (fun k hk=>hB.block k (by omega));have vf:Below w.heap.size w (w2.setCell ⟨A.pw i,0,none⟩ fy):=⟨hB.os.trans hos.1,hB.tape.trans hos.2.1,hB.output.trans hos.2.2,by have:=hB.size;simp[World.setCell];omega,hall⟩
   exact⟨_,results_tmp rfl _ _ _,A,rfl,h.below vf,⟨vf.os,vf.tape,vf.output,vf.size,fun _ _=>rfl,fun k hk _=>vf.block k hk⟩⟩
  |true=>
   have hpq:m.dL q=true:=by simp only[je,List.all_eq_true,List.mem_range]at hap;have:=hap q hq;simpa[ho]using this
   rw[hap]at ca;have Wv:=oN q ho;rw[hpq]at Wv;cases Ee:m.comm q with
   |true=>
    have Hr:Hid (eH s ((i:Int)+1) q=(10,s)):=by unfold Hid eH;rw[hf];simp[ho,hap,Ee]
    have hst:bD m q=2:=by unfold bD;rw[Ee];rfl
    rw[hst]at Wv;unfold ptr at cs ca⊢;clear ho hv hf hap oN hst Ee;go_enter_defers func52,ntmps52;go_wp2_with fail
    refine(lock_free Tryz.a9 ⟨A.pw i,0,none⟩ _ c0 f0).mono ?_;rintro e w' ⟨rfl,rfl⟩;rw[hw1];go_wp2_with fail
    refine cs.mono ?_;rintro e w' ⟨rfl,rfl⟩;go_wp2_with fail
    refine ca.mono ?_;rintro e w2 ⟨rfl,hB⟩;have fE:aT w2 (A.sh i q) _ _:=Wv.of_eq (hB.block _ Wv.lt);have e1:w2.cell? ⟨A.sh i q,1,none⟩=some (.int .i64 2):=fE.cell (o:=1) rfl;go_wp2_with fail
    have sD:aT w2 (A.pw i) _ _:=l7.of_eq (hB.block _ l7.lt);refine leaves_cons (f:=38) (args:=#[.pointer (some ⟨A.pw i,0,none⟩)]) (by simp) (by simp[go_sem]) ?_;refine(unlock_deferred Tryz.a9 ⟨A.pw i,0,none⟩ .returning _ (sD.cell (o:=0) rfl) (sD.frozen 0)).mono ?_;rintro e u' w'' ⟨rfl,rfl,rfl⟩;rw[Hr.out];have hall:=hun w2 (fun k=>k<w.heap.size) (fun k hk=>hB.block k (by omega));have vf:Below w.heap.size w (w2.setCell ⟨A.pw i,0,none⟩ fy):=⟨hB.os.trans hos.1,hB.tape.trans hos.2.1,hB.output.trans hos.2.2,by have:=hB.size;simp[World.setCell];omega,hall⟩
    exact⟨_,results_tmp rfl _ _ _,A,rfl,h.below vf,⟨vf.os,vf.tape,vf.output,vf.size,fun _ _=>rfl,fun k hk _=>vf.block k hk⟩⟩
   |false=>
    have Hr:Hid (eH s ((i:Int)+1) q=(0,setAt s i {m with comm:=put m.comm q})):=by unfold Hid eH;rw[hf];simp only[ho,hap,Ee,C1,Int.toNat_natCast];rw[show ((i:Int)+1-1).toNat=i from by omega];rfl
    have hst:bD m q=1:=by unfold bD;rw[Ee,hpq];rfl
    rw[hst]at Wv;have hit:=h.it i m q hm hc ho;have Eo:∀k,(A.iv i q).ownBlock=some k->k≠A.pw i:=fun k hk e=>by have h1:=h.fA i m q k hm hc ho hk;rw[e,h.fB i m hm hc]at h1;simp at h1
    have Wf:A.pb q≠A.pw i:=fun e=>by have h1:=h.cS q hq;rw[e,h.fB i m hm hc]at h1;simp at h1
    have hkb:A.kb q≠A.pw i:=fun e=>by have h1:=h.cC q hq;rw[e,h.fB i m hm hc]at h1;simp at h1
    have hvb:A.vb q≠A.pw i:=fun e=>by have h1:=h.eZ q hq;rw[e,h.fB i m hm hc]at h1;simp at h1
    have BF:A.sh i q≠A.vb q:=fun e=>by have h1:=h.cG i m q hm hc ho;rw[e,h.eZ q hq]at h1;simp at h1
    have hsp:=rA q ho;have Ma:=(h.part q hq).of_eq (eK _ Wf);have Mb:=(h.kept q hq).of_eq (eK _ hkb);have SQ:=(h.tH q hq).of_eq (eK _ hvb);rw[Dc]at SQ;have Ww:=ak hit (fun k hk=>eK k (Eo k hk));have hkf:bE s A q (.int .i64 ((i+1:Nat):Int))=some (.agg #[A.iv i q,A.sv i]):=by rw[show ((i+1:Nat):Int)=(i:Int)+1 from by omega];simp only[bE,hf,hpq,if_true];rw[show ((i:Int)+1-1).toNat=i from by omega]
    have hI8:=(h.ok.items i m hm).1;have akQ:=nY s.parts m.items q;have cc:∀W,Below w1.heap.size w1 W->Calls prog 90 #[ptr (A.pb q),.int .i64 ((i:Int)+1)] W fun e w'=>e=.returned (.tuple #[])/\aK w' prog 9 (A.vb q) (pY (cV (A.vis q) (i+1) (aZ s.parts m.items q)))/\Fr (fun k=>k=A.vb q) W w':=by
     intro W hB;have:=SP (w:=W) (A.pb q) (A.kb q) (A.vb q) (bE s A q) (A.vis q) (i+1) (A.iv i q) (A.sv i) (aZ s.parts m.items q) (oh s.ws) (Ma.of_eq (hB.block _ Ma.lt)) (Mb.of_eq (hB.block _ Mb.lt)) hkf (SQ.of_eq (hB.block _ SQ.lt)) (ak Ww (fun k hk=>hB.block k (aR Ww k hk).2))
      (pN ho) (by omega) (fun x hx=>(h.ok.items i m hm).2 x (l9.1 hx).1) (by omega) (by have:=aE hm;omega) (h.Px hq) (h.PK hq) (by have:=FA s.ws (fun m' hm'=>by obtain⟨j,hj⟩:=List.getElem?_of_mem hm';exact(h.ok.items j m' hj).1);omega)
     rw[show ((i+1:Nat):Int)=(i:Int)+1 from by omega]at this;exact this
    have d2:w1.cell? ⟨A.pw i,2,none⟩=some (.int .i64 ((i:Int)+1)):=l7.cell (o:=2) rfl;have aft:A.pw i≠A.vb q:=fun e=>hvb e.symm;unfold ptr at cs ca cc⊢;clear hv oN hst hkf Ma Mb SQ Ww;go_enter_defers func52,ntmps52;go_wp2_with fail
    refine(lock_free Tryz.a9 ⟨A.pw i,0,none⟩ _ c0 f0).mono ?_;rintro e w' ⟨rfl,rfl⟩;rw[hw1];go_wp2_with fail
    refine cs.mono ?_;rintro e w' ⟨rfl,rfl⟩;go_wp2_with fail
    refine ca.mono ?_;rintro e w2 ⟨rfl,hB⟩;have fE:aT w2 (A.sh i q) _ _:=Wv.of_eq (hB.block _ Wv.lt);have sD:aT w2 (A.pw i) _ _:=l7.of_eq (hB.block _ l7.lt);have e0:w2.cell? ⟨A.sh i q,0,none⟩=some (.pointer (some ⟨A.pb q,0,none⟩)):=fE.cell (o:=0) rfl;have e1:w2.cell? ⟨A.sh i q,1,none⟩=some (.int .i64 1):=fE.cell (o:=1) rfl;have e2:w2.cell? ⟨A.pw i,2,none⟩=some (.int .i64 ((i:Int)+1)):=sD.cell (o:=2) rfl;have ccD:=cc w2.drew hB.drew;clear cs ca cc;go_wp2_with fail
    go_region_held3 (fun W=>W.cell? ⟨A.sh i q,0,none⟩=some (.pointer (some ⟨A.pb q,0,none⟩))/\W.cell? ⟨A.pw i,2,none⟩=some (.int .i64 ((i:Int)+1))) (simp[*]) ((go_at_call 90;refine ccD.mono ?_;rintro e w3 ⟨rfl,hV3,Kh⟩;have Rg:=Kh.blk (a:=w2.drew) fE BF;have wy:=Kh.blk (a:=w2.drew) sD aft;have k0:=Rg.cell (o:=0) (v:=.pointer (some ⟨A.pb q,0,none⟩)) rfl;have k2:=wy.cell (o:=2) (v:=.int .i64 ((i:Int)+1)) rfl))
    have k1:=Rg.cell (o:=1) (v:=.int .i64 1) rfl;have f1:=Rg.frozen 1;clear ccD;go_wp2_with fail
    have hS4:=Rg.set 1 (.int .i64 2);have V9:aT (w3.setCell ⟨A.sh i q,1,none⟩ (.int .i64 2)) (A.pw i) _ _:=wy.of_eq (zaa _ _ _ _ (fun e=>hsp e.symm));refine leaves_cons (f:=38) (args:=#[.pointer (some ⟨A.pw i,0,none⟩)]) (by simp) (by simp[go_sem]) ?_;refine(unlock_deferred Tryz.a9 ⟨A.pw i,0,none⟩ .returning _ (V9.cell (o:=0) rfl) (V9.frozen 0)).mono ?_;rintro e u' w'' ⟨rfl,rfl,rfl⟩;rw[Hr.out];have afu:=hB.size;have akS:w2.heap.size<=w3.heap.size:=Kh.size;have hall:=hun (w3.setCell ⟨A.sh i q,1,none⟩ (.int .i64 2)) (fun k=>k<w.heap.size/\k≠A.vb q/\k≠A.sh i q) (fun k hk=>by rw[zaa _ _ _ _ hk.2.2,Kh.block k (by show k<w2.heap.size;omega) hk.2.1];exact hB.block k (by omega))
    refine⟨_,results_tmp rfl _ _ _,_,rfl,h.comm hm hc ho hpq Ee (w':=(w3.setCell ⟨A.sh i q,1,none⟩ (.int .i64 2)).setCell ⟨A.pw i,0,none⟩ fy) (fun k h1 h2 h3=>hall k ⟨h1,h2,h3⟩) (hV3.of_eq ((zaa _ _ _ _ hvb).trans (zaa _ _ _ _ (fun e=>BF e.symm)))) ?_,?_⟩
    ·exact hS4.of_eq (zaa _ _ _ _ hsp)
    ·exact⟨Kh.os.trans (hB.os.trans hos.1),Kh.tape.trans (hB.tape.trans hos.2.1),Kh.output.trans (hB.output.trans hos.2.2),by simp[World.setCell];omega,fun _ _=>rfl,fun k hk hs=>hall k ⟨hk,fun e=>hs (by rw[e,h.eZ q hq]),fun e=>hs (by rw[e,h.cG i m q hm hc ho])⟩⟩
theorem JZ(h:aW w τ aD b s A)(n p:Int)(hn: -9223372036854775808<=n)(hn':n<=9223372036854775807)(hp: -9223372036854775808<=p)(rR:p<=9223372036854775807):
 Calls prog 28 #[ptr b,.int .i64 n,.int .i64 p] w (oH w τ aD b (eH s n p)):=by
 have c:=yU h n hn hn';cases hf:bF s n with
 |none=>
  have Hr:Hid (eH s n p=(7,s)):=by unfold Hid eH;rw[hf]
  have hv:eT s A n=(.pointer none,false):=by unfold eT;rw[hf]
  rw[hv]at c;unfold ptr at c⊢;clear hf hv;go_enter func28,ntmps28;go_wp2_with fail
  refine c.mono ?_;rintro e w1 ⟨rfl,hS⟩;go_wp2_with fail
  go_ret;rw[Hr.out];exact⟨A,rfl,h.same hS,hS.nG _ _⟩
 |some m=>
  have hv:eT s A n=(ptr (A.pw (n-1).toNat),true):=by unfold eT;rw[hf]
  rw[hv]at c;have c2:∀w1,u6 w w1->Calls prog 52 #[ptr (A.pw (n-1).toNat),.int .i64 p] w1 (oH w1 τ aD b (eH s n p)):=fun w1 hS=>IP (h.same hS) n m hf p hp rR;generalize (n-1).toNat=j at c c2;unfold ptr at c c2⊢;clear hf hv;go_enter func28,ntmps28;go_wp2_with fail
  refine c.mono ?_;rintro e w1 ⟨rfl,hS⟩;have c3:=c2 w1 hS;clear c c2;go_wp2_with fail
  refine c3.mono ?_;rintro e w2 ⟨A',rfl,hR,hT⟩;go_wp2_with fail
  go_ret;exact⟨A',rfl,hR,(hS.nG _ _).trans hT⟩
end
end
section
open Go Go.RowKit Go.MuLone
open Go.Maps (Keyed)
section
variable {w:World}{τ:Nat->Tag}{aD b:Nat}{s:MS}{A:SA}
theorem rz.grown(h:rz w w' b):w.grownBy w' (some b):=⟨h.os,h.tape,h.output,Nat.le_of_eq h.size.symm,fun k _ hk=>h.block k (fun e=>hk (by rw[e]))⟩
theorem Dd(h:aW w τ aD b s A)(hm:s.ws[i]?=some m):ji s m 2=(m.comm 0 || m.comm 1 || m.comm 2 || m.comm 3):=by
 have HY:=h.ok.p4;have hp1:=h.ok.p1;have hst:∀q,bD m q=2↔m.comm q=true:=fun q=>by unfold bD;cases m.comm q<;>cases m.dL q<;>simp
 have hq:∀q:Nat,m.comm q=true->q<s.parts/\az s.parts m.items q=true:=fun q hc=>by have ho:=h.inv.po i m q hm (h.inv.cp i m q hm hc);have:=(dw (by omega) ho).2;exact⟨by omega,ho⟩
 cases hb:(m.comm 0 || m.comm 1 || m.comm 2 || m.comm 3)with
 |true=>
  have:∃q,m.comm q=true:=by simp only[Bool.or_eq_true]at hb;rcases hb with((e|e)|e)|e<;>exact⟨_,e⟩
  obtain⟨q,e⟩:=this;exact mH (hq q e).1 (hq q e).2 ((hst q).2 e)
 |false=>
  refine lE (fun q Uh _ e=>?_);have:=(hst q).1 e;simp only[Bool.or_eq_false_iff]at hb;have:q=0\/q=1\/q=2\/q=3:=by omega
  rcases this with rfl|rfl|rfl|rfl<;>simp_all
theorem zg(hi:i<s.ws.length):bF (setAt s i {m with ed:=true}) ((i:Int)+1)=none:=by unfold bF setAt;simp only[List.length_set];rw[if_neg (by omega),show ((i:Int)+1-1).toNat=i from by omega];simp[hi]
theorem IQ(hi:i<s.ws.length)(q:Nat):bE (setAt s i {m with ed:=true}) A q=del (bE s A q) (.int .i64 ((i:Int)+1)):=by
 funext kl;by_cases e:kl=.int .i64 ((i:Int)+1)
 ·subst e;rw[mQ (by trivial)];simp only[bE,zg hi]
 ·rw[kS e];cases kl with
  |int k n=>
   cases k<;>try rfl
   have:n≠(i:Int)+1:=fun e'=>e (by rw[e']);simp only[bE,gy this]
  |_=>rfl
theorem De(hi:i<s.ws.length):cL (setAt s i {m with ed:=true}) A=del (cL s A) (.int .i64 ((i:Int)+1)):=by
 funext kl;by_cases e:kl=.int .i64 ((i:Int)+1)
 ·subst e;rw[mQ (by trivial)];simp only[cL,zg hi]
 ·rw[kS e];cases kl with
  |int k n=>
   cases k<;>try rfl
   have:n≠(i:Int)+1:=fun e'=>e (by rw[e']);simp only[cL,gy this]
  |_=>rfl
theorem Mc(h:aW w τ aD b s A)(hm:s.ws[i]?=some m)(hc:m.ed=false){q:Nat}(ho:az s.parts m.items q=false):del (bE s A q) (.int .i64 ((i:Int)+1))=bE s A q:=by
 funext kl;by_cases e:kl=.int .i64 ((i:Int)+1)
 ·subst e;rw[mQ (by trivial)];simp only[bE,jW hm hc];cases hpq:m.dL q
  ·simp
  ·rw[h.inv.po i m q hm hpq]at ho;cases ho
 ·rw[kS e]
theorem aW.ed(h:aW w τ aD b s A){i:Nat}{m:MW}(hm:s.ws[i]?=some m)(hc:m.ed=false)(hnc:∀q,m.comm q=false){w':World}
 (hsame:∀k,k<w.heap.size->(∀q,q<s.parts->k≠A.kb q)->k≠A.pw i->k≠A.wm->w'.heap[k]?=w.heap[k]?)
 (hk:∀q,q<s.parts->aK w' prog 3 (A.kb q) (del (bE s A q) (.int .i64 ((i:Int)+1))))
 (hw:aK w' prog 3 A.wm (del (cL s A) (.int .i64 ((i:Int)+1)))):
 aW w' τ aD b (setAt s i {m with ed:=true}) A:=by
 have hi:=aE hm;have hne:∀{k a c:Nat},τ k=(aD,a,c)->a≠3->(a=6->c≠i)->a≠5->k<w.heap.size->w'.heap[k]?=w.heap[k]? :=by
  intro k a c ht h3 h6 h5 tu;refine hsame k tu (fun q hq e=>?_) (fun e=>?_) (fun e=>?_)
  ·have:=h.cC q hq;rw[<-e,ht]at this;simp at this;omega
  ·have:=h.fB i m hm hc;rw[<-e,ht]at this;simp at this;exact h6 this.1 this.2
  ·have:=h.iU;rw[<-e,ht]at this;simp at this;omega
 have dK:∀{j:Nat} {mj:MW},(setAt s i {m with ed:=true}).ws[j]?=some mj->∃mo,s.ws[j]?=some mo/\mj.items=mo.items/\mj.comm=mo.comm/\mj.dL=mo.dL/\(mj.ed=false->mj=mo/\i≠j):=by
  intro j mj hj;rcases jJ hj with⟨rfl,rfl⟩|⟨e,hj'⟩
  ·exact⟨m,hm,rfl,rfl,rfl,fun e=>by cases e⟩
  ·exact⟨mj,hj',rfl,rfl,rfl,fun _=>⟨rfl,e⟩⟩
 have hput:∀{j:Nat} {mo:MW},s.ws[j]?=some mo->∃mj,(setAt s i {m with ed:=true}).ws[j]?=some mj/\mj.items=mo.items/\mj.comm=mo.comm:=by
  intro j mo hj;by_cases e:i=j
  ·subst e;rw[hm]at hj;cases hj;exact⟨{m with ed:=true},by simp[setAt,hi],rfl,rfl⟩
  ·exact⟨mo,by simp[setAt,e,hj],rfl,rfl⟩
 refine⟨⟨h.ok.p1,h.ok.p4,by simpa[setAt]using h.ok.len,fun j mj hj=>?_,h.ok.keys,h.ok.opn⟩,⟨fun j mj q hj hcm=>?_,fun j mj q hj Up=>?_,fun j mj q hj hcm=>?_⟩,?_,?_,h.tag,?_,h.eI,fun q hq=>?_,h.cS,fun q hq=>?_,h.cC,fun q hq=>?_,h.eZ,fun q hq=>?_,?_,h.iU,fun j mj hj ep=>?_,fun j mj hj ep=>?_,fun j mj hj ep=>?_,fun j mj hj ep=>?_,fun j mj q hj ep ho=>?_,fun j mj q hj ep ho=>?_,fun j mj q hj ep ho=>?_,fun j mj q k hj ep ho=>?_,h.reads.frame (fun k hk h1 JQ=>⟨hne (a:=(τ k).2.1) (c:=(τ k).2.2) (by rw[<-h1]) (by omega) (by omega) (by omega) hk,rfl⟩),fun j mj hj=>?_⟩
 ·obtain⟨mo,ho,e,_⟩:=dK hj;rw[e];exact h.ok.items j mo ho
 ·obtain⟨mo,ho,_,e1,e2,_⟩:=dK hj;rw[e2];rw[e1]at hcm;exact h.inv.cp j mo q ho hcm
 ·obtain⟨mo,ho,e,_,e2,_⟩:=dK hj;rw[e];rw[e2]at Up;exact h.inv.po j mo q ho Up
 ·rcases jJ hj with⟨rfl,rfl⟩|⟨_,hj'⟩
  ·exact hnc q
  ·exact h.inv.cc j mj q hj' hcm
 ·refine h.told.ws rfl rfl rfl rfl (fun j mj hj=>by obtain⟨mo,ho,_⟩:=dK hj;exact h.told.sv j mo ho) (fun j mj hj=>?_);obtain⟨m',a1,a2,a3⟩:=hput hj;exact⟨m',a1,a2,fun q hq=>by rw[a3];exact hq,rfl⟩
 ·have:=h.blk.of_eq (hne h.tag (by omega) (by omega) (by omega) h.blk.lt);simpa[setAt]using this
 ·exact ak h.cD (fun k hk=>hne (h.eI k hk) (by omega) (by omega) (by omega) (aR h.cD k hk).2)
 ·exact(h.part q hq).of_eq (hne (h.cS q hq) (by omega) (by omega) (by omega) (h.part q hq).lt)
 ·rw[IQ hi];exact hk q hq
 ·exact(h.tH q hq).of_eq (hne (h.eZ q hq) (by omega) (by omega) (by omega) (h.tH q hq).lt)
 ·refine og (h.l6 q hq) rfl (fun j mj hj ep=>?_) (fun j mj hj ep=>?_)
  ·obtain⟨m',h1,h2,h3⟩:=hput hj;exact⟨m',h1,by rw[h3];exact ep,h2⟩
  ·obtain⟨mo,h1,h2,h3,_⟩:=dK hj;exact⟨mo,h1,by rw[<-h3];exact ep,h2⟩
 ·rw[De hi];exact hw
 ·obtain⟨mo,ho,_,_,_,e⟩:=dK hj;obtain⟨rfl,Nh⟩:=e ep;have hb:=h.wr j mj ho ep;exact hb.of_eq (hne (h.fB j mj ho ep) (by omega) (fun _ e'=>Nh e'.symm) (by omega) hb.lt)
 ·obtain⟨mo,ho,_,_,_,e⟩:=dK hj;obtain⟨rfl,Nh⟩:=e ep;exact h.fB j mj ho ep
 ·obtain⟨mo,ho,_,_,_,e⟩:=dK hj;obtain⟨rfl,Nh⟩:=e ep;have hb:=h.Pd j mj ho ep;have:=hb.of_eq (hne (h.jh j mj ho ep) (by omega) (by omega) (by omega) hb.lt);refine this.congr (fun kl=>?_);cases kl with
  |int k n=>cases k<;>rfl
  |_=>rfl
 ·obtain⟨mo,ho,_,_,_,e⟩:=dK hj;obtain⟨rfl,Nh⟩:=e ep;exact h.jh j mj ho ep
 ·obtain⟨mo,hmo,_,_,_,e⟩:=dK hj;obtain⟨rfl,Nh⟩:=e ep;have hb:=h.sh j mj q hmo ep ho;exact hb.of_eq (hne (h.cG j mj q hmo ep ho) (by omega) (by omega) (by omega) hb.lt)
 ·obtain⟨mo,hmo,_,_,_,e⟩:=dK hj;obtain⟨rfl,Nh⟩:=e ep;exact h.cG j mj q hmo ep ho
 ·obtain⟨mo,hmo,_,_,_,e⟩:=dK hj;obtain⟨rfl,Nh⟩:=e ep;have hr:=h.it j mj q hmo ep ho;exact ak hr (fun k hk=>hne (h.fA j mj q k hmo ep ho hk) (by omega) (by omega) (by omega) (aR hr k hk).2)
 ·obtain⟨mo,hmo,_,_,_,e⟩:=dK hj;obtain⟨rfl,Nh⟩:=e ep;exact h.fA j mj q k hmo ep ho
 ·obtain⟨mo,hmo,e,_⟩:=dK hj;rw[e];exact(h.La j mo hmo).of fun k hk ht=>⟨hne ht (by omega) (by omega) (by omega) hk,rfl⟩
theorem Ir(wb wm:Nat)(c:Array Value)(f:Lit->Option Value)(hb:aT w wb c 105)(e2:c[2]?=some fy)(e5:c[6]?=some (.map (some wm)))(hM:aK w prog 3 wm f)(n:Int)(h1: -9223372036854775808<=n)(h2:n<=9223372036854775807):
 Calls prog 55 #[ptr wb,.int .i64 n] w fun e w'=>e=.returned (.tuple #[])/\aK w' prog 3 wm (del f (.int .i64 n))/\rz w w' wm:=by
 have c2:w.cell? ⟨wb,2,none⟩=some (.int .i32 0):=hb.cell e2;have c5:w.cell? ⟨wb,6,none⟩=some (.map (some wm)):=hb.cell e5;have f2:=hb.frozen 2;have hne:=cU hb hM;have mU:∀v,aK (w.setCell ⟨wb,2,none⟩ v) prog 3 wm f:=fun v=>hM.of_eq (zaa _ _ _ _ (fun e=>hne e.symm));have XN:(c.setIfInBounds 2 (.int .i32 1))[2]?=some (.int .i32 1):=by have:=(Array.getElem?_eq_some_iff.1 e2).1;simp[this]
 unfold ptr;go_enter_defers func55,ntmps55;go_wp2_with (first|(go_at_call 37;refine(lock_free Tryz.a9 ⟨wb,2,none⟩ _ c2 f2).mono ?_;rintro e w' ⟨rfl,rfl⟩)|(at_delete;refine pI _ rfl _ _ 102 3 rfl 118 eD underlying102 wm f rfl (mU _) _ (.int .i64 n) rfl (keyOf_int h1 h2) ?_;intro w1 xd hT))
 have hB:=rz.fR hT;have iR:aT w1 wb _ 105:=(hb.set 2 (.int .i32 1)).of_eq (hB.block wb hne);refine leaves_cons (f:=38) (args:=#[.pointer (some ⟨wb,2,none⟩)]) (by simp) (by simp[go_sem]) ?_;refine(unlock_deferred Tryz.a9 ⟨wb,2,none⟩ .returning _ (iR.cell (o:=2) XN) (iR.frozen 2)).mono ?_;rintro e u' w'' ⟨rfl,rfl,rfl⟩;exact⟨_,results_none rfl _ _ _,rfl,xd.of_eq (zaa _ _ _ _ (fun e=>hne e.symm)),rz.locked hb e2 _ hB hne⟩
end
end
section
open Go Go.RowKit Go.MuLone
open Go.Maps (Keyed)
section
variable {w:World}{τ:Nat->Tag}{aD b:Nat}{s:MS}{A:SA}
def iO(s:MS)(A:SA)(i:Nat)(m:MW)(left:Lit->Bool)(q:Nat):Lit->Option Value:=
 if (az s.parts m.items q && !left (.int .i64 q))=true then del (bE s A q) (.int .i64 ((i:Int)+1))else bE s A q
structure afv(w w':World)(s:MS)(A:SA)(i:Nat):Prop where
 fr:Fr (fun k=>k=A.pw i\/∃q,q<s.parts/\k=A.kb q) w w'
 kept:∀q,q<s.parts->aK w' prog 3 (A.kb q) (del (bE s A q) (.int .i64 ((i:Int)+1)))
theorem Iq(h:aW w τ aD b s A)(i:Nat)(m:MW)(hm:s.ws[i]?=some m)(hc:m.ed=false):
 Calls prog 54 #[ptr (A.pw i)] w fun e w'=>
  ((m.comm 0 || m.comm 1 || m.comm 2 || m.comm 3)=true/\e=.returned (.int .i64 9)/\Below w.heap.size w w')\/
  ((m.comm 0 || m.comm 1 || m.comm 2 || m.comm 3)=false/\e=.returned (.int .i64 0)/\afv w w' s A i):=by
 have hlen:=h.ok.len
 have hp1:=h.ok.p1
 have HY:=h.ok.p4
 have hi:=aE hm
 have hW:=h.wr i m hm hc
 have c0:w.cell? ⟨A.pw i,0,none⟩=some (.int .i32 0):=hW.cell (o:=0) rfl
 have f0:=hW.frozen 0
 have L6:A.sm i≠A.pw i:=fun e=>by have h1:=h.jh i m hm hc;rw[e,h.fB i m hm hc]at h1;simp at h1
 have l7:=hW.set 0 (.int .i32 1)
 have hWb:=hW
 have eK:∀k,k≠A.pw i->(w.setCell ⟨A.pw i,0,none⟩ (.int .i32 1)).heap[k]?=w.heap[k]? :=fun k hk=>zaa _ _ _ _ hk
 have qQ:(w.setCell ⟨A.pw i,0,none⟩ (.int .i32 1)).heap.size=w.heap.size:=by simp[World.setCell]
 have hos:(w.setCell ⟨A.pw i,0,none⟩ (.int .i32 1)).os=w.os/\(w.setCell ⟨A.pw i,0,none⟩ (.int .i32 1)).tape=w.tape/\(w.setCell ⟨A.pw i,0,none⟩ (.int .i32 1)).output=w.output:=⟨rfl,rfl,rfl⟩
 have hun:∀(w3:World) (p:Nat->Prop),(∀k,p k->w3.heap[k]?=(w.setCell ⟨A.pw i,0,none⟩ (.int .i32 1)).heap[k]?)->∀k,p k->(w3.setCell ⟨A.pw i,0,none⟩ fy).heap[k]?=w.heap[k]? :=fun w3 p hp k hk=>eW hWb rfl hp k hk
 generalize hw1:w.setCell ⟨A.pw i,0,none⟩ (.int .i32 1)=w1 at *
 have d3:w1.cell? ⟨A.pw i,4,none⟩=some (.bool false):=l7.cell (o:=4) rfl
 have d4:w1.cell? ⟨A.pw i,5,none⟩=some (.map (some (A.sm i))):=l7.cell (o:=5) rfl
 have mU:aK w1 prog 3 (A.sm i) (bL s A i m):=(h.Pd i m hm hc).of_eq (eK _ L6)
 have rA:∀q:Nat,az s.parts m.items q=true->A.sh i q≠A.pw i:=fun q ho e=>by have h1:=h.cG i m q hm hc ho;rw[e,h.fB i m hm hc]at h1;simp at h1
 have oN:∀q:Nat,az s.parts m.items q=true->aT w1 (A.sh i q) #[ptr (A.pb q),.int .i64 (bD m q),if m.dL q then dV else A.iv i q] 174:=fun q ho=>(h.sh i m q hm hc ho).of_eq (eK _ (rA q ho))
 have ca:=BS (s:=s) (A:=A) i m 2 hp1 d4 mU (fun q _ ho=>(oN q ho).cell (o:=1) rfl)
 rw[Dd h hm]at ca
 cases hcm:(m.comm 0 || m.comm 1 || m.comm 2 || m.comm 3)with
 |true=>
  rw[hcm]at ca
  unfold ptr at ca⊢
  clear hcm oN
  go_enter_defers func54,ntmps54
  go_wp2_with fail
  refine(lock_free Tryz.a9 ⟨A.pw i,0,none⟩ _ c0 f0).mono ?_
  rintro e w' ⟨rfl,rfl⟩
  rw[hw1]
  go_wp2_with fail
  refine ca.mono ?_
  rintro e w2 ⟨rfl,hB⟩
  go_wp2_with fail
  have sD:aT w2 (A.pw i) _ _:=l7.of_eq (hB.block _ l7.lt)
  refine leaves_cons (f:=38) (args:=#[.pointer (some ⟨A.pw i,0,none⟩)]) (by simp) (by simp[go_sem]) ?_
  refine(unlock_deferred Tryz.a9 ⟨A.pw i,0,none⟩ .returning _ (sD.cell (o:=0) rfl) (sD.frozen 0)).mono ?_
  rintro e u' w'' ⟨rfl,rfl,rfl⟩
  have hall:=hun w2 (fun k=>k<w.heap.size) (fun k hk=>hB.block k (by omega))
  have vf:Below w.heap.size w (w2.setCell ⟨A.pw i,0,none⟩ fy):=⟨hB.os.trans hos.1,hB.tape.trans hos.2.1,hB.output.trans hos.2.2,by have:=hB.size;simp[World.setCell];omega,hall⟩
  exact⟨_,results_tmp rfl _ _ _,Or.inl ⟨trivial,rfl,vf⟩⟩
 |false=>
  rw[hcm]at ca
  have f3:w1.frozen? ⟨A.pw i,4,none⟩=false:=l7.frozen 4
  have Ej:=h.cC
  have hks:∀q q':Nat,q<s.parts->az s.parts m.items q'=true->A.sh i q'≠A.kb q:=fun q q' hq ho e=>by have h1:=h.cG i m q' hm hc ho;rw[e,Ej q hq]at h1;simp at h1
  have yc:∀q,q<s.parts->A.pw i≠A.kb q:=fun q hq e=>by have h1:=h.fB i m hm hc;rw[e,Ej q hq]at h1;simp at h1
  have hkm:∀q,q<s.parts->A.sm i≠A.kb q:=fun q hq e=>by have h1:=h.jh i m hm hc;rw[e,Ej q hq]at h1;simp at h1
  have hkp:∀q q',q<s.parts->q'<s.parts->A.pb q'≠A.kb q:=fun q q' hq fU e=>by have h1:=h.cS q' fU;rw[e,Ej q hq]at h1;simp at h1
  have hkk:∀q q',q<s.parts->q'<s.parts->q≠q'->A.kb q'≠A.kb q:=fun q q' hq fU hne e=>by have h1:=Ej q' fU;rw[e,Ej q hq]at h1;simp at h1;omega
  have hpw:∀q,q<s.parts->A.pb q≠A.pw i:=fun q hq e=>by have h1:=h.cS q hq;rw[e,h.fB i m hm hc]at h1;simp at h1
  have Ma:∀q,q<s.parts->aT w1 (A.pb q) #[fy,gF,.map (some (A.kb q)),.map (some (A.vb q))] 202:=fun q hq=>(h.part q hq).of_eq (eK _ (hpw q hq))
  have Mb:∀q,q<s.parts->aK w1 prog 3 (A.kb q) (bE s A q):=fun q hq=>(h.kept q hq).of_eq (eK _ (fun e=>yc q hq e.symm))
  have hfs:∀x u,bL s A i m (.int .i64 x)=some u->u=.pointer (some ⟨A.sh i x.toNat,0,none⟩)/\(0<=x/\x<s.parts/\az s.parts m.items x=true):=by
   intro x u hu;simp only[bL]at hu;split at hu
   ·rename_i ho;cases hu;exact⟨rfl,(dw (by omega) ho).1,(dw (by omega) ho).2,ho⟩
   ·cases hu
  unfold ptr at ca⊢
  go_enter_defers func54,ntmps54
  go_wp2_with fail
  refine(lock_free Tryz.a9 ⟨A.pw i,0,none⟩ _ c0 f0).mono ?_
  rintro e w' ⟨rfl,rfl⟩
  rw[hw1]
  go_wp2_with fail
  refine ca.mono ?_
  rintro e w2 ⟨rfl,hB⟩
  have sD:aT w2 (A.pw i) _ _:=l7.of_eq (hB.block _ l7.lt)
  have g3:w2.cell? ⟨A.pw i,4,none⟩=some (.bool false):=sD.cell (o:=4) rfl
  have g4:w2.cell? ⟨A.pw i,5,none⟩=some (.map (some (A.sm i))):=sD.cell (o:=5) rfl
  have ff3:=sD.frozen 4
  have wy:=sD.set 4 (.bool true)
  have AU:Fr (fun k=>k=A.pw i) w1 (w2.setCell ⟨A.pw i,4,none⟩ (.bool true)):=(Fr.Fp hB).setCell (M:=fun k=>k=A.pw i) (p:=⟨A.pw i,4,none⟩) rfl _
  have G0:aK (w2.setCell ⟨A.pw i,4,none⟩ (.bool true)) prog 3 (A.sm i) (bL s A i m):=AU.map mU L6
  obtain⟨n,D,hown,hs⟩:=G0
  have V4:(w2.setCell ⟨A.pw i,4,none⟩ (.bool true)).heap.size=w2.heap.size:=by simp[World.setCell]
  go_wp2_with (at_range;refine wpList_range_own _ rfl _ 162 rfl 3 168 eD underlying162 aL (A.sm i) n D rfl hown ?_;intro w0 tC Aq hs0)
  go_frame
  rw[V4]at tC hs0⊢
  have afu:=hB.size
  generalize hx:w2.setCell ⟨A.pw i,4,none⟩ (.bool true)=X at *
  have hSX:∀q:Nat,az s.parts m.items q=true->aT X (A.sh i q) #[ptr (A.pb q),.int .i64 (bD m q),if m.dL q then dV else A.iv i q] 174:=fun q ho=>AU.blk (oN q ho) (rA q ho)
  have hPX:∀q,q<s.parts->aT X (A.pb q) #[fy,gF,.map (some (A.kb q)),.map (some (A.vb q))] 202:=fun q hq=>AU.blk (Ma q hq) (hpw q hq)
  have hKX:∀q,q<s.parts->aK X prog 3 (A.kb q) (bE s A q):=fun q hq=>AU.map (Mb q hq) (fun e=>yc q hq e.symm)
  have hn1: -9223372036854775808<=(i:Int)+1:=by omega
  have hn2:(i:Int)+1<=9223372036854775807:=by omega
  clear oN Ma Mb ca
  go_loopw [4] (fun _ wr=>∃left cnt,wr.ranges prog 3 aL (A.sm i) w2.heap.size n D left cnt/\Fr (fun k=>∃q,q<s.parts/\k=A.kb q) X wr/\Hid (∀q,q<s.parts->aK wr prog 3 (A.kb q) (iO s A i m left q))) (fun _ wr=>wr.rangeLeft (A.sm i) w2.heap.size)
  case atStart=>
   refine⟨_,_,tC,⟨Aq.os,Aq.tape,Aq.output,Aq.size,fun k hk _=>Aq.block k hk (by simp)⟩,fun q hq=>?_⟩
   have e1:iO s A i m (Maps.has D) q=bE s A q:=by
    unfold iO;rw[hs.2];simp only[bL];by_cases ho:az s.parts m.items q=true
    ·simp[ho]
    ·simp[ho]
   rw[e1]
   exact(hKX q hq).of_eq (Aq.block _ (hKX q hq).lt (by simp))
  case round=>
   obtain⟨left,cnt,lm,hF,HK⟩:=hrel
   go_wp2_with (at_next;refine tK _ rfl _ rfl 3 eD underlying3 (A.sm i) w2.heap.size n D (bL s A i m) hs (fun x=>A.sh i x.toNat) _ hfs left cnt rfl lm ?_ ?_)
   ·intro hl0
    have HC:Hid (∀q,q<s.parts->aK wr prog 3 (A.kb q) (del (bE s A q) (.int .i64 ((i:Int)+1)))):=by
     intro q hq;have:=HK.out q hq;unfold iO at this;rw[hl0]at this;cases ho:az s.parts m.items q
     ·rw[ho]at this;rw[Mc h hm hc ho];simpa using this
     ·rw[ho]at this;simpa using this
    have hWr:=hF.blk wy (fun⟨q,hq,e⟩=>yc q hq e)
    clear hl0
    go_wp2_with fail
    refine leaves_cons (f:=38) (args:=#[.pointer (some ⟨A.pw i,0,none⟩)]) (by simp) (by simp[go_sem]) ?_
    refine(unlock_deferred Tryz.a9 ⟨A.pw i,0,none⟩ .returning _ (hWr.cell (o:=0) rfl) (hWr.frozen 0)).mono ?_
    rintro e u' w'' ⟨rfl,rfl,rfl⟩
    refine⟨_,results_tmp rfl _ _ _,Or.inr ⟨trivial,rfl,⟨⟨hF.os.trans (AU.os.trans hos.1),hF.tape.trans (AU.tape.trans hos.2.1),hF.output.trans (AU.output.trans hos.2.2),?_,fun k hk hM=>?_⟩,fun q hq=>(HC.out q hq).of_eq (zaa _ _ _ _ (fun e=>yc q hq e.symm))⟩⟩⟩
    ·have h1:=hF.size
     have h2:=AU.size
     simp[World.setCell];omega
    ·have Wx:k≠A.pw i:=fun e=>hM (Or.inl e)
     have h2:=AU.size
     rw[zaa _ _ _ _ Wx,hF.block k (by omega) (fun e=>hM (Or.inr e)),AU.block k (by omega) Wx,eK k Wx]
   ·intro x w4 CO hx0 hx1 Rl EG uY hlt kC hs1 q9
    obtain⟨q,rfl⟩:=zai hx0
    simp only[Int.toNat_natCast]at q9⊢
    have hq:q<s.parts:=by omega
    have hrl:=lm.lt
    have hsF:=hF.size
    have Rm:Fr (fun k=>∃q,q<s.parts/\k=A.kb q) X w4:=⟨kC.os.trans hF.os,kC.tape.trans hF.tape,kC.output.trans hF.output,by omega,fun k hk hM=>(kC.block k (by omega) (fun e=>by have:=Option.some.inj e;omega)).trans (hF.block k hk hM)⟩
    have hS4:=Rm.blk (hSX q Rl) (fun⟨q',fU,e⟩=>hks q' q fU Rl e)
    have V9:=Rm.blk wy (fun⟨q',fU,e⟩=>yc q' fU e)
    have G1:=Rm.blk (hPX q hq) (fun⟨q',fU,e⟩=>hkp q' q fU hq e)
    have hK4:∀q',q'<s.parts->aK w4 prog 3 (A.kb q') (iO s A i m left q'):=fun q' fU=>(HK.out q' fU).of_eq (kC.block _ (HK.out q' fU).lt (fun e=>by have:=Option.some.inj e;have:=(hKX q' fU).lt;omega))
    have hKq:aK w4 prog 3 (A.kb q) (bE s A q):=by have:=hK4 q hq;unfold iO at this;rw[EG]at this;simpa using this
    have e0:w4.cell? ⟨A.sh i q,0,none⟩=some (.pointer (some ⟨A.pb q,0,none⟩)):=hS4.cell (o:=0) rfl
    have e2:w4.cell? ⟨A.pw i,2,none⟩=some (.int .i64 ((i:Int)+1)):=V9.cell (o:=2) rfl
    have tN:A.sh i q≠A.kb q:=hks q q hq Rl
    have hwq:=yc q hq
    have HM:Hid (∀w5:World,rz w4 w5 (A.kb q)->aK w5 prog 3 (A.kb q) (del (bE s A q) (.int .i64 ((i:Int)+1)))->∀q',q'<s.parts->aK w5 prog 3 (A.kb q') (iO s A i m (fun z=>left z && !z.sameKey (.int .i64 q)) q')):=by
     intro w5 Df hM5 q' fU;by_cases e:q'=q
     ·subst e;have e1:iO s A i m (fun z=>left z && !z.sameKey (.int .i64 q')) q'=del (bE s A q') (.int .i64 ((i:Int)+1)):=by have e2:(Lit.int .i64 (q':Int)).sameKey (.int .i64 q')=true:=mP (by trivial);unfold iO;simp only[Rl,e2,Bool.not_true,Bool.and_false,Bool.not_false,Bool.and_true,if_true]
      rw[e1];exact hM5
     ·have e1:iO s A i m (fun z=>left z && !z.sameKey (.int .i64 q)) q'=iO s A i m left q':=by have e2:(Lit.int .i64 (q':Int)).sameKey (.int .i64 q)=false:=Maps.sameKey_ne (by intro e2;injection e2 with _ e2;omega);unfold iO;simp only[e2,Bool.not_false,Bool.and_true]
      rw[e1];exact(hK4 q' fU).of_eq (Df.block _ (hkk q q' hq fU (fun e2=>e e2.symm)))
    have hr5:∀w5:World,rz w4 w5 (A.kb q)->w5.ranges prog 3 aL (A.sm i) w2.heap.size n D (fun z=>left z && !z.sameKey (.int .i64 q)) CO/\Fr (fun k=>∃q,q<s.parts/\k=A.kb q) X w5:=fun w5 Df=>
     ⟨uY.kept Df.grown (fun e=>hkm q hq (Option.some.inj e)) (fun e=>by have:=Option.some.inj e;have:=(hKX q hq).lt;omega),Rm.trans (Fr.PI (M:=fun k=>∃q,q<s.parts/\k=A.kb q) Df ⟨q,hq,rfl⟩)⟩
    have HR5:=(show Hid _ from hr5)
    clear hr5 EG Rl hK4 hSX hPX hs hfs
    go_wp2_with fail
    go_region_held3 (fun W=>W.cell? ⟨A.sh i q,0,none⟩=some (.pointer (some ⟨A.pb q,0,none⟩))/\W.cell? ⟨A.pw i,2,none⟩=some (.int .i64 ((i:Int)+1))) (simp[*]) ((go_at_call 92;refine(aaF (A.pb q) (A.kb q) (A.vb q) (bE s A q) (by exact G1) (by exact hKq) _ hn1 hn2).mono ?_;rintro e w5 ⟨rfl,hM5,Df⟩;have Zo:=hS4.of_eq (Df.block _ tN);have hW5:=V9.of_eq (Df.block _ hwq);have k0:=Zo.cell (o:=0) (v:=.pointer (some ⟨A.pb q,0,none⟩)) rfl;have k2:=hW5.cell (o:=2) (v:=.int .i64 ((i:Int)+1)) rfl))
    have aaL:rz w4 w5 (A.kb q):=⟨Df.os,Df.tape,Df.output,Df.size,Df.block⟩
    obtain⟨r1,r2⟩:=HR5.out w5 aaL
    have r3:=HM.out w5 aaL hM5
    go_roundw
    case rel=>(repeat apply Exists.intro);exact⟨⟨_,_,r1,r2,r3⟩,rfl⟩
    case measure=>rw[r1.left_eq,lm.left_eq];omega
end
end
section
open Go Go.RowKit Go.MuLone
open Go.Maps (Keyed)
section
variable {w:World}{τ:Nat->Tag}{aD b:Nat}{s:MS}{A:SA}
theorem OU(hi:∀q,m.comm q=true->q<4)(h:(m.comm 0 || m.comm 1 || m.comm 2 || m.comm 3)=false):∀q,m.comm q=false:=by
 intro q;cases hc:m.comm q
 ·rfl
 ·have:=hi q hc;have:q=0\/q=1\/q=2\/q=3:=by omega
  simp only[Bool.or_eq_false_iff]at h;rcases this with rfl|rfl|rfl|rfl<;>simp_all
theorem RV(h:aW w τ aD b s A)(n:Int)(hn: -9223372036854775808<=n)(hn':n<=9223372036854775807):
 Calls prog 30 #[ptr b,.int .i64 n] w (oH w τ aD b (jd s n)):=by
 have c:=yU h n hn hn';cases hf:bF s n with
 |none=>
  have Hr:Hid (jd s n=(7,s)):=by unfold Hid jd;rw[hf]
  have hv:eT s A n=(.pointer none,false):=by unfold eT;rw[hf]
  rw[hv]at c;unfold ptr at c⊢;clear hf hv;go_enter func30,ntmps30;go_wp2_with fail
  refine c.mono ?_;rintro e w1 ⟨rfl,hS⟩;go_wp2_with fail
  go_ret;rw[Hr.out];exact⟨A,rfl,h.same hS,hS.nG _ _⟩
 |some m=>
  have hv:eT s A n=(ptr (A.pw (n-1).toNat),true):=by unfold eT;rw[hf]
  rw[hv]at c;obtain⟨h1,h2,hm,hc⟩:=eP hf;have HY:=h.ok.p4;have hp1:=h.ok.p1;have c2:∀w1,u6 w w1->_:=fun w1 hS=>Iq (h.same hS) (n-1).toNat m hm hc;have hnj:n=((n-1).toNat:Int)+1:=by omega
  have H9:Hid ((m.comm 0 || m.comm 1 || m.comm 2 || m.comm 3)=true->jd s n=(9,s)):=by intro ha;unfold jd;rw[hf];simp only[ha,if_true]
  have H0:Hid ((m.comm 0 || m.comm 1 || m.comm 2 || m.comm 3)=false->jd s n=(0,setAt s (n-1).toNat {m with ed:=true})):=by intro ha;unfold jd;rw[hf];simp only[ha];rfl
  have hci:∀q,m.comm q=true->q<4:=fun q Ee=>by have ho:=h.inv.po _ m q hm (h.inv.cp _ m q hm Ee);have:=(dw (by omega) ho).2;omega
  generalize (n-1).toNat=j at *;have Hnj:Hid (n=(j:Int)+1):=hnj;unfold ptr at c c2⊢;clear hf hv hnj;go_enter func30,ntmps30;go_wp2_with fail
  refine c.mono ?_;rintro e w1 ⟨rfl,hS⟩;have c3:=c2 w1 hS;clear c c2;go_wp2_with fail
  refine c3.mono ?_;rintro e w2 (⟨hcm,rfl,hB⟩|⟨hcm,rfl,hC⟩)
  ·have Hr:Hid (jd s n=(9,s)):=H9.out hcm;clear c3 hcm;go_wp2_with fail
   go_ret;rw[Hr.out];have dP:Below w.heap.size w w2:=⟨hB.os.trans hS.os,hB.tape.trans hS.tape,hB.output.trans hS.output,by have:=hB.size;rw[hS.heap]at this;exact this,fun k hk=>(hB.block k (by rw[hS.heap];exact hk)).trans (by rw[hS.heap])⟩
   exact⟨A,rfl,h.below dP,⟨dP.os,dP.tape,dP.output,dP.size,fun _ _=>rfl,fun k hk _=>dP.block k hk⟩⟩
  ·have Hr:Hid (jd s n=(0,setAt s j {m with ed:=true})):=H0.out hcm;have hnc:=OU hci hcm;have hF:Fr (fun k=>k=A.pw j\/∃q,q<s.parts/\k=A.kb q) w w2:=(Fr.of_same hS).trans hC.fr;have LP:¬(b=A.pw j\/∃q,q<s.parts/\b=A.kb q):=by
    rintro(e|⟨q,hq,e⟩)
    ·have h1:=h.fB j m hm hc;rw[<-e,h.tag]at h1;simp at h1
    ·have h1:=h.cC q hq;rw[<-e,h.tag]at h1;simp at h1
   have aai:¬(A.wm=A.pw j\/∃q,q<s.parts/\A.wm=A.kb q):=by
    rintro(e|⟨q,hq,e⟩)
    ·have h1:=h.fB j m hm hc;rw[<-e,h.iU]at h1;simp at h1
    ·have h1:=h.cC q hq;rw[<-e,h.iU]at h1;simp at h1
   have kQ:=hF.blk h.blk LP;have hm2:=hF.map h.sC aai;have c4:=Ir (w:=w2) b A.wm _ (cL s A) kQ rfl rfl hm2 n hn hn';unfold ptr at c4;clear c3 hcm;go_wp2_with fail
   refine c4.mono ?_;rintro e w3 ⟨rfl,G0,lU⟩;clear c4;go_wp2_with fail
   go_ret;rw[Hr.out];have hkm:∀q,q<s.parts->A.kb q≠A.wm:=fun q hq e=>aai (Or.inr ⟨q,hq,e.symm⟩);have w8:=hF.size;rw[Hnj.out]at G0;refine⟨A,rfl,h.ed hm hc hnc (fun k hk hkb hkp yc=>?_) (fun q hq=>(hC.kept q hq).of_eq (lU.block _ (hkm q hq))) G0,?_⟩
   ·exact(lU.block k yc).trans (hF.block k hk (by rintro(e|⟨q,hq,e⟩);exact hkp e;exact hkb q hq e))
   ·refine⟨lU.os.trans hF.os,lU.tape.trans hF.tape,lU.output.trans hF.output,by rw[lU.size];exact hF.size,fun _ _=>rfl,fun k hk hs=>?_⟩;refine(lU.block k (fun e=>hs (by rw[e,h.iU]))).trans (hF.block k hk ?_);rintro(e|⟨q,hq,e⟩)
    ·exact hs (by rw[e,h.fB j m hm hc])
    ·exact hs (by rw[e,h.cC q hq])
end
end
section
open Go Go.RowKit Go.MuLone
section
variable {w:World}
theorem OV(a v key:ByteArray)(ib:Nat)(ck:w.cell? ⟨ib,0,none⟩=some (.string key)):
 Calls prog 83 #[.agg #[.string a,.string v],.pointer (some ⟨ib,0,none⟩)] w fun e w'=>e=.returned (.bool (decide (a=key)))/\Below w.heap.size w w':=by
 have hlt:=zaf w _ ck;simp only at hlt;have hne:ib≠w.heap.size:=by omega
 by_cases he:a=key
 ·have hb:=sY he;have Hr:Hid (decide (a=key)=true):=decide_eq_true he;clear he;go_enter func83,ntmps83;go_wp2;go_ret;exact⟨dH (by rw[Hr.out]),(Below.refl _ _).alloc (zac _) _⟩
 ·have hb:=sX he;have Hr:Hid (decide (a=key)=false):=decide_eq_false he;clear he;go_enter func83,ntmps83;go_wp2;go_ret;exact⟨dH (by rw[Hr.out]),(Below.refl _ _).alloc (zac _) _⟩
theorem AK(key:ByteArray)(ib gb go:Nat)(L:List KV)(cap:Nat)(hL:L.length<=8)(ck:w.cell? ⟨ib,0,none⟩=some (.string key))
 (hcell:∀(k:Nat) (x:KV),L[k]?=some x->w.cell? ⟨gb,go+k*2,none⟩=some (.string x.1)/\w.cell? ⟨gb,go+k*2+1,none⟩=some (.string x.2)) (n:Nat) (hn:n<=L.length):
 Calls prog 128 #[.slice (some ⟨gb,go,none⟩) n cap,.func (Fn.func 83) #[] #[.pointer (some ⟨ib,0,none⟩)]] w fun e w'=>∃r:Int,e=.returned (.int .i64 r)/\-1<=r/\(decide (0<=r)=aH (L.take n) key)/\Below w.heap.size w w':=by
 go_enter func128,ntmps128;go_wp2_with fail
 go_loopw [8] (fun u wr=>∃k:Nat,k<=n/\u=.int .i64 k/\Below w.heap.size w wr/\Hid (aH (L.take k) key=false)) (fun u _=>n-(intOf u).toNat)
 case atStart=>exact⟨0,zag _,rfl,Below.refl _ _,by simp[Hid,aH]⟩
 case round=>
  obtain⟨k,hk,rfl,hB,HN⟩:=hrel;by_cases hlt:k<n
  ·have hx:L[k]?=some L[k]:=zad (by omega);obtain⟨c1,c2⟩:=hcell k _ hx;have V3:=(hB.cell (p:=⟨gb,go+k*2,none⟩) (zaf w _ c1)).trans c1;have c2':=(hB.cell (p:=⟨gb,go+k*2+1,none⟩) (zaf w _ c2)).trans c2;have XH:=(hB.cell (p:=⟨ib,0,none⟩) (zaf w _ ck)).trans ck;generalize L[k]=x at *;obtain⟨kk,vv⟩:=x;simp only at V3 c2';clear c1 c2 hcell;have cs:=OV kk vv key ib XH;have hst:aH (L.take (k+1)) key=(aH (L.take k) key || decide (kk=key)):=by rw[J5 hx,EZ]
   rw[HN.out,Bool.false_or]at hst;cases hd:decide (kk=key)with
   |true=>
    rw[hd]at cs hst;have HT:Hid (aH (L.take n) key=true):=EY (k:=n) (j:=k) hlt hx (of_decide_eq_true hd);clear hst hd hx;go_wp2_with fail
    refine cs.mono ?_;rintro e w2 ⟨rfl,dP⟩;clear cs;go_wp2_with fail
    go_ret;refine⟨k,rfl,by omega,?_,hB.trans (dP.mono hB.size)⟩;rw[HT.out];simp
   |false=>
    rw[hd]at cs hst;have HN':Hid (aH (L.take (k+1)) key=false):=hst;clear hst hd hx;go_wp2_with fail
    refine cs.mono ?_;rintro e w2 ⟨rfl,dP⟩;clear cs;go_wp2_with fail
    go_roundw
    case rel=>exact⟨k+1,by omega,by go_num,hB.trans (dP.mono hB.size),HN'⟩
    case measure=>simp[intOf];omega
  ·have hkn:k=n:=by omega
   have HT:Hid (aH (L.take n) key=false):=by rw[<-hkn];exact HN
   clear hcell hkn;go_wp2_with fail
   go_ret;refine⟨-1,rfl,by omega,?_,hB⟩;rw[HT.out];rfl
theorem C3(key:ByteArray)(ib gb go:Nat)(L:List KV)(cap:Nat)(hL:L.length<=8)(ck:w.cell? ⟨ib,0,none⟩=some (.string key))
 (hcell:∀(k:Nat) (x:KV),L[k]?=some x->w.cell? ⟨gb,go+k*2,none⟩=some (.string x.1)/\w.cell? ⟨gb,go+k*2+1,none⟩=some (.string x.2)) (n:Nat) (hn:n<=L.length):
 Calls prog 84 #[.slice (some ⟨gb,go,none⟩) n cap,.func (Fn.func 83) #[] #[.pointer (some ⟨ib,0,none⟩)]] w fun e w'=>e=.returned (.bool (aH (L.take n) key))/\Below w.heap.size w w':=by
 have c:=AK key ib gb go L cap hL ck hcell n hn;clear hcell;go_enter func84,ntmps84;go_wp2_with fail
 refine c.mono ?_;rintro e w2 ⟨r,rfl,GR,Q3,hB⟩;have HR:Hid (decide (0<=r)=aH (L.take n) key):=Q3;clear c Q3;go_wp2_with fail
 go_ret;exact⟨dH HR.out,hB⟩
end
end
section
open Go Go.RowKit Go.MuLone
section
variable {w:World}
def gx(n:Int):Bool:=decide (1<=n)&& decide (n<=8)
theorem oc(n:Int)(w:World):Calls prog 68 #[.int .i64 n] w fun e w'=>e=.returned (.bool (gx n))/\w'=w:=by
 by_cases h1:1<=n
 ·by_cases h2:n<=8
  ·go_enter func68,ntmps68;go_wp2;go_ret;exact⟨dH (by simp[gx,h1,h2]),rfl⟩
  ·go_enter func68,ntmps68;go_wp2;go_ret;exact⟨dH (by simp[gx,h1,h2]),rfl⟩
 ·go_enter func68,ntmps68;go_wp2;go_ret;exact⟨dH (by unfold gx;rw[decide_eq_false (show ¬1<=n by omega)];rfl),rfl⟩
theorem w9(a:Option Addr)(L:List KV)(cap:Nat)(hL:L.length<=maxLen)(hs:L.length<1\/8<L.length):
 Calls prog 47 #[.slice a L.length cap] w fun e w'=>e=.returned (.int .i64 (eC L))/\Below w.heap.size w w':=by
 have Hr:Hid (eC L=3):=by unfold Hid eC;rw[if_pos hs]
 unfold maxLen at hL;have cz:=oc L.length w;have hg:gx L.length=false:=by
  unfold gx;rcases hs with e|e
  ·rw[decide_eq_false (by omega)];rfl
  ·rw[Bool.and_eq_false_iff];exact Or.inr (decide_eq_false (by omega))
 rw[hg]at cz;clear hs hg;go_enter func47,ntmps47;go_wp2_with (go_at_call 68;refine cz.mono ?_;rintro e w' ⟨rfl,rfl⟩)
 go_ret;exact⟨iu Hr.out.symm,Below.refl _ _⟩
theorem xa(gb go:Nat)(L:List KV)(cap:Nat)(h1:1<=L.length)(h8:L.length<=8)(Sw:L.length<=cap)(hcm:cap<=maxLen)(hz:xI L)
 (hcell:∀(k:Nat) (x:KV),L[k]?=some x->w.cell? ⟨gb,go+k*2,none⟩=some (.string x.1)/\w.cell? ⟨gb,go+k*2+1,none⟩=some (.string x.2)):
 Calls prog 47 #[.slice (some ⟨gb,go,none⟩) L.length cap] w fun e w'=>e=.returned (.int .i64 (eC L))/\Below w.heap.size w w':=by
 have g1:¬L.length<1:=by omega
 have g2:¬8<L.length:=by omega
 have Rz:∀(fn:Fn) (first cap:Array Value) (w:World),(Instr.makeFunc fn first cap).run prog w=.ok (.func fn first cap) w:=fun _ _ _ _=>rfl;have HC:Hid (eC L=cF [] L):=by unfold Hid eC;rw[if_neg (by omega)]
 unfold maxLen at hcm;have cz:=oc L.length w;have AL:gx L.length=true:=by unfold gx;rw[decide_eq_true (show (1:Int)<=L.length by omega),decide_eq_true (show (L.length:Int)<=8 by omega)];rfl
 rw[AL]at cz;clear AL;go_enter func47,ntmps47;go_wp2_with (go_at_call 68;refine cz.mono ?_;rintro e w' ⟨rfl,hw0⟩;obtain rfl:=hw0.symm)
 clear cz;go_loopw [12] (fun u wr=>∃k:Nat,k<=L.length/\u=.int .i64 k/\Below w.heap.size w wr/\Hid (cF [] L=cF (L.take k) (L.drop k))) (fun u _=>L.length-(intOf u).toNat)
 case atStart=>exact⟨0,zag _,rfl,Below.refl _ _,by simp[Hid]⟩
 case round=>
  obtain⟨k,hk,rfl,hB,HK⟩:=hrel;by_cases hlt:k<L.length
  ·have hx:L[k]?=some L[k]:=zad hlt;obtain⟨c1,c2⟩:=hcell k _ hx;have hgb:gb<w.heap.size:=zaf w _ c1;have V3:=(hB.cell (p:=⟨gb,go+k*2,none⟩) hgb).trans c1;have c2':=(hB.cell (p:=⟨gb,go+k*2+1,none⟩) hgb).trans c2;obtain⟨hs1,Og⟩:=hz _ (List.getElem_mem hlt);generalize L[k]=x at *;obtain⟨kk,vv⟩:=x;simp only at V3 c2' hs1 Og;clear c1 c2;have Ul:Below w.heap.size w (wr.alloc (.cells #[.string kk,.string vv] 70)):=hB.alloc hB.size _;have cI0:(wr.alloc (.cells #[.string kk,.string vv] 70)).cell? ⟨wr.heap.size,0,none⟩=some (.string kk):=(aT.new wr _ _).cell (o:=0) rfl;have cI1:(wr.alloc (.cells #[.string kk,.string vv] 70)).cell? ⟨wr.heap.size,1,none⟩=some (.string vv):=(aT.new wr _ _).cell (o:=1) rfl;have ck:=u7 kk (wr.alloc (.cells #[.string kk,.string vv] 70)) hs1;have cc:=C3 (w:=wr.alloc (.cells #[.string kk,.string vv] 70)) kk wr.heap.size gb go L cap h8 cI0 (fun j y hy=>⟨(Ul.cell (p:=⟨gb,go+j*2,none⟩) hgb).trans (hcell j y hy).1,(Ul.cell (p:=⟨gb,go+j*2+1,none⟩) hgb).trans (hcell j y hy).2⟩) k hk;unfold maxLen at hs1 Og;by_cases Iu:gj (kk,vv)=false
   ·have Hr:Hid (eC L=4):=by unfold Hid;rw[HC.out,HK.out,CN hx,Lr Iu]
    clear hcell cc;cases yB:bK kk with
    |false=>
     rw[yB]at ck;clear Iu yB hx;go_wp2_with (go_at_call 49;refine ck.mono ?_;rintro e w' ⟨rfl,rfl⟩)
     go_ret;exact⟨iu Hr.out.symm,Ul⟩
    |true=>
     have aeO:¬vv.size<=64:=fun e=>by simp[gj,yB,e]at Iu
     rw[yB]at ck;clear Iu yB hx;go_wp2_with (go_at_call 49;refine ck.mono ?_;rintro e w' ⟨rfl,rfl⟩)
     go_ret;exact⟨iu Hr.out.symm,Ul⟩
   ·have hg:gj (kk,vv)=true:=by simpa using Iu
    have aeO:vv.size<=64:=(gO hg).2.2;have yB:bK kk=true:=by simp[gj]at hg;exact hg.1
    rw[yB]at ck;cases hh:aH (L.take k) kk with
    |true=>
     have Hr:Hid (eC L=5):=by unfold Hid;rw[HC.out,HK.out,CN hx,EX hg hh]
     rw[hh]at cc;clear Iu yB hx hh hcell hg;go_wp2_with (go_at_call 49;refine ck.mono ?_;rintro e w' ⟨rfl,rfl⟩)
     refine cc.mono ?_;rintro e w2 ⟨rfl,dP⟩;clear ck cc;go_wp2_with fail
     go_ret;exact⟨iu Hr.out.symm,Ul.trans (dP.mono Ul.size)⟩
    |false=>
     have HK':Hid (cF [] L=cF (L.take (k+1)) (L.drop (k+1))):=by unfold Hid;rw[HK.out,CN hx,ER hg hh,J5 hx]
     rw[hh]at cc;clear Iu yB hx hh hcell hg;go_wp2_with (go_at_call 49;refine ck.mono ?_;rintro e w' ⟨rfl,rfl⟩)
     refine cc.mono ?_;rintro e w2 ⟨rfl,dP⟩;clear ck cc;go_wp2_with fail
     go_roundw
     case rel=>exact⟨k+1,by omega,by go_num,Ul.trans (dP.mono Ul.size),HK'⟩
     case measure=>simp[intOf];omega
  ·have Hr:Hid (eC L=0):=by unfold Hid;rw[HC.out,HK.out,show k=L.length from by omega,List.drop_length];rfl
   clear hcell;go_wp2_with fail
   go_ret;exact⟨iu Hr.out.symm,hB⟩
theorem yV(a:Option Addr)(L:List KV)(cap:Nat)(hL:L.length<=maxLen)(Sw:L.length<=cap)(hcm:cap<=maxLen)(hz:xI L)(hI:xH w a L):
 Calls prog 47 #[.slice a L.length cap] w fun e w'=>e=.returned (.int .i64 (eC L))/\Below w.heap.size w w':=by
 by_cases hs:L.length<1\/8<L.length
 ·exact w9 a L cap hL hs
 ·obtain⟨ib,io,rfl,c0,_⟩:=hI 0 L[0] (zad (by omega));refine xa ib io L cap (by omega) (by omega) Sw hcm hz (fun k x hx=>?_);obtain⟨ib',io',e,r⟩:=hI k x hx;cases e;exact r
end
end
section
open Go Go.RowKit Go.MuLone
section
variable {w:World}
theorem yX:(prog.info? 5).map (fun i=>(i.zero,i.size,i.bytes))=some (some (.int .u8 0),1,1):=by kernel_rfl
theorem J0:(prog.info? 70).map (fun i=>(i.zero,i.size,i.bytes))=some (some (.agg #[.string ByteArray.empty,.string ByteArray.empty]),2,32):=by kernel_rfl
theorem yY(n:Nat)(hn:n<=1000)(W:World):∃M:Array Value,M.size=n/\(Instr.makeSlice 116 (.int .i64 (n:Int)) (.int .i64 (n:Int))).run prog W=.ok (.slice (some ⟨W.heap.size,0,none⟩) n n) (W.alloc (.cells M 5)):=by obtain⟨i0,hi,hz0,LK,OL⟩:=info_parts yX;have h:=run_make (P:=prog) W 116 5 i0 (.int .u8 0) underlying116 hi hz0 .i64 .i64 (n:Int) (n:Int) (by omega) (by omega) (by rw[OL];omega) (by omega);refine⟨_,?_,by simpa using h⟩;rw[size_madeCells,LK];simp
theorem OW(s:ByteArray)(hs:s.size<=1000):Calls prog 129 #[.string s] w fun e w'=>e=.returned (.string s)/\Below w.heap.size w w':=by
 by_cases h0:s.size=0
 ·obtain rfl:s=⟨#[]⟩:=ByteArray.ext (Array.eq_empty_of_size_eq_zero h0);clear h0;go_enter func129,ntmps129;go_wp2;go_ret;exact⟨rfl,Below.refl _ _⟩
 ·obtain⟨i0,hi,hz0,LK,OL⟩:=info_parts yX;have hsz:(prog.info? 5).map (·.size)=some 1:=by rw[hi];simp[LK]
  have hco:prog.cellsOf 5=1:=by simp[Program.cellsOf,hi,LK]
  obtain⟨M,hM,hmk⟩:=yY s.size hs w;have hlen:s.data.toList.length=s.size:=(Lib.size_eq s).symm;have Kc:=Lib.run_copy_row_string (P:=prog) (w.alloc (.cells M 5)) 116 9 3 5 w.heap.size 0 s.size s.size s M 5 underlying116 hsz (heap_alloc_new w _) (zac _) (by omega);generalize hY:(M.toList.take 0++Lib.byteCells s.data.toList++M.toList.drop (0+s.size)).toArray=Y at Kc;have hYl:Y.toList=Lib.byteCells s.data.toList:=by rw[<-hY];simp[<-hM]
  have hYs:Y.size=s.size:=by rw[<-zah,hYl,Lib.byteCells_length,hlen]
  have hg:((w.alloc (.cells M 5)).setRow w.heap.size Y).heap[w.heap.size]?=some (.cells Y 5 (0,0)):=setRow_heap _ _ M _ 5 (0,0) (heap_alloc_new w _);have hus:=Lib.run_unsafeString_row (P:=prog) ((w.alloc (.cells M 5)).setRow w.heap.size Y) 242 3 9 5 underlying242 hco w.heap.size Y.size (by unfold World.shape?;rw[hg]) s.data.toList (fun e=>h0 (by rw[<-hlen,e];rfl)) (by omega) (by omega)
   (fun j x hx=>Lib.cells_of_row hg Y.size j _ (by rw[zaj (by rw[zah];exact zac _),hYl];simp[Lib.byteCells,hx]))
  rw[hlen]at hus;clear hY;go_enter func129,ntmps129;go_wp2;go_ret;have b1:Below w.heap.size w ((w.alloc (.cells M 5)).setRow w.heap.size Y):=((Below.refl _ w).alloc (zac _) _).trans ⟨rfl,rfl,rfl,by simp,fun k hk=>setRow_other _ _ _ _ (by omega)⟩;exact⟨rfl,Lib.below_freeze b1 (p:=⟨w.heap.size,0,none⟩) (zac _) _⟩
theorem u9(s:ByteArray)(hs:s.size<=1000):Calls prog 85 #[.string s] w fun e w'=>e=.returned (.string s)/\Below w.heap.size w w':=by
 have c:=OW (w:=w) s hs;go_enter func85,ntmps85;go_wp2_with fail
 refine c.mono ?_;rintro e w2 ⟨rfl,hB⟩;clear c;go_wp2_with fail
 go_ret;exact⟨rfl,hB⟩
end
end
section
open Go Go.RowKit Go.MuLone
open Go.Maps (Keyed)
def AM(P:Nat)(sh:Nat->Nat)(L:List KV):Lit->Option Value
 |.int .i64 q=>if az P L q=true then some (ptr (sh q.toNat))else none
 |_=>none
structure fX(w:World)(τ:Nat->Tag)(aD i P:Nat)(pb:Nat->Nat)(pw sm:Nat)(sh:Nat->Nat)(iv:Nat->Value)(sv kv:Value)(K:List ByteArray)(L:List KV)(B0:Nat):Prop where
 blk:aT w pw #[fy,gF,.int .i64 ((i:Int)+1),sv,.bool false,.map (some sm)] 164
 tag:τ pw=(aD,6,i)
 map:aK w prog 3 sm (AM P sh L)
 gU:τ sm=(aD,7,i)
 LQ:∀q:Nat,az P L q=true->aT w (sh q) #[ptr (pb q),.int .i64 0,iv q] 174
 cG:∀q:Nat,az P L q=true->τ (sh q)=(aD,8,i*4+q)
 it:∀q:Nat,az P L q=true->w.ownsRow 0 70 2 (iv q) (aZ P L q).length (aY (aZ P L q))
 fA:∀(q k:Nat),az P L q=true->(iv q).ownBlock=some k->τ k=(aD,9,i*4+q)
 ky:w.ownsRow 0 9 1 kv K.length (K.map Value.string)
 dF:∀k,kv.ownBlock=some k->τ k=(aD,15,i)
 lo:B0<=pw/\B0<=sm
 Iv:∀q:Nat,az P L q=true->B0<=sh q
 Iw:∀(q k:Nat),az P L q=true->(iv q).ownBlock=some k->B0<=k
 Nf:∀k,kv.ownBlock=some k->B0<=k
theorem lZ(n:Int)(L:List KV)(x:KV)(q:Int):az n (L++ [x]) q=(az n L q || decide (partOf n x.1=q)):=by simp[az]
theorem tG(n:Int)(L:List KV)(x:KV)(q:Int):aZ n (L++ [x]) q=aZ n L q++(if partOf n x.1=q then [x]else []):=by unfold aZ;rw[List.filter_append];by_cases h:partOf n x.1=q<;>simp[h]
theorem Ff{q:Int}(h:az n L q=false):aZ n L q= []:=by simp only[az,List.any_eq_false,decide_eq_true_eq]at h;exact List.filter_eq_nil_iff.2 (fun x hx=>by simpa using h x hx)
theorem fM{p q:Addr}{v:Value}(h:q.block≠p.block):(w.setCell p v).cell? q=w.cell? q:=zae (w:=w) (zaa _ _ _ _ h)
theorem Sx{t:TypeId}(dP:Below (X.alloc (.cells c t)).heap.size (X.alloc (.cells c t)) w2):aT w2 X.heap.size c t:=
 (aT.new X c t).of_eq (dP.block _ (by simp))
theorem OX{t:TypeId}(dP:Below (X.alloc (.cells c t)).drew.heap.size (X.alloc (.cells c t)).drew w2):aT w2 X.heap.size c t:=
 (aT.new X c t).of_eq (dP.block _ (by show X.heap.size< (X.alloc (.cells c t)).heap.size;simp))
theorem Ke{t:TypeId}{x y:Value}(h:aT w b #[x,y] t)(k v:ByteArray):aT ((w.setCell ⟨b,0,none⟩ (.string k)).setCell ⟨b,1,none⟩ (.string v)) b #[.string k,.string v] t:=by have:=(h.set 0 (.string k)).set 1 (.string v);simpa using this
theorem OY{t:TypeId}(dP:Below X.heap.size X w2)(h:aT X b c t):aT w2 b c t:=h.of_eq (dP.block _ h.lt)
section
variable {w:World}{τ:Nat->Tag}{aD i P:Nat}{pb:Nat->Nat}{pw sm:Nat}{sh:Nat->Nat}{iv:Nat->Value}{sv kv:Value}{K:List ByteArray}{L:List KV}{B0:Nat}
structure OZ(w wx:World)(τ:Nat->Tag)(aD i P:Nat)(pb:Nat->Nat)(pw sm:Nat)(sh:Nat->Nat)(iv:Nat->Value)(L:List KV)(B0 q hb:Nat)(wu:Value)(kk vv:ByteArray):Prop where
 blk:aT wx hb #[ptr (pb q),.int .i64 0,wu] 174
 row:wx.ownsRow 0 70 2 wu (aZ P L q).length (aY (aZ P L q))
 map:aK wx prog 3 sm (upd (AM P sh L) (.int .i64 q) (ptr hb))
 box:aT wx w.heap.size #[.string kk,.string vv] 70
 old:∀k,k<w.heap.size->k≠sm->wx.heap[k]?=w.heap[k]?
 fr:Below B0 w wx
 was:az P L q=true->hb=sh q/\wu=iv q
 new:az P L q=false->w.heap.size<hb/\wu=.slice none 0 0
theorem Sy{q:Nat}(h:az P L q=true):upd (AM P sh L) (.int .i64 q) (ptr (sh q))=AM P sh L:=by
 funext kl;by_cases e:kl=.int .i64 q
 ·subst e;rw[upd_same (by trivial)];simp[AM,h]
 ·rw[fN e]
theorem O7(hP:P<=4)(Su:1<=P):∀kl,AM P sh L kl≠none->kl∈jI:=by
 intro kl h;cases kl with
 |int k n=>
  cases k<;>try exact absurd rfl h
  simp only[AM]at h;by_cases ho:az P L n=true
  ·have:=dw (by omega) ho;exact pR (by omega) (by omega)
  ·simp[ho]at h
 |_=>exact absurd rfl h
theorem O8{wa wc:World}{q hb nq:Nat}{wu v2:Value}{kk vv:ByteArray}{o:Obj}(h:fX w τ aD i P pb pw sm sh iv sv kv K L B0)(hm:OZ w wa τ aD i P pb pw sm sh iv L B0 q hb wu kk vv)(Su:1<=P)(hq:partOf P kk=q)(hq4:q<P)(G1:P<=4)
 (Kg:Below wa.heap.size wa wc) (AA:w2.ownsRow 0 70 2 v2 ((aZ P L q).length+1) (aY (aZ P L q)++ [.string kk,.string vv])) (qO:((wc.drewN nq).alloc o).grownBy w2 wu.ownBlock)
 (hA2:v2.ownBlock=wu.ownBlock\/v2.ownBlock=some ((wc.drewN nq).alloc o).heap.size) (hrb:wu.ownBlock≠some hb):
 ∃τ' sh' iv',fX (w2.setCell ⟨hb,2,none⟩ v2) τ' aD i P pb pw sm sh' iv' sv kv K (L++ [(kk,vv)]) B0/\Below B0 w (w2.setCell ⟨hb,2,none⟩ v2)/\(∀k,k<w.heap.size->τ' k=τ k)/\∀k,k<w.heap.size->k≠sm->(∀q':Nat,az P L q'=true->k≠sh q'/\(iv q').ownBlock≠some k)->(w2.setCell ⟨hb,2,none⟩ v2).heap[k]?=w.heap[k]? :=by
 have hpl:=h.blk.lt;have hml:=h.map.lt;have hlo:=h.lo;have qQ:=hm.fr.size;have w8:=Kg.size;have V4:wc.heap.size+1<=w2.heap.size:=by have:=qO.size;simpa using this
 have hhl:=hm.blk.lt;have O9:=hm.box.lt;have xG:∀{k a c:Nat},k<w.heap.size->τ k=(aD,a,c)->(a=8->c≠i*4+q)->k≠hb:=by
  intro k a c hk ht hac e;cases ho:az P L q with
  |true=>
   have h1:=h.cG q ho;rw[<-(hm.was ho).1,<-e,ht]at h1;simp at h1;exact hac h1.1 h1.2
  |false=>have:=(hm.new ho).1;omega
 have aan:∀{k a c:Nat},τ k=(aD,a,c)->(a=9->c≠i*4+q)->wu.ownBlock≠some k:=by
  intro k a c ht hac e;cases ho:az P L q with
  |true=>
   rw[(hm.was ho).2]at e;have h1:=h.fA q k ho e;rw[ht]at h1;simp at h1;exact hac h1.1 h1.2
  |false=>rw[(hm.new ho).2]at e;cases e
 have Um:∀k,wu.ownBlock=some k->B0<=k:=by
  intro k e;cases ho:az P L q with
  |true=>rw[(hm.was ho).2]at e;exact h.Iw q k ho e
  |false=>rw[(hm.new ho).2]at e;cases e
 have aeT:B0<=hb:=by
  cases ho:az P L q with
  |true=>rw[(hm.was ho).1];exact h.Iv q ho
  |false=>have:=(hm.new ho).1;omega
 have zb:∀k,k<wa.heap.size->k≠hb->wu.ownBlock≠some k->(w2.setCell ⟨hb,2,none⟩ v2).heap[k]?=wa.heap[k]? :=fun k hk h1 h2=>
  (zaa _ _ _ _ h1).trans ((qO.block k (by simp;omega) (fun e=>h2 e.symm)).trans ((zab (wc.drewN nq) o k (by simp;omega)).trans (Kg.block k hk)))
 have zo:∀{k a c:Nat},k<w.heap.size->k≠sm->τ k=(aD,a,c)->(a=8->c≠i*4+q)->(a=9->c≠i*4+q)->(w2.setCell ⟨hb,2,none⟩ v2).heap[k]?=w.heap[k]? :=fun hk hs ht h8 h9=>
  (zb _ (by omega) (xG hk ht h8) (aan ht h9)).trans (hm.old _ hk hs)
 have Sz:∀{k a c:Nat},τ k=(aD,a,c)->a≠7->k≠sm:=fun ht ha e=>by rw[e,h.gU]at ht;simp at ht;omega
 have zh:aT (w2.setCell ⟨hb,2,none⟩ v2) hb #[ptr (pb q),.int .i64 0,v2] 174:=by have h1:aT w2 hb _ _:=hm.blk.of_eq ((qO.block hb (by simp;omega) (fun e=>hrb e.symm)).trans ((zab (wc.drewN nq) o hb (by simp;omega)).trans (Kg.block hb hhl)));simpa using h1.set 2 v2
 have yR:∀k,v2.ownBlock=some k->wu.ownBlock=some k\/wc.heap.size<=k:=fun k hk=>by
  rcases hA2 with e|e
  ·exact Or.inl (by rw[<-e];exact hk)
  ·rw[hk]at e;have:=Option.some.inj e;simp at this;exact Or.inr (by omega)
 have zr:(w2.setCell ⟨hb,2,none⟩ v2).ownsRow 0 70 2 v2 ((aZ P L q).length+1) (aY (aZ P L q)++ [.string kk,.string vv]):=ak AA (fun k hk=>zaa _ _ _ _ (fun e=>by
  rcases yR k hk with e1|e1
  ·exact hrb (by rw[e1,e])
  ·have:k=hb:=e;omega))
 refine⟨fun k=>if k=hb then(aD,8,i*4+q)else if v2.ownBlock=some k then(aD,9,i*4+q)else τ k,fun q'=>if q'=q then hb else sh q',fun q'=>if q'=q then v2 else iv q',?_,?_,?_,?_⟩
 ·have kJ:∀k,k<w.heap.size->(if k=hb then(aD,8,i*4+q)else if v2.ownBlock=some k then(aD,9,i*4+q)else τ k)=τ k:=by
   intro k hk;by_cases e1:k=hb
   ·rw[if_pos e1];cases ho:az P L q with
    |true=>rw[e1,(hm.was ho).1,h.cG q ho]
    |false=>have:=(hm.new ho).1;omega
   ·rw[if_neg e1];by_cases e2:v2.ownBlock=some k
    ·rw[if_pos e2];rcases yR k e2 with e3|e3
     ·cases ho:az P L q with
      |true=>rw[(hm.was ho).2]at e3;rw[h.fA q k ho e3]
      |false=>rw[(hm.new ho).2]at e3;cases e3
     ·omega
    ·rw[if_neg e2]
  have Il:∀q':Nat,az P (L++ [(kk,vv)]) q'=true->q'≠q->az P L q'=true:=by intro q' ho hne;rw[lZ]at ho;have:decide (partOf P kk=(q':Int))=false:=decide_eq_false (by rw[hq];omega);rw[this,Bool.or_false]at ho;exact ho
  refine⟨h.blk.of_eq (zo hpl (Sz h.tag (by omega)) h.tag (by omega) (by omega)),?_,?_,?_,fun q' ho=>?_,fun q' ho=>?_,fun q' ho=>?_,fun q' k ho hk=>?_,ak h.ky (fun k hk=>zo (aR h.ky k hk).2 (Sz (h.dF k hk) (by omega)) (h.dF k hk) (by omega) (by omega)),fun k hk=>by rw[kJ k (aR h.ky k hk).2,h.dF k hk],hlo,fun q' ho=>?_,fun q' k ho hk=>?_,h.Nf⟩
  ·rw[kJ pw hpl,h.tag]
  ·have e1:AM P (fun q'=>if q'=q then hb else sh q') (L++ [(kk,vv)])=upd (AM P sh L) (.int .i64 q) (ptr hb):=by
    funext kl;by_cases e:kl=.int .i64 q
    ·subst e;rw[upd_same (by trivial)];have:az P (L++ [(kk,vv)]) q=true:=by rw[lZ];simp[hq]
     simp[AM,this]
    ·rw[fN e];cases kl with
     |int kd n=>
      cases kd<;>try rfl
      have hnq:n≠q:=fun e'=>e (by rw[e']);have:decide (partOf P kk=n)=false:=decide_eq_false (by rw[hq];exact fun e'=>hnq e'.symm);simp only[AM,lZ,this,Bool.or_false];by_cases ho:az P L n=true
      ·have hb0:=(dw (by omega) ho).1;have:n.toNat≠q:=by omega
       simp[ho,this]
      ·simp[ho]
     |_=>rfl
   rw[e1];exact hm.map.of_eq (zb sm (by omega) (xG hml h.gU (by omega)) (aan h.gU (by omega)))
  ·rw[kJ sm hml,h.gU]
  ·by_cases e:q'=q
   ·subst e;simpa using zh
   ·have ho':=Il q' ho e;have hb':=h.LQ q' ho';simp only[e,if_false];exact hb'.of_eq (zo hb'.lt (Sz (h.cG q' ho') (by omega)) (h.cG q' ho') (by omega) (by omega))
  ·by_cases e:q'=q
   ·subst e;simp
   ·have ho':=Il q' ho e;have hb':=h.LQ q' ho';simp only[e,if_false];rw[kJ _ hb'.lt,h.cG q' ho']
  ·by_cases e:q'=q
   ·subst e;simp only[if_true];rw[tG,if_pos hq,List.length_append,tA];exact zr
   ·have ho':=Il q' ho e;have hr:=h.it q' ho';simp only[e,if_false];rw[tG,if_neg (by rw[hq];omega),List.append_nil];exact ak hr (fun k hk=>zo (aR hr k hk).2 (Sz (h.fA q' k ho' hk) (by omega)) (h.fA q' k ho' hk) (by omega) (by omega))
  ·by_cases e:q'=q
   ·subst e;simp only[if_true]at hk;have:k≠hb:=fun e'=>by
     rcases yR k hk with e1|e1
     ·exact hrb (by rw[e1,e'])
     ·omega
    simp[this,hk]
   ·have ho':=Il q' ho e;have hr:=h.it q' ho';simp only[e,if_false]at hk;rw[kJ k (aR hr k hk).2,h.fA q' k ho' hk]
  ·by_cases e:q'=q
   ·subst e;simpa using aeT
   ·simp only[e,if_false];exact h.Iv q' (Il q' ho e)
  ·by_cases e:q'=q
   ·subst e;simp only[if_true]at hk;rcases yR k hk with e1|e1
    ·exact Um k e1
    ·omega
   ·simp only[e,if_false]at hk;exact h.Iw q' k (Il q' ho e) hk
 ·have h1:=hm.fr;refine⟨qO.os.trans (Kg.os.trans h1.os),qO.tape.trans (Kg.tape.trans h1.tape),qO.output.trans (Kg.output.trans h1.output),by simp[World.setCell];omega,fun k hk=>?_⟩;exact(zb k (by omega) (by omega) (fun e=>by have:=Um k e;omega)).trans (h1.block k hk)
 ·intro k hk;by_cases e1:k=hb
  ·simp only[e1,if_true];cases ho:az P L q with
   |true=>rw[(hm.was ho).1,h.cG q ho]
   |false=>have:=(hm.new ho).1;omega
  ·simp only[e1,if_false];by_cases e2:v2.ownBlock=some k
   ·rw[if_pos e2];rcases yR k e2 with e3|e3
    ·cases ho:az P L q with
     |true=>rw[(hm.was ho).2]at e3;rw[h.fA q k ho e3]
     |false=>rw[(hm.new ho).2]at e3;cases e3
    ·omega
   ·rw[if_neg e2]
 ·intro k hk hks XI;refine(zb k (by omega) (fun e=>?_) (fun e=>?_)).trans (hm.old k hk hks)
  ·cases ho:az P L q with
   |true=>exact(XI q ho).1 (by rw[e,(hm.was ho).1])
   |false=>have:=(hm.new ho).1;omega
  ·cases ho:az P L q with
   |true=>exact(XI q ho).2 (by rw[<-(hm.was ho).2];exact e)
   |false=>rw[(hm.new ho).2]at e;cases e
theorem SC(h:fX w τ aD i P pb pw sm sh iv sv kv K L B0)(Su:1<=P)(G1:P<=4)(kk vv:ByteArray)(q:Nat)(hq:partOf P kk=q)(hL8:L.length<8):
 Calls prog 86 #[ptr pw,.int .i64 q,ptr (pb q),.agg #[.string kk,.string vv]] w fun e w'=>e=.returned (.tuple #[])/\
  ∃τ' sh' iv',fX w' τ' aD i P pb pw sm sh' iv' sv kv K (L++ [(kk,vv)]) B0/\Below B0 w w'/\(∀k,k<w.heap.size->τ' k=τ k)/\∀k,k<w.heap.size->k≠sm->(∀q':Nat,az P L q'=true->k≠sh q'/\(iv q').ownBlock≠some k)->w'.heap[k]?=w.heap[k]? :=by
 have hq4:q<P:=by have:=eM P kk (by omega);omega
 have hlo:=h.lo
 have hpl:=h.blk.lt
 have hml:=h.map.lt
 have c4:w.cell? ⟨pw,5,none⟩=some (.map (some sm)):=h.blk.cell (o:=5) rfl
 have hne:pw≠sm:=cU h.blk h.map
 have hMb:∀o:Obj,aK (w.alloc o) prog 3 sm (AM P sh L):=fun o=>h.map.of_eq (zab _ _ _ hml)
 unfold ptr
 go_enter func86,ntmps86
 obtain⟨fv,aj⟩:∃fv,AM P sh L (.int .i64 q)=fv:=⟨_,rfl⟩
 go_upto_if 20 with(at_lookup;refine bZ _ rfl _ _ 162 rfl 3 168 eD underlying162 (va _) sm (AM P sh L) rfl (hMb _) _ (.int .i64 q) rfl (keyOf_int (by omega) (by omega)) fv aj ?_)
 go_cut [8,9] (fun s8 _ wx=>∃hb wu,s8=.pointer (some ⟨hb,0,none⟩)/\OZ w wx τ aD i P pb pw sm sh iv L B0 q hb wu kk vv)
 case first=>
  cases ho:az P L q with
  |true=>
   have e1:fv=some (.pointer (some ⟨sh q,0,none⟩)):=by rw[<-aj];simp[AM,ho];rfl
   clear aj
   subst e1
   go_wp2_with fail
   go_meet
   case rel=>
    have hS:=h.LQ q ho
    have hI:=h.it q ho
    refine⟨sh q,iv q,rfl,hS.of_eq (zab _ _ _ hS.lt),ak hI (fun k hk=>zab _ _ _ (aR hI k hk).2),?_,aT.new _ _ _,fun k hk _=>zab _ _ _ hk,(Below.refl _ _).alloc (by omega) _,fun _=>⟨rfl,rfl⟩,fun e=>by rw[ho]at e;cases e⟩
    rw[Sy ho]
    exact hMb _
  |false=>
   have e1:fv=none:=by rw[<-aj];simp[AM,ho]
   clear aj
   subst e1
   have xd:∀o o':Obj,aK ((w.alloc o).alloc o') prog 3 sm (AM P sh L):=fun o o'=>(hMb o).of_eq (zab _ _ _ (by simp;omega))
   have d4:∀o o':Obj,((w.alloc o).alloc o').cell? ⟨pw,5,none⟩=some (.map (some sm)):=fun o o'=>(zae (w:=w.alloc o) (zab (w.alloc o) o' pw (by simp;omega))).trans ((zae (w:=w) (zab _ _ _ hpl)).trans c4)
   go_wp2_with (at_mapUpdate;refine pG _ rfl _ _ _ 162 rfl 3 168 eD underlying162 sm (AM P sh L) rfl (xd _ _) jI (O7 G1 Su) pS _ _ (.int .i64 q) rfl rfl (keyOf_int (by omega) (by omega)) ?_;intro w3 G0 Em)
   go_meet
   case rel=>
    have lU:=rz.fR Em
    have hold:∀k,k<w.heap.size->k≠sm->w3.heap[k]?=w.heap[k]? :=fun k hk hkm=>(lU.block k hkm).trans ((zab _ _ _ (by simp;omega)).trans (zab _ _ _ hk))
    refine⟨w.heap.size+1,.slice none 0 0,?_,?_,?_,?_,?_,hold,?_,fun e=>(by rw[ho]at e;cases e),fun _=>⟨by omega,rfl⟩⟩
    ·simp
    ·have:=(aT.new (w.alloc (.cells #[.string kk,.string vv] 70)) #[ptr (pb q),.int .i64 0,.slice none 0 0] 174).of_eq (w':=w3) (lU.block _ (by simp;omega))
     simpa using this
    ·rw[Ff ho]
     exact World.ownsRow_nil _ _ _ _
    ·exact G0
    ·exact((aT.new w #[.string kk,.string vv] 70).of_eq (zab _ _ _ (by simp))).of_eq (lU.block _ (by omega))
    ·refine⟨lU.os,lU.tape,lU.output,by rw[lU.size];simp;omega,fun k hk=>hold k (by omega) (by omega)⟩
 case rest=>
  obtain⟨hb,wu,rfl,hm⟩:=hcut
  rename World=>wa
  have b0:wa.cell? ⟨w.heap.size,0,none⟩=some (.string kk):=hm.box.cell (o:=0) rfl
  have b1:wa.cell? ⟨w.heap.size,1,none⟩=some (.string vv):=hm.box.cell (o:=1) rfl
  have vP:=hm.box.lt
  clear aj
  have Kg:Below wa.heap.size wa wa:=Below.refl _ _
  obtain⟨ii,hi,hz0,LK,OL⟩:=info_parts J0
  obtain⟨av,jS,hiv⟩:=gH hm.row
  have hhl:=hm.blk.lt
  have hsx:=Kg.size
  have Rh:aT wa hb #[ptr (pb q),.int .i64 0,wu] 174:=hm.blk.of_eq (Kg.block _ hhl)
  have c2:wa.cell? ⟨hb,2,none⟩=some wu:=Rh.cell (o:=2) rfl
  have hrow:wa.ownsRow 0 70 2 wu (aZ P L q).length (aY (aZ P L q)):=ak hm.row (fun k hk=>Kg.block k (aR hm.row k hk).2)
  have hn8:(aZ P L q).length<8:=Nat.lt_of_le_of_lt (nY _ _ _) hL8
  have hrb:wu.ownBlock≠some hb:=fun e=>by
   obtain⟨_,h2⟩:=hm.row;rcases h2 with⟨e',_⟩|⟨g,cp,cu,e',_,hg,_⟩
   ·rw[e']at e;cases e
   ·rw[e']at e;cases e;have h3:wa.heap[g]?=some (.cells _ 174 (0,0)):=hm.blk;rw[h3]at hg;cases hg
  have HD:Hid (∀(w2:World) (v2:Value) (nq:Nat) (o:Obj),w2.ownsRow 0 70 2 v2 ((aZ P L q).length+1) (aY (aZ P L q)++ [.string kk,.string vv])->((wa.drewN nq).alloc o).grownBy w2 wu.ownBlock->(v2.ownBlock=wu.ownBlock\/v2.ownBlock=some ((wa.drewN nq).alloc o).heap.size)->
   ∃τ' sh' iv',fX (w2.setCell ⟨hb,2,none⟩ v2) τ' aD i P pb pw sm sh' iv' sv kv K (L++ [(kk,vv)]) B0/\Below B0 w (w2.setCell ⟨hb,2,none⟩ v2)/\(∀k,k<w.heap.size->τ' k=τ k)/\∀k,k<w.heap.size->k≠sm->(∀q':Nat,az P L q'=true->k≠sh q'/\(iv q').ownBlock≠some k)->(w2.setCell ⟨hb,2,none⟩ v2).heap[k]?=w.heap[k]?):=
   fun w2 v2 nq o a1 a2 a3=>O8 h hm Su hq hq4 G1 Kg a1 a2 a3 hrb
  have hbg:∀(w2:World) (nq:Nat) (o:Obj),((wa.drewN nq).alloc o).grownBy w2 wu.ownBlock->aT w2 hb #[ptr (pb q),.int .i64 0,wu] 174:=fun w2 nq o hG=>Rh.of_eq ((hG.block hb (by simp;omega) (fun e=>hrb e.symm)).trans (zab (wa.drewN nq) o hb (by simp;omega)))
  have HBG:Hid _:=hbg
  have c2a:∀(o:Obj) (nq:Nat),((wa.drewN nq).alloc o).cell? ⟨hb,2,none⟩=some wu:=fun o nq=>(zae (w:=wa.drewN nq) (zab (wa.drewN nq) o hb (by simp;omega))).trans c2
  have c2b:∀(o:Obj),(wa.alloc o).cell? ⟨hb,2,none⟩=some wu:=fun o=>(zae (w:=wa) (zab wa o hb (by omega))).trans c2
  clear hbg c2a
  subst hiv
  generalize (aZ P L q).length=n at *
  generalize aY (aZ P L q)=xs at *
  go_upto_region 5 with(fail)
  go_region_law (refine lu rfl (.tmp 34) (.tmp 36) 68 rfl 0 70 ii _ 2 32 underlying68 hi hz0 LK OL rfl (by decide) (.slice av n jS) n xs rfl (hrow.alloc _) ⟨_,0,none⟩ 1 1 [.string kk,.string vv] rfl rfl (cell_two_new _ _ _ _) (by simp[Value.oneCell']) (by unfold maxLen;omega) (by omega) (zag _) ?_;intro v2 w2 AA qO Oc hA2;have kQ:=HBG.out w2 _ _ qO;have d2:=kQ.cell (o:=2) (v:=.slice av n jS) rfl;have e2:=kQ.frozen 2;obtain⟨g2,cap2,yR,-⟩:=dJ AA (by omega);rw[yR])
  all_goals
   go_wp2_with fail
   go_end0
   rw[<-yR]
   exact⟨rfl,HD.out w2 v2 1 _ AA qO hA2⟩
end
end
section
open Go Go.RowKit Go.MuLone
section
variable {w:World}
theorem x8(l:List UInt8)(b:UInt8):lg (l++ [b])=IntKind.u64.wrap (IntKind.u64.wrap (lg l*31)+(b.toNat:Int)):=by simp[lg]
theorem ya(l:List UInt8):∃h:Nat,lg l=h/\h<18446744073709551616:=by
 have key:∀(l:List UInt8) (g:Int),(0<=g/\g<18446744073709551616)->0<=l.foldl (fun h b=>IntKind.u64.wrap (IntKind.u64.wrap (h*31)+(b.toNat:Int))) g/\l.foldl (fun h b=>IntKind.u64.wrap (IntKind.u64.wrap (h*31)+(b.toNat:Int))) g<18446744073709551616:=by
  intro l;induction l with
  |nil=>exact fun g h=>h
  |cons x l ih=>
   intro g hg;simp only[List.foldl_cons];refine ih _ ?_;rw[IntKind.wrap_u64];omega
 have:=key l 0 (by omega);exact⟨(lg l).toNat,by unfold lg;omega,by unfold lg;omega⟩
theorem Mf(s:ByteArray)(hs:s.size<=1000):Calls prog 150 #[.string s] w fun e w'=>e=.returned (.int .u64 (wW s))/\Below w.heap.size w w':=by
 obtain⟨cb,W,hcv,hB,hcell⟩:=yT (P:=prog) w 9 116 5 s underlying9 underlying116 underlying5;go_enter func150,ntmps150;go_wp2;go_loop [3,9] (fun m i=>∃(k:Nat) (h:Nat),k<=s.size/\i=.int .i64 k/\m=.int .u64 h/\Hid (lg (s.data.toList.take k)=h)) (fun _ i=>s.size-(intOf i).toNat)
 case atStart=>exact⟨0,0,zag _,rfl,rfl,rfl⟩
 case round=>
  obtain⟨k,h,hk,rfl,rfl,HH⟩:=hrel;by_cases hlt:k<s.size
  ·have ck:=hcell k hlt;have hb:=s[k].toNat_lt;have HS:Hid (lg (s.data.toList.take (k+1))=IntKind.u64.wrap (IntKind.u64.wrap ((h:Int)*31)+(s[k].toNat:Int))):=by
    unfold Hid;have e:s.data.toList.take (k+1)=s.data.toList.take k++ [s[k]]:=by
     rw[List.take_add_one];have:s.data.toList[k]?=some s[k]:=by rw[Array.getElem?_toList];exact Array.getElem?_eq_getElem hlt
     rw[this];rfl
    rw[e,x8,HH.out]
   generalize s[k]=c at *;clear hcell;go_wp2;go_round
   case rel=>
    obtain⟨h2,e2,_⟩:=ya (s.data.toList.take (k+1));refine⟨k+1,h2,by omega,by go_num,?_,e2⟩;have e3:=HS.out;rw[e2]at e3;rw[e3]
   case measure=>simp[intOf];omega
  ·clear hcell;have hks:k=s.size:=by omega
   have HB:Hid (wW s=IntKind.u64.wrap (2 ^((h:Int)% 64).toNat)):=by unfold Hid wW;rw[<-HH.out,hks,zaj (Nat.le_of_eq (by rw[zah];rfl))]
   go_wp2;go_ret;rw[HB.out];exact⟨rfl,hB⟩
theorem IV(a:Option Addr)(L:List ByteArray)(cap:Nat)(h8:L.length<=8)(hz:∀x∈L,x.size<=8)(hcell:∀(k:Nat) (x:ByteArray),L[k]?=some x->∃gb,a=some ⟨gb,0,none⟩/\w.cell? ⟨gb,k,none⟩=some (.string x)):
 Calls prog 130 #[.slice a L.length cap] w fun e w'=>e=.returned (.int .u64 (ry L))/\Below w.heap.size w w':=by
 go_enter func130,ntmps130;go_wp2_with fail
 go_loopw [3,8] (fun m u wr=>∃(k:Nat) (h:Int),k<=L.length/\u=.int .i64 k/\m=.int .u64 h/\Below w.heap.size w wr/\Hid (ry (L.take k)=h)) (fun _ u _=>L.length-(intOf u).toNat)
 case atStart=>exact⟨0,0,zag _,rfl,rfl,Below.refl _ _,rfl⟩
 case round=>
  obtain⟨k,h,hk,rfl,rfl,hB,HH⟩:=hrel;by_cases hlt:k<L.length
  ·have hx:L[k]?=some L[k]:=zad hlt;obtain⟨gb,rfl,c1⟩:=hcell k _ hx;have hgb:gb<w.heap.size:=zaf w _ c1;have V3:=(hB.cell (p:=⟨gb,k,none⟩) hgb).trans c1;have hzk:=hz _ (List.getElem_mem hlt);have HM:Hid (ry (L.take (k+1))=orF h (wW L[k])):=by unfold Hid;rw[List.take_add_one,hx];show ry (L.take k++ [L[k]])=_;rw[<-HH.out];unfold ry;rw[List.foldl_append];rfl
   generalize L[k]=x at *;have cb:=Mf (w:=wr) x (by omega);clear hcell c1 hx hz;generalize wW x=bx at *;go_wp2_with fail
   refine cb.mono ?_;rintro e w2 ⟨rfl,dP⟩;clear cb;go_wp2_with fail
   go_roundw
   case rel=>exact⟨k+1,_,by omega,by go_num,rfl,hB.trans (dP.mono hB.size),HM.out⟩
   case measure=>simp[intOf];omega
  ·clear hcell;have hks:k=L.length:=by omega
   have HE:Hid (ry L=h):=by have:=HH.out;rw[hks,List.take_length]at this;exact this
   go_wp2_with fail
   go_ret;rw[HE.out];exact⟨rfl,hB⟩
theorem y4(mode:Int)(a:Option Addr)(L:List ByteArray)(cap:Nat)(h8:L.length<=8)(hz:∀x∈L,x.size<=8)(hcell:∀(k:Nat) (x:ByteArray),L[k]?=some x->∃gb,a=some ⟨gb,0,none⟩/\w.cell? ⟨gb,k,none⟩=some (.string x)):
 Calls prog 87 #[.int .i64 mode,.slice a L.length cap] w fun e w'=>(∃sv,e=.returned sv/\Uo mode (.slice a L.length cap) L sv)/\Below w.heap.size w w':=by
 have cm:=IV (w:=w) a L cap h8 hz hcell;clear hcell hz;generalize L.length=n at *;by_cases h1:mode=1
 ·subst h1;go_enter func87,ntmps87;go_wp2_with fail
  go_ret;exact⟨⟨_,rfl,Or.inl ⟨rfl,rfl⟩⟩,Below.refl _ _⟩
 ·have e1:(mode == 1)=false:=beq_eq_false_iff_ne.2 h1;by_cases h3:mode=3
  ·subst h3;generalize hm:ry L=mk at cm;go_enter func87,ntmps87;go_wp2_with fail
   refine cm.mono ?_;rintro e w2 ⟨rfl,hB⟩;clear cm;go_wp2_with fail
   go_ret;exact⟨⟨_,rfl,Or.inr (Or.inl ⟨rfl,by rw[hm];rfl⟩)⟩,hB⟩
  ·have e3:(mode == 3)=false:=beq_eq_false_iff_ne.2 h3;have HN:Hid (mode≠1/\mode≠3):=⟨h1,h3⟩
   clear cm h1 h3;go_enter func87,ntmps87;go_wp2_with fail
   go_ret;exact⟨⟨_,rfl,Or.inr (Or.inr ⟨HN.out.1,HN.out.2,rfl⟩)⟩,Below.refl _ _⟩
theorem tJ(mode:Int)(a:Option Addr)(n cap:Nat)(hn:n<=8):
 Calls prog 72 #[.int .i64 mode,.slice a n cap] w fun e w'=>e=.returned (.bool (decide (mode=2)&& decide (1<n)))/\w'=w:=by
 by_cases h1:mode=2
 ·subst h1;by_cases h2:1<n
  ·go_enter func72,ntmps72;go_wp2_with fail
   go_ret;exact⟨dH (by simp;omega),rfl⟩
  ·go_enter func72,ntmps72;go_wp2_with fail
   go_ret;exact⟨dH (by simp;omega),rfl⟩
 ·have e1:(mode == 2)=false:=beq_eq_false_iff_ne.2 h1;have Hr:Hid ((decide (mode=2)&& decide (1<n))=false):=by unfold Hid;simp[h1]
  clear h1;go_enter func72,ntmps72;go_wp2_with fail
  go_ret;exact⟨dH Hr.out.symm,rfl⟩
end
end
end Go.Proofs.YteoahlieielcdaaGreat
