import Derived.Test.YteoahlieielcdaaGreatBase
import Derived.Test.YteoahlieielcdaaGreatLocks
import Derived.Deep.RegionHeld3
import Derived.Lib.BufferWrite
import Derived.Deep.DeepCutAuto
set_option linter.all false
set_option maxHeartbeats 4000000
set_option maxRecDepth 100000
open Option renaming some->Y,none->F
open Bool renaming false->E,true->Z6,not_true->ay1,or_false->ba0,eq_iff_iff->ba7,false_or->bd5,or_eq_false_iff->bg9
open Go.World renaming setCell->ab1,ownsRow_nil->ak3
open List renaming range->ab8,getElem?_append_left->ag1,any_eq_true->ai3,getElem?_map->ai8,take_succ_eq_append_getElem->aj9,length_set->am0,take_length->an6,getElem?_set_ne->ao3,length_append->ao4,all_eq_true->aq2,mem_range->at7
open Option.some renaming inj->ah9
open Go renaming maxLen->ae0,leaves_cons->ai2,info_parts->aj4,results_tmp->ak7,keyOf_int->ap1,results_tmp2->av8,results_none->be2
open Go.MuLone renaming unlock_deferred->af1,lock_free->ak6
open Go.RowKit.Below renaming refl->ag2
open Go.Value renaming string->aj3
open ByteArray renaming empty->aj5
open Or renaming inr->ak9,inl->an0
open Prod renaming fst->al0
open Go.Lit renaming string->ap8
open Int renaming toNat_natCast->au1
namespace Go.Proofs.YteoahlieielcdaaGreat
open Go.Proofs.Tryz
abbrev zad:=@RowKit.Below.heap_setCell
abbrev zae:=@RowKit.Below.heap_alloc
abbrev zaf:=@Nat.le_refl
abbrev zag:=@List.getElem?_eq_getElem
abbrev zah:=@World.cell?_of_block
abbrev zai:=@World.block_lt_of_cell?
abbrev zaj:=@Nat.zero_le
abbrev zak:=@Array.length_toList
abbrev zal:=@Int.eq_ofNat_of_zero_le
abbrev zam:=@List.getElem_mem
abbrev zan:=@List.take_of_length_le
variable{P:aB}{w w' a X w2:af}{τ τ':Nat->Tag}{aJ i b k:Nat}{n:Int}{K:List ah}{kv v2:aj}{o:Obj}{c:Array aj}{s:MS}{v:List UInt8->Nat}{p M:Nat->Prop}{f:Lit->Option aj}{m m':MW}{L l:List KV}
section
open Go Go.RowKit
def vG(s:ah)(w:af)(hs:s.size<=ae0):
 Calls prog 49 #[.string s] w λe w'=>e=.returned (.bool (bz s))/\w'=w:=by
 unfold ae0 at hs;by_cases h1:1<=s.size
 ·go_enter func49,ntmps49;go_wp2;go_ret;exact⟨cJ (by rw[ba7];simp[bz];omega),rfl⟩
 ·go_enter func49,ntmps49;go_wp2;go_ret;exact⟨cJ (by rw[ba7];simp[bz];omega),rfl⟩
def m9(m:Int):Bool:=decide (1<=m)&& decide (m<=3)
def zn(m:Int)(w:af):
 Calls prog 66 #[.int .i64 m] w λe w'=>e=.returned (.bool (m9 m))/\w'=w:=by
 by_cases h1:m=1
 ·subst h1;go_enter func66,ntmps66;go_wp2;go_ret;exact⟨cJ rfl,rfl⟩
 ·have g1:(m == 1)=E:=beq_eq_false_iff_ne.2 h1;by_cases h2:m=2
  ·subst h2;go_enter func66,ntmps66;go_wp2;go_ret;exact⟨cJ rfl,rfl⟩
  ·have g2:(m == 2)=E:=beq_eq_false_iff_ne.2 h2;go_enter func66,ntmps66;go_wp2;go_ret;exact⟨cJ (by rw[ba7];simp[m9];omega),rfl⟩
def zq(w:af)(src dst e:az)(s:ah)(hs:P.underlying src=Y .string)(hd:P.underlying dst=Y (.slice e))(he:P.underlying e=Y (.int .u8)):
 ∃cap W,(convert src dst (.string s)).run P w=.ok (.slice (Y ⟨w.heap.size,0,F⟩) s.size cap) W/\Below w.heap.size w W/\(∀j (hj:j<s.size),W.cell? ⟨w.heap.size,j,F⟩=Y (.int .u8 (s[j].toNat:Int))):=by
 refine⟨_,_,run_bytes_of_string w src dst e s hs hd he,((ag2 _ _).drew.alloc (zaf _) _),λj hj=>?_⟩;have h:=bytesRow_at s (grownCap w s.size 0 e) j hj;have hh:∀(o:Obj),(w.drew.alloc o).heap[w.heap.size]?=Y o:=λo=>by show (w.heap.push o)[w.heap.size]?=_;simp
 simp only[World.cell?,hh,Option.isSome_none,Bool.false_eq_true,if_false];exact h
def sM(b:Nat)(n:Nat)(a:Option aA)(cap:Nat)(s:ah)(w:af)(hs:s.size<=1000)(hn:0<n)(hn':n<=4)(hp:w.cell? ⟨b,1,F⟩=Y (.slice a n cap)):
 Calls prog 50 #[ptr b,.string s] w λe w'=>e=.returned (.int .i64 (partOf n s))/\Below w.heap.size w w':=by
 obtain⟨cb,W,hcv,hB,hcell⟩:=zq (P:=prog) w 9 116 5 s underlying9 underlying116 underlying5;have rz:W.cell? ⟨b,1,F⟩=Y (.slice a n cap):=(hB.cell (p:=⟨b,1,F⟩) (zai w _ hp)).trans hp;unfold ptr;go_enter func50,ntmps50;go_wp2;go_loop [5,11] (λm i=>∃k:Nat,k<=s.size/\i=.int .i64 k/\m=.int .i64 (gU (s.data.toList.take k))) (λ_ i=>s.size-(intOf i).toNat)
 case atStart=>exact⟨0,zaj _,rfl,rfl⟩
 case round=>
  obtain⟨k,hk,rfl,rfl⟩:=hrel;have hd:=sK (s.data.toList.take k);have hl:(s.data.toList.take k).length<=k:=List.length_take_le _ _;by_cases hlt:k<s.size
  ·have HS:Hid (gU (s.data.toList.take (k+1))=gU (s.data.toList.take k)+(s[k].toNat:Int)):=by rw[vr s k hlt];exact uk _ _
   have ck:=hcell k hlt;have hb:=s[k].toNat_lt;generalize s[k]=c at *;clear hcell;go_wp2;go_round
   case rel=>exact⟨k+1,I,by go_num,by rw[HS.out]⟩
   case measure=>simp[intOf];omega
  ·clear hcell;go_wp2;go_ret;exact⟨gn (by rw[zan Yn];rfl),hB⟩
end
section
open Go Go.RowKit
open Go.Maps (Keyed)
def bp(n:Int)(l:List KV)(q:Int):List KV:=l.filter (λx=>decide (partOf n x.1=q))
def bO(m:MW)(q:Nat):Int:=if m.comm q then 2 else if m.cC q then 1 else 0
def lJ:aj:=.slice F 0 0
def fH:aj:=.int .i32 0
def gy:aj:=.int .u32 0
structure SB where
 rm:Nat
 pr:Nat->Nat
 qm:Nat->Nat
 qb:Nat->Nat->Nat
 no:Nat->Bool
 ks:Nat->aj
 hv:Nat->Nat->Bool
 tv:Nat->Nat->ah
 ts:Nat->Nat->aj
def dW(rs:List MR)(B:SB):Lit->Option aj
 |.int .i64 n=>match gj rs n with
  |some _=>Y (ptr (B.pr (n-1).toNat))
  |none=>F
 |_=>F
def I8(keys:List ah)(l:List UInt8):Nat:=keys.findIdx (λx=>decide (x.data.toList=l))
def dr(B:SB)(i:Nat)(r:MR):Lit->Option aj
 |.string l=>if I8 r.keys l<r.keys.length then Y (ptr (B.qb i (I8 r.keys l)))else F
 |_=>F
structure RdS(w:af)(τ:Nat->Tag)(aJ:Nat)(n:Nat)(pb:Nat->Nat)(rs:List MR)(B:SB):Prop where
 sL:aS w prog 3 B.rm (dW rs B)
 iQ:τ B.rm=(aJ,10,0)
 rd:∀(i:Nat) (r:MR),rs[i]?=Y r->r.fin=E->aT w (B.pr i) #[fH,gy,.bool (B.no i),B.ks i,.map (Y (B.qm i))] 137
 eP:∀(i:Nat) (r:MR),rs[i]?=Y r->r.fin=E->τ (B.pr i)=(aJ,11,i)
 xI:∀(i:Nat) (r:MR),rs[i]?=Y r->r.fin=E->aS w prog 9 (B.qm i) (dr B i r)
 nB:∀(i:Nat) (r:MR),rs[i]?=Y r->r.fin=E->τ (B.qm i)=(aJ,12,i)
 q:∀(i:Nat) (r:MR) (j:Nat) (x:ah),rs[i]?=Y r->r.fin=E->r.keys[j]?=Y x->aT w (B.qb i j) #[ptr (pb (partOf n x).toNat),.bool (r.asked j),.int .i64 (r.found j),.bool (B.hv i j),.string (B.tv i j),B.ts i j] 146
 l6:∀(i:Nat) (r:MR) (j:Nat) (x:ah),rs[i]?=Y r->r.fin=E->r.keys[j]?=Y x->τ (B.qb i j)=(aJ,13,i*8+j)
 ky:∀(i:Nat) (r:MR),rs[i]?=Y r->r.fin=E->w.ownsRow 0 9 1 (B.ks i) r.keys.length (r.keys.map aj3)
 dV:∀(i:Nat) (r:MR) (k:Nat),rs[i]?=Y r->r.fin=E->(B.ks i).ownBlock=Y k->τ k=(aJ,14,i)
def RdS.frame{n:Nat}{pb:Nat->Nat}{rs:List MR}{B:SB}(h:RdS w τ aJ n pb rs B)
 (hf:∀k,k<w.heap.size->(τ k).1=aJ->10<=(τ k).2.1->w'.heap[k]?=w.heap[k]? /\τ' k=τ k):RdS w' τ' aJ n pb rs B:=by
 have fV:∀{k:Nat} {c:Array aj} {t:az} {g g':Nat},10<=g->aT w k c t->τ k=(aJ,g,g')->aT w' k c t/\τ' k=(aJ,g,g'):=by intro k c t g g' hg hb ht;obtain⟨e1,e2⟩:=hf k hb.lt (by rw[ht]) (by rw[ht];exact hg);exact⟨hb.of_eq e1,e2.trans ht⟩
 have hmap:∀{k:Nat} {t:az} {f:Lit->Option aj} {g g':Nat},10<=g->aS w prog t k f->τ k=(aJ,g,g')->aS w' prog t k f/\τ' k=(aJ,g,g'):=by intro k t f g g' hg hb ht;obtain⟨e1,e2⟩:=hf k hb.lt (by rw[ht]) (by rw[ht];exact hg);exact⟨hb.of_eq e1,e2.trans ht⟩
 exact⟨(hmap I h.sL h.iQ).1,(hmap I h.sL h.iQ).2,
  λi r a c=>(fV I (h.rd i r a c) (h.eP i r a c)).1,λi r a c=>(fV I (h.rd i r a c) (h.eP i r a c)).2,
  λi r a c=>(hmap I (h.xI i r a c) (h.nB i r a c)).1,λi r a c=>(hmap I (h.xI i r a c) (h.nB i r a c)).2,
  λi r j x a c e=>(fV I (h.q i r j x a c e) (h.l6 i r j x a c e)).1,λi r j x a c e=>(fV I (h.q i r j x a c e) (h.l6 i r j x a c e)).2,
  λi r a c=>aI (h.ky i r a c) (λk hk=>(hf k (aQ (h.ky i r a c) k hk).2 (by rw[h.dV i r k a c hk]) (by rw[h.dV i r k a c hk];simp)).1),
  λi r k a c hk=>by rw[(hf k (aQ (h.ky i r a c) k hk).2 (by rw[h.dV i r k a c hk]) (by rw[h.dV i r k a c hk];simp)).2,h.dV i r k a c hk]⟩
structure SA where
 cR:aj
 pb:Nat->Nat
 kb:Nat->Nat
 vb:Nat->Nat
 wm:Nat
 pw:Nat->Nat
 sm:Nat->Nat
 sh:Nat->Nat->Nat
 iv:Nat->Nat->aj
 sv:Nat->aj
 vis:Nat->List UInt8->Nat
 R:SB
def cX(s:MS)(A:SA):Lit->Option aj
 |.int .i64 n=>match bL s n with
  |some _=>Y (ptr (A.pw (n-1).toNat))
  |none=>F
 |_=>F
def bP(s:MS)(A:SA)(q:Nat):Lit->Option aj
 |.int .i64 n=>match bL s n with
  |some m=>if m.cC q then Y (.agg #[A.iv (n-1).toNat q,A.sv (n-1).toNat])else F
  |none=>F
 |_=>F
def bV(s:MS)(A:SA)(i:Nat)(m:MW):Lit->Option aj
 |.int .i64 q=>if aK s.parts m.items q=Z6 then Y (ptr (A.sh i q.toNat))else F
 |_=>F
def Dj(A:SA)(q:Nat):Lit->Option aj
 |.string l=>if A.vis q l=0 then F else Y (.int .i64 (A.vis q l))
 |_=>F
structure K0(s:MS)(q:Nat)(v:List UInt8->Nat):Prop where
 seen:∀l,v l≠0->∃m,s.ws[v l-1]?=Y m/\m.comm q=Z6/\∃x∈m.items,x.1.data.toList=l/\partOf s.parts x.1=q
 top:∀(i:Nat) (m:MW) (x:KV),s.ws[i]?=Y m->m.comm q=Z6->x∈m.items->partOf s.parts x.1=q->i+1<=v x.1.data.toList
structure ahC(s:MS):Prop where
 cp:∀(i:Nat) (m:MW) (q:Nat),s.ws[i]?=Y m->m.comm q=Z6->m.cC q=Z6
 po:∀(i:Nat) (m:MW) (q:Nat),s.ws[i]?=Y m->m.cC q=Z6->aK s.parts m.items q=Z6
 cc:∀(i:Nat) (m:MW) (q:Nat),s.ws[i]?=Y m->m.dF=Z6->m.comm q=E
def AW(v:aj):Prop:=v=.nilIface\/∃t x,v=.iface t x
def gT(l:List KV)(k:ah):Option ah:=(l.find? (λx=>decide (x.1=k))).map (λx=>x.2)
structure zG(s:MS)(A:SA):Prop where
 sv:∀(i:Nat) (m:MW),s.ws[i]?=Y m->AW (A.sv i)
 no:∀(i:Nat) (r:MR),s.rs[i]?=Y r->r.fin=E->A.R.no i=(decide (s.mode=2)&& decide (1<r.keys.length))
 un:∀(i:Nat) (r:MR) (j:Nat),s.rs[i]?=Y r->r.asked j=E->r.found j=0
 hv:∀(i:Nat) (r:MR) (j:Nat) (x:ah),s.rs[i]?=Y r->r.fin=E->r.keys[j]?=Y x->A.R.hv i j=(!A.R.no i && decide (r.found j≠0))
 tv:∀(i:Nat) (r:MR) (j:Nat) (x:ah),s.rs[i]?=Y r->r.fin=E->r.keys[j]?=Y x->A.R.hv i j=Z6->∃m,s.ws[r.found j-1]?=Y m/\gT m.items x=Y (A.R.tv i j)/\A.R.ts i j=A.sv (r.found j-1)
 t0:∀(i:Nat) (r:MR) (j:Nat) (x:ah),s.rs[i]?=Y r->r.fin=E->r.keys[j]?=Y x->A.R.hv i j=E->A.R.tv i j=⟨#[]⟩/\A.R.ts i j=.nilIface
 fm:∀(i:Nat) (r:MR) (j:Nat) (x:ah),s.rs[i]?=Y r->r.fin=E->r.keys[j]?=Y x->r.found j≠0->∃m,s.ws[r.found j-1]?=Y m/\aN m.items x=Z6/\m.comm (partOf s.parts x).toNat=Z6
def zG.ws{s s':MS}{A A':SA}(h:zG s A)(hrs:s'.rs=s.rs)(hmode:s'.mode=s.mode)(YX:s'.parts=s.parts)(hR:A'.R=A.R)(rD:∀(i:Nat) (m:MW),s'.ws[i]?=Y m->AW (A'.sv i))
 (hw:∀(i:Nat) (m:MW),s.ws[i]?=Y m->∃m',s'.ws[i]?=Y m'/\m'.items=m.items/\(∀q,m.comm q=Z6->m'.comm q=Z6)/\A'.sv i=A.sv i):zG s' A':=by
 refine⟨rD,λi r a c=>?_,λi r j a=>?_,λi r j x a c e=>?_,λi r j x a c e f=>?_,λi r j x a c e f=>?_,λi r j x a c e f=>?_⟩;all_goals rw[hrs]at a
 ·rw[hR,hmode];exact h.no i r a c
 ·exact h.un i r j a
 ·rw[hR];exact h.hv i r j x a c e
 ·rw[hR]at f⊢;obtain⟨m,hm,h1,h2⟩:=h.tv i r j x a c e f;obtain⟨m',hm',e1,_,e3⟩:=hw _ m hm;exact⟨m',hm',by rw[e1];exact h1,by rw[e3];exact h2⟩
 ·rw[hR]at f⊢;exact h.t0 i r j x a c e f
 ·obtain⟨m,hm,h1,h2⟩:=h.fm i r j x a c e f;obtain⟨m',hm',e1,e2,_⟩:=hw _ m hm;exact⟨m',hm',by rw[e1];exact h1,by rw[YX];exact e2 _ h2⟩
def j7(l:List UInt8):Int:=l.foldl (λh b=>IntKind.u64.wrap (IntKind.u64.wrap (h*31)+(b.toNat:Int))) 0
def jH(s:ah):Int:=IntKind.u64.wrap (2 ^(j7 s.data.toList % 64).toNat)
def VO(m n:Int):Int:=IntKind.u64.wrap ((BitVec.ofInt IntKind.u64.bits m |||BitVec.ofInt IntKind.u64.bits n).toNat:Int)
def mV(K:List ah):Int:=K.foldl (λm x=>VO m (jH x)) 0
inductive F3(w:af)(τ:Nat->Tag)(aJ i:Nat)(K:List ah):Int->aj->Prop
 |keys (v:aj):w.ownsRow 0 9 1 v K.length (K.map aj3)->(∀k,v.ownBlock=Y k->τ k=(aJ,15,i))->F3 w τ aJ i K 1 (.iface 225 v)
 |mask:F3 w τ aJ i K 3 (.iface 226 (.int .u64 (mV K)))
 |none {mode:Int}:mode≠1->mode≠3->F3 w τ aJ i K mode .nilIface
def F3.of{mode:Int}{sv:aj}(h:F3 w τ aJ i K mode sv)(hf:∀k,k<w.heap.size->τ k=(aJ,15,i)->w'.heap[k]?=w.heap[k]? /\τ' k=τ k):F3 w' τ' aJ i K mode sv:=by
 cases h with
 |keys v h1 h2=>exact .keys v (aI h1 (λk hk=>(hf k (aQ h1 k hk).2 (h2 k hk)).1)) (λk hk=>by rw[(hf k (aQ h1 k hk).2 (h2 k hk)).2,h2 k hk])
 |mask=>exact .mask
 |none h1 h3=>exact .none h1 h3
def Wi(mode:Int)(kv:aj)(K:List ah)(sv:aj):Prop:=(mode=1/\sv=.iface 225 kv)\/(mode=3/\sv=.iface 226 (.int .u64 (mV K)))\/(mode≠1/\mode≠3/\sv=.nilIface)
def Wi.isIf{mode:Int}{sv:aj}(h:Wi mode kv K sv):AW sv:=by
 rcases h with⟨_,rfl⟩|⟨_,rfl⟩|⟨_,_,rfl⟩
 ·exact .inr ⟨_,_,rfl⟩
 ·exact .inr ⟨_,_,rfl⟩
 ·exact .inl rfl
def Wi.ok{mode:Int}{sv:aj}(h:Wi mode kv K sv)(h1:w.ownsRow 0 9 1 kv K.length (K.map aj3))(h2:∀k,kv.ownBlock=Y k->τ k=(aJ,15,i)):F3 w τ aJ i K mode sv:=by
 rcases h with⟨rfl,rfl⟩|⟨rfl,rfl⟩|⟨e1,e3,rfl⟩
 ·exact .keys kv h1 h2
 ·exact .mask
 ·exact .none e1 e3
structure bB(w:af)(τ:Nat->Tag)(aJ b:Nat)(s:MS)(A:SA):Prop where
 ok:MOk s
 inv:ahC s
 told:zG s A
 blk:aT w b #[.int .i64 s.mode,A.cR,fH,gy,.int .i64 s.ws.length,.int .i64 s.rs.length,.map (Y A.wm),.map (Y A.R.rm)] 105
 tag:τ b=(aJ,0,0)
 cR:w.ownsRow 0 130 1 A.cR s.parts ((ab8 s.parts).map (λq=>ptr (A.pb q)))
 eY:∀k,A.cR.ownBlock=Y k->τ k=(aJ,1,0)
 part:∀q,q<s.parts->aT w (A.pb q) #[fH,gy,.map (Y (A.kb q)),.map (Y (A.vb q))] 202
 dA:∀q,q<s.parts->τ (A.pb q)=(aJ,2,q)
 kept:∀q,q<s.parts->aS w prog 3 (A.kb q) (bP s A q)
 cQ:∀q,q<s.parts->τ (A.kb q)=(aJ,3,q)
 uA:∀q,q<s.parts->aS w prog 9 (A.vb q) (Dj A q)
 fK:∀q,q<s.parts->τ (A.vb q)=(aJ,4,q)
 mh:∀q,q<s.parts->K0 s q (A.vis q)
 sN:aS w prog 3 A.wm (cX s A)
 jh:τ A.wm=(aJ,5,0)
 wr:∀(i:Nat) (m:MW),s.ws[i]?=Y m->m.dF=E->aT w (A.pw i) #[fH,gy,.int .i64 ((i:Int)+1),A.sv i,.bool E,.map (Y (A.sm i))] 164
 cM:∀(i:Nat) (m:MW),s.ws[i]?=Y m->m.dF=E->τ (A.pw i)=(aJ,6,i)
 QK:∀(i:Nat) (m:MW),s.ws[i]?=Y m->m.dF=E->aS w prog 3 (A.sm i) (bV s A i m)
 jB:∀(i:Nat) (m:MW),s.ws[i]?=Y m->m.dF=E->τ (A.sm i)=(aJ,7,i)
 sh:∀(i:Nat) (m:MW) (q:Nat),s.ws[i]?=Y m->m.dF=E->aK s.parts m.items q=Z6->aT w (A.sh i q) #[ptr (A.pb q),.int .i64 (bO m q),if m.cC q then lJ else A.iv i q] 174
 cU:∀(i:Nat) (m:MW) (q:Nat),s.ws[i]?=Y m->m.dF=E->aK s.parts m.items q=Z6->τ (A.sh i q)=(aJ,8,i*4+q)
 it:∀(i:Nat) (m:MW) (q:Nat),s.ws[i]?=Y m->m.dF=E->aK s.parts m.items q=Z6->w.ownsRow 0 70 2 (A.iv i q) (bp s.parts m.items q).length (bl (bp s.parts m.items q))
 cY:∀(i:Nat) (m:MW) (q:Nat) (k:Nat),s.ws[i]?=Y m->m.dF=E->aK s.parts m.items q=Z6->(A.iv i q).ownBlock=Y k->τ k=(aJ,9,i*4+q)
 reads:RdS w τ aJ s.parts A.pb s.rs A.R
 L2:∀(i:Nat) (m:MW),s.ws[i]?=Y m->F3 w τ aJ i (m.items.map al0) s.mode (A.sv i)
section
variable {w:af}{τ:Nat->Tag}{aJ b:Nat}{s:MS}{A:SA}
def bB.frame(h:bB w τ aJ b s A){w':af}{τ':Nat->Tag}(hf:∀k,k<w.heap.size->(τ k).1=aJ->w'.heap[k]?=w.heap[k]? /\τ' k=τ k):bB w' τ' aJ b s A:=by
 have fV:∀{k:Nat} {c:Array aj} {t:az} {g:Nat×Nat},aT w k c t->τ k=(aJ,g)->aT w' k c t/\τ' k=(aJ,g):=by intro k c t g hb ht;obtain⟨e1,e2⟩:=hf k hb.lt (by rw[ht]);exact⟨hb.of_eq e1,e2.trans ht⟩
 have hmap:∀{k:Nat} {t:az} {f:Lit->Option aj} {g:Nat×Nat},aS w prog t k f->τ k=(aJ,g)->aS w' prog t k f/\τ' k=(aJ,g):=by intro k t f g hb ht;obtain⟨e1,e2⟩:=hf k hb.lt (by rw[ht]);exact⟨hb.of_eq e1,e2.trans ht⟩
 have hrow:∀{e:az} {sz:Nat} {v:aj} {n:Nat} {xs:List aj} {g:Nat×Nat},w.ownsRow 0 e sz v n xs->(∀k,v.ownBlock=Y k->τ k=(aJ,g))->w'.ownsRow 0 e sz v n xs/\∀k,v.ownBlock=Y k->τ' k=(aJ,g):=by intro e sz v n xs g ho hv;refine⟨aI ho (λk hk=>(hf k (aQ ho k hk).2 (by rw[hv k hk])).1),λk hk=>?_⟩;rw[(hf k (aQ ho k hk).2 (by rw[hv k hk])).2,hv k hk]
 exact⟨h.ok,h.inv,h.told,(fV h.blk h.tag).1,(fV h.blk h.tag).2,(hrow h.cR h.eY).1,(hrow h.cR h.eY).2,
  λq hq=>(fV (h.part q hq) (h.dA q hq)).1,λq hq=>(fV (h.part q hq) (h.dA q hq)).2,
  λq hq=>(hmap (h.kept q hq) (h.cQ q hq)).1,λq hq=>(hmap (h.kept q hq) (h.cQ q hq)).2,
  λq hq=>(hmap (h.uA q hq) (h.fK q hq)).1,λq hq=>(hmap (h.uA q hq) (h.fK q hq)).2,h.mh,
  (hmap h.sN h.jh).1,(hmap h.sN h.jh).2,
  λi m a c=>(fV (h.wr i m a c) (h.cM i m a c)).1,λi m a c=>(fV (h.wr i m a c) (h.cM i m a c)).2,
  λi m a c=>(hmap (h.QK i m a c) (h.jB i m a c)).1,λi m a c=>(hmap (h.QK i m a c) (h.jB i m a c)).2,
  λi m q a c o=>(fV (h.sh i m q a c o) (h.cU i m q a c o)).1,λi m q a c o=>(fV (h.sh i m q a c o) (h.cU i m q a c o)).2,
  λi m q a c o=>(hrow (h.it i m q a c o) (λk=>h.cY i m q k a c o)).1,λi m q k a c o=>(hrow (h.it i m q a c o) (λk=>h.cY i m q k a c o)).2 k,h.reads.frame (λk hk h1 _=>hf k hk h1),
  λi m a=>(h.L2 i m a).of λk hk ht=>hf k hk (by rw[ht])⟩
structure vF(w w':af):Prop where
 heap:w'.heap=w.heap
 os:w'.os=w.os
 tape:w'.tape=w.tape
 output:w'.output=w.output
def vF.pS(h:vF w w')(s:Nat)(τ:Nat->Tag):Stp s τ w τ w':=⟨h.os,h.tape,h.output,by rw[h.heap];exact zaf _,λ_ _=>rfl,λk _ _=>by rw[h.heap]⟩
def bB.same(h:bB w τ aJ b s A)(hs:vF w w'):bB w' τ aJ b s A:=h.frame (λk _ _=>⟨by rw[hs.heap],rfl⟩)
def bB.below(h:bB w τ aJ b s A)(hb:Below w.heap.size w w'):bB w' τ aJ b s A:=h.frame (λk hk _=>⟨hb.block k hk,rfl⟩)
def gB{o:Nat}{t:az}(h:aT w b c t)(hc:c[o]?=Y fH)(v:aj):vF w ((w.setCell ⟨b,o,F⟩ v).setCell ⟨b,o,F⟩ fH):=by
 refine⟨?_,rfl,rfl,rfl⟩;apply Array.ext_getElem?;intro i;by_cases e:i=b
 ·subst e;have h1:((w.setCell ⟨i,o,F⟩ v).setCell ⟨i,o,F⟩ fH).heap[i]?=Y (.cells ((c.setIfInBounds o v).setIfInBounds o fH) t (0,0)):=(h.set o v).set o fH;have h2:w.heap[i]?=Y (.cells c t (0,0)):=h;rw[h1,h2];obtain⟨ho,hv⟩:=Array.getElem?_eq_some_iff.1 hc;congr 2;apply Array.ext_getElem?;intro j;by_cases e:o=j
  ·subst e;simp[ho,hv]
  ·simp[e]
 ·rw[zad _ _ _ _ e,zad _ _ _ _ e]
end
end
section
open Go Go.RowKit Go.MuLone
open Go.Maps (Keyed)
def eV:Keyed prog 3:=Maps.int_keyed underlying3
def gx:Keyed prog 9:=Maps.string_keyed underlying9
def YC(h: -9223372036854775808<=n)(h':n<=9223372036854775807):(Lit.int .i64 n).wf=Z6:=WalkArith.wf_i64 ⟨h,h'⟩
def ap1(h: -9223372036854775808<=n)(h':n<=9223372036854775807):keyOf prog 3 (.int .i64 n)=Y (.int .i64 n):=Maps.keyOf_int_mk underlying3 (YC h h')
def fQ{s:ah}(h:s.size<=ae0):keyOf prog 9 (.string s)=Y (.string s.data.toList):=WideMaps.keyOf_string_mk underlying9 h
def QO(w:af):(zeroValue 118).run prog w=.ok (.pointer F) w:=Yl
def vI(w:af):(zeroValue 168).run prog w=.ok (.pointer F) w:=Yl
def nD(w:af):(zeroValue 214).run prog w=.ok (.agg #[.slice F 0 0,.nilIface]) w:=Yl
def zF(x y:aj)(w:af):(Instr.field 214 (.agg #[x,y]) 0).run prog w=.ok x w:=Yl
def YD(x y:aj)(w:af):(Instr.field 214 (.agg #[x,y]) 1).run prog w=.ok y w:=Yl
def Dk(w:af):(zeroValue 3).run prog w=.ok (.int .i64 0) w:=Yl
section
variable {w:af}{τ:Nat->Tag}{aJ b:Nat}{s:MS}{A:SA}
def bB.acH(h:bB w τ aJ b s A):∃a cap,A.cR=.slice a s.parts cap/\w.cell? ⟨b,1,F⟩=Y (.slice a s.parts cap):=by obtain⟨a,cap,hv⟩:=bI h.cR;exact⟨a,cap,hv,by rw[<-hv];exact h.blk.cell (o:=1) rfl⟩
def abO(h:bB w τ aJ b s A)(k:ah)(hk:k.size<=ae0):
 Calls prog 27 #[ptr b,.string k] w λe w'=>e=.returned (.tuple #[.int .i64 (if bz k then partOf s.parts k else 0),.int .i64 (if bz k then 0 else 4)])/\Below w.heap.size w w':=by
 have c:=vG k w hk;have IV:=h.ok.p4;have hp1:=h.ok.p1;unfold ptr;cases hg:bz k with
 |true=>
  have hsz:1<=k.size/\k.size<=8:=by simpa[bz]using hg
  obtain⟨a,cap,_,cP⟩:=h.acH;have cp:=sM b s.parts a cap k w I I I cP;unfold ptr at cp;rw[hg]at c;clear hg;go_enter func27,ntmps27;go_wp2_with fail
  refine c.mono ?_;rintro e w' ⟨rfl,rfl⟩;go_wp2_with fail
  refine cp.mono ?_;rintro e w' ⟨rfl,hB⟩;go_wp2_with fail
  go_ret2
  exact⟨rfl,hB⟩
 |false=>
  rw[hg]at c;clear hg;go_enter func27,ntmps27;go_wp2_with fail
  refine c.mono ?_;rintro e w' ⟨rfl,rfl⟩;go_wp2_with fail
  go_ret2
  exact⟨rfl,ag2 _ _⟩
def fB(s:MS)(A:SA)(n:Int):aj×Bool:=match bL s n with
 |some _=>(ptr (A.pw (n-1).toNat),Z6)
 |none=>(.pointer F,E)
def zu(h:bB w τ aJ b s A)(n:Int)(hn: -9223372036854775808<=n)(hn':n<=9223372036854775807):
 Calls prog 51 #[ptr b,.int .i64 n] w λe w'=>e=.returned (.tuple #[(fB s A n).1,.bool (fB s A n).2])/\vF w w':=by
 have c2:w.cell? ⟨b,2,F⟩=Y (.int .i32 0):=h.blk.cell (o:=2) rfl;have c5:w.cell? ⟨b,6,F⟩=Y (.map (Y A.wm)):=h.blk.cell (o:=6) rfl;have f2:=h.blk.frozen 2;have hM:∀v,aS (w.setCell ⟨b,2,F⟩ v) prog 3 A.wm (cX s A):=λv=>h.sN.of_eq (zad _ _ _ _ (λe=>by have:=h.jh;rw[e,h.tag]at this;simp at this));have eX:=gB h.blk (o:=2) rfl (.int .i32 1);unfold fH at eX;obtain⟨fv,aP,hval⟩:∃fv,cX s A (.int .i64 n)=fv/\(fB s A n).1=fv.getD (.pointer F)/\(fB s A n).2=fv.isSome:=by refine⟨_,rfl,?_⟩;unfold cX fB;cases hf:bL s n<;>simp only[hf]<;>exact⟨rfl,rfl⟩
 rw[hval.1,hval.2];unfold ptr;go_enter_defers func51,ntmps51;go_wp2_with (first|(go_at_call 37;refine(ak6 Tryz.bD ⟨b,2,F⟩ _ c2 f2).mono ?_;rintro e w' ⟨rfl,rfl⟩)|(at_lookup;refine cG _ rfl _ _ 102 rfl 3 118 eV underlying102 (QO _) A.wm (cX s A) rfl (hM _) _ (.int .i64 n) rfl (ap1 hn hn') fv aP ?_))
 refine ai2 (f:=38) (args:=#[.pointer (Y ⟨b,2,F⟩)]) XI YU ?_;refine(af1 Tryz.bD ⟨b,2,F⟩ .returning _ ?_ ?_).mono ?_
 ·exact World.cell?_setCell_same w ⟨b,2,F⟩ (.int .i32 1) c2
 ·simp[f2]
 rintro e u' w'' ⟨rfl,rfl,rfl⟩;exact⟨_,av8 rfl _ _ _,rfl,eX⟩
def fC(s:MS)(A:SA)(i:Nat)(m:MW)(p:Int):aj×Int:=if aK s.parts m.items p=Z6 then(ptr (A.sh i p.toNat),0)else(.pointer F,8)
def B6{v v':aj}{a b:Int}(h:(v,a)=(v',b)):Ending.returned (.tuple #[v,.int .i64 a])=.returned (.tuple #[v',.int .i64 b]):=by cases h;rfl
def wY(pw sm:Nat)(i:Nat)(m:MW)(p:Int)(w:af)(hp: -9223372036854775808<=p)(rz:p<=9223372036854775807)(c3:w.cell? ⟨pw,4,F⟩=Y (.bool E))(c4:w.cell? ⟨pw,5,F⟩=Y (.map (Y sm)))(hM:aS w prog 3 sm (bV s A i m)):
 Calls prog 88 #[ptr pw,.int .i64 p] w λe w'=>e=.returned (.tuple #[(fC s A i m p).1,.int .i64 (fC s A i m p).2])/\w'=w:=by
 unfold ptr;cases ho:aK s.parts m.items p with
 |true=>
  have aP:bV s A i m (.int .i64 p)=Y (.pointer (Y ⟨A.sh i p.toNat,0,F⟩)):=by simp only[bV,ho,if_true];rfl
  have Hr:Hid (fC s A i m p=(.pointer (Y ⟨A.sh i p.toNat,0,F⟩),0)):=by unfold Hid fC;rw[ho];rfl
  clear ho;go_enter func88,ntmps88;go_wp2_with (at_lookup;refine cG _ rfl _ _ 162 rfl 3 168 eV underlying162 (vI _) sm (bV s A i m) rfl hM _ (.int .i64 p) rfl (ap1 hp rz) _ aP ?_)
  go_ret2
  exact⟨B6 Hr.out.symm,rfl⟩
 |false=>
  have aP:bV s A i m (.int .i64 p)=F:=by simp[bV,ho]
  have Hr:Hid (fC s A i m p=(.pointer F,8)):=by unfold Hid fC;rw[ho];rfl
  clear ho;go_enter func88,ntmps88;go_wp2_with (at_lookup;refine cG _ rfl _ _ 162 rfl 3 168 eV underlying162 (vI _) sm (bV s A i m) rfl hM _ (.int .i64 p) rfl (ap1 hp rz) _ aP ?_)
  go_ret2
  exact⟨B6 Hr.out.symm,rfl⟩
end
structure rO(w w':af)(b:Nat):Prop where
 os:w'.os=w.os
 tape:w'.tape=w.tape
 output:w'.output=w.output
 size:w'.heap.size=w.heap.size
 block:∀k,k≠b->w'.heap[k]?=w.heap[k]?
def rO.fU(h:w.mapTurned w' b):rO w w' b:=⟨h.grown.os,h.grown.tape,h.grown.output,Fq h,λ_ hk=>C5 h hk⟩
def rO.locked{w1:af}{o kb:Nat}{t:az}(hb:aT w b c t)(hc:c[o]?=Y fH)(v:aj)(h:rO (w.setCell ⟨b,o,F⟩ v) w1 kb)(hne:b≠kb):rO w (w1.setCell ⟨b,o,F⟩ fH) kb:=by
 refine⟨h.os,h.tape,h.output,by simpa[ab1]using h.size,λk hk=>?_⟩;by_cases e:k=b
 ·subst e;have h1:aT (w1.setCell ⟨k,o,F⟩ fH) k ((c.setIfInBounds o v).setIfInBounds o fH) t:=((hb.set o v).of_eq (h.block k hne)).set o fH;have h2:aT ((w.setCell ⟨k,o,F⟩ v).setCell ⟨k,o,F⟩ fH) k ((c.setIfInBounds o v).setIfInBounds o fH) t:=(hb.set o v).set o fH;have h3:=(gB hb hc v).heap;rw[show (w1.setCell ⟨k,o,F⟩ fH).heap[k]?=_ from h1,<-show ((w.setCell ⟨k,o,F⟩ v).setCell ⟨k,o,F⟩ fH).heap[k]?=_ from h2,h3]
 ·rw[zad _ _ _ _ e,h.block k hk,zad _ _ _ _ e]
def fE{w3:af}{o:Nat}{t:az}{v:aj}(hb:aT w b c t)(hc:c[o]?=Y fH)(h3:∀k,p k->w3.heap[k]?=(w.setCell ⟨b,o,F⟩ v).heap[k]?)(k:Nat)(hk:p k):
 (w3.setCell ⟨b,o,F⟩ fH).heap[k]?=w.heap[k]? :=by
 by_cases e:k=b
 ·subst e;have h1:aT (w3.setCell ⟨k,o,F⟩ fH) k ((c.setIfInBounds o v).setIfInBounds o fH) t:=((hb.set o v).of_eq (h3 k hk)).set o fH;have h2:aT ((w.setCell ⟨k,o,F⟩ v).setCell ⟨k,o,F⟩ fH) k ((c.setIfInBounds o v).setIfInBounds o fH) t:=(hb.set o v).set o fH;have h4:=(gB hb hc v).heap;rw[show (w3.setCell ⟨k,o,F⟩ fH).heap[k]?=_ from h1,<-show ((w.setCell ⟨k,o,F⟩ v).setCell ⟨k,o,F⟩ fH).heap[k]?=_ from h2,h4]
 ·rw[zad _ _ _ _ e,h3 k hk,zad _ _ _ _ e]
def dB{t t':az}(h:aT w b c t)(hm:aS w P t' k f):b≠k:=by rintro rfl;obtain⟨n,D,⟨es,clock,hb,_⟩,_⟩:=hm;have:w.heap[b]?=Y (.cells c t (0,0)):=h;rw[this]at hb;cases hb
section
variable {w:af}
def Q4(pb kb vb:Nat)(f:Lit->Option aj)(hb:aT w pb #[fH,gy,.map (Y kb),.map (Y vb)] 202)(hM:aS w prog 3 kb f)(L:List Lit)(hL:∀kl,f kl≠F->kl∈L)(hn:L.length<ae0)
 (n:Int) (h1: -9223372036854775808<=n) (h2:n<=9223372036854775807) (iv sv:aj) (hiv:∃a l c,iv=.slice a l c) (rD:AW sv):
 Calls prog 91 #[ptr pb,.int .i64 n,iv,sv] w λe w'=>e=.returned (.tuple #[])/\aS w' prog 3 kb (upd f (.int .i64 n) (.agg #[iv,sv]))/\rO w w' kb:=by
 have c0:w.cell? ⟨pb,0,F⟩=Y (.int .i32 0):=hb.cell (o:=0) rfl;have c2:w.cell? ⟨pb,2,F⟩=Y (.map (Y kb)):=hb.cell (o:=2) rfl;have f0:=hb.frozen 0;have hne:=dB hb hM;have pz:∀v,aS (w.setCell ⟨pb,0,F⟩ v) prog 3 kb f:=λv=>hM.of_eq (zad _ _ _ _ (λe=>hne e.symm));obtain⟨ia,il,ic,rfl⟩:=hiv;unfold ptr;rcases rD with rfl|⟨st,sx,rfl⟩
 all_goals
  go_enter_defers func91,ntmps91
  go_wp2_with (first|(go_at_call 37;refine(ak6 Tryz.bD ⟨pb,0,F⟩ _ c0 f0).mono ?_;rintro e w' ⟨rfl,rfl⟩)|(at_mapUpdate;refine qc _ rfl _ _ _ 199 rfl 3 214 eV underlying199 kb f rfl (pz _) L hL hn _ _ (.int .i64 n) rfl rfl (ap1 h1 h2) ?_;intro w1 xL hT))
  have hB:=rO.fU hT
  have jd:aT w1 pb _ 202:=(hb.set 0 (.int .i32 1)).of_eq (hB.block pb hne)
  refine ai2 (f:=38) (args:=#[.pointer (Y ⟨pb,0,F⟩)]) XI YU ?_
  refine(af1 Tryz.bD ⟨pb,0,F⟩ .returning _ (jd.cell (o:=0) rfl) (jd.frozen 0)).mono ?_
  rintro e u' w'' ⟨rfl,rfl,rfl⟩
  exact⟨_,be2 rfl _ _ _,rfl,xL.of_eq (zad _ _ _ _ (λe=>hne e.symm)),rO.locked hb rfl _ hB hne⟩
def acL(pb kb vb:Nat)(f:Lit->Option aj)(hb:aT w pb #[fH,gy,.map (Y kb),.map (Y vb)] 202)(hM:aS w prog 3 kb f)
 (n:Int) (h1: -9223372036854775808<=n) (h2:n<=9223372036854775807):
 Calls prog 92 #[ptr pb,.int .i64 n] w λe w'=>e=.returned (.tuple #[])/\aS w' prog 3 kb (del f (.int .i64 n))/\rO w w' kb:=by
 have c0:w.cell? ⟨pb,0,F⟩=Y (.int .i32 0):=hb.cell (o:=0) rfl;have c2:w.cell? ⟨pb,2,F⟩=Y (.map (Y kb)):=hb.cell (o:=2) rfl;have f0:=hb.frozen 0;have hne:=dB hb hM;have pz:∀v,aS (w.setCell ⟨pb,0,F⟩ v) prog 3 kb f:=λv=>hM.of_eq (zad _ _ _ _ (λe=>hne e.symm));unfold ptr;go_enter_defers func92,ntmps92;go_wp2_with (first|(go_at_call 37;refine(ak6 Tryz.bD ⟨pb,0,F⟩ _ c0 f0).mono ?_;rintro e w' ⟨rfl,rfl⟩)|(at_delete;refine qd _ rfl _ _ 199 3 rfl 214 eV underlying199 kb f rfl (pz _) _ (.int .i64 n) rfl (ap1 h1 h2) ?_;intro w1 xL hT))
 have hB:=rO.fU hT;have jd:aT w1 pb _ 202:=(hb.set 0 (.int .i32 1)).of_eq (hB.block pb hne);refine ai2 (f:=38) (args:=#[.pointer (Y ⟨pb,0,F⟩)]) XI YU ?_;refine(af1 Tryz.bD ⟨pb,0,F⟩ .returning _ (jd.cell (o:=0) rfl) (jd.frozen 0)).mono ?_;rintro e u' w'' ⟨rfl,rfl,rfl⟩;exact⟨_,be2 rfl _ _ _,rfl,xL.of_eq (zad _ _ _ _ (λe=>hne e.symm)),rO.locked hb rfl _ hB hne⟩
end
end
section
open Go Go.RowKit
open Go.Maps (Keyed)
section
variable {w:af}{τ:Nat->Tag}{aJ b:Nat}{s:MS}{A:SA}
def setAt(s:MS)(i:Nat)(m:MW):MS:={s with ws:=s.ws.set i m}
def K1(s:MS)(n:Int)(m:MW):om s n m=setAt s (n-1).toNat m:=rfl
def Wv(h:bL s n=F):n<1\/(s.ws.length:Int)<n\/(1<=n/\n<=s.ws.length/\∃m,s.ws[(n-1).toNat]?=Y m/\m.dF=Z6):=by
 unfold bL at h;split at h
 ·omega
 ·rename_i hb;have hlt:(n-1).toNat<s.ws.length:=I
  rw[zag hlt]at h;simp only at h;refine ak9 (ak9 ⟨I,I,_,zag hlt,?_⟩);cases hc:s.ws[(n-1).toNat].dF
  ·rw[hc]at h;simp at h
  ·rfl
def fy(h:bL s n=Y m):1<=n/\n<=s.ws.length/\s.ws[(n-1).toNat]?=Y m/\m.dF=E:=by
 unfold bL at h;split at h
 ·cases h
 ·rename_i hb;have hlt:(n-1).toNat<s.ws.length:=I
  rw[zag hlt]at h;simp only at h;split at h
  ·cases h
  ·rename_i hc;cases h;exact⟨I,I,zag hlt,by simpa using hc⟩
def lG(hm:s.ws[i]?=Y m)(hc:m.dF=E):bL s ((i:Int)+1)=Y m:=by have hi:=aH hm;unfold bL;rw[if_neg I,show ((i:Int)+1-1).toNat=i from by omega,hm];simp[hc]
def lI(hi:i<s.ws.length)(hc:m.dF=E):bL (setAt s i m) ((i:Int)+1)=Y m:=
 lG (by simp[setAt,hi]) hc
def gH(hn:n≠(i:Int)+1):bL (setAt s i m) n=bL s n:=by
 unfold bL setAt;simp only[am0];split
 ·rfl
 ·rw[ao3 I]
def j4{j:Nat}(h:(setAt s i m').ws[j]?=Y m):(i=j/\m=m')\/(i≠j/\s.ws[j]?=Y m):=cS h
def F4(hm:s.ws[i]?=Y m)(hc:m.dF=E)(AM:m'.dF=E):cX (setAt s i m') A=cX s A:=by
 funext kl;cases kl with
 |int k n=>
  cases k<;>try rfl
  simp only[cX];by_cases e:n=(i:Int)+1
  ·rw[e,lI (aH hm) AM,lG hm hc]
  ·rw[gH e]
 |_=>rfl
def bB.om(h:bB w τ aJ b s A)(hm:s.ws[i]?=Y m)(hc:m.dF=E)(hit:m'.items=m.items)(AM:m'.dF=E)
 (ahD:∀q,m.comm q=Z6->m'.comm q=Z6) (SU:∀q,m'.comm q=Z6->m'.cC q=Z6) (hpo:∀q:Nat,m'.cC q=Z6->aK s.parts m.items q=Z6) {w':af} {MQ:Nat->List UInt8->Nat}
 (hsame:∀k,k<w.heap.size->(∀q,q<s.parts->k≠A.kb q/\k≠A.vb q/\(aK s.parts m.items q=Z6->k≠A.sh i q))->w'.heap[k]?=w.heap[k]?)
 (hk:∀q,q<s.parts->aS w' prog 3 (A.kb q) (bP (setAt s i m') A q))
 (hv:∀q,q<s.parts->aS w' prog 9 (A.vb q) (Dj {A with vis:=MQ} q)) (hvo:∀q,q<s.parts->K0 (setAt s i m') q (MQ q))
 (hs:∀q:Nat,aK s.parts m.items q=Z6->aT w' (A.sh i q) #[ptr (A.pb q),.int .i64 (bO m' q),if m'.cC q then lJ else A.iv i q] 174):
 bB w' τ aJ b (setAt s i m') {A with vis:=MQ}:=by
 have hi:=aH hm;have hbd:∀q:Nat,aK s.parts m.items q=Z6->q<s.parts:=λq ho=>by have:=(dh (by have:=h.ok.p1;omega) ho).2;omega
 have hne:∀{k a c:Nat},τ k=(aJ,a,c)->a≠3->a≠4->(a=8->∀q,q<s.parts->c≠i*4+q)->k<w.heap.size->w'.heap[k]?=w.heap[k]? :=by
  intro k a c ht h3 h4 h8 wN;refine hsame k wN (λq hq=>⟨λe=>?_,λe=>?_,λho e=>?_⟩)
  ·have:=h.cQ q hq;rw[<-e,ht]at this;simp at this;omega
  ·have:=h.fK q hq;rw[<-e,ht]at this;simp at this;omega
  ·have:=h.cU i m q hm hc ho;rw[<-e,ht]at this;simp at this;exact h8 this.1 q hq this.2
 have IV:=h.ok.p4;have ahE:∀{j:Nat} {mj mj':MW},mj'.items=mj.items->bV (setAt s i m') A j mj'=bV s A j mj:=by
  intro j mj mj' e;funext kl;cases kl with
  |int k n=>cases k<;>first|rfl|(simp only[bV,e];rfl)
  |_=>rfl
 have dX:∀{j:Nat} {mj:MW},(setAt s i m').ws[j]?=Y mj->∃mo,s.ws[j]?=Y mo/\mj.items=mo.items/\(mj.dF=E->mo.dF=E)/\(i≠j->mj=mo):=by
  intro j mj hj;rcases j4 hj with⟨rfl,rfl⟩|⟨e,hj'⟩
  ·exact⟨m,hm,hit,λ_=>hc,λe=>absurd rfl e⟩
  ·exact⟨mj,hj',rfl,id,λ_=>rfl⟩
 refine⟨⟨h.ok.p1,h.ok.p4,by simpa[setAt]using h.ok.len,λj mj hj=>?_,h.ok.keys,h.ok.opn⟩,⟨λj mj q hj=>?_,λj mj q hj=>?_,λj mj q hj=>?_⟩,?_,?_,h.tag,?_,h.eY,λq hq=>?_,h.dA,hk,h.cQ,hv,h.fK,hvo,?_,h.jh,λj mj hj eJ=>?_,λj mj hj eJ=>?_,λj mj hj eJ=>?_,λj mj hj eJ=>?_,λj mj q hj eJ ho=>?_,λj mj q hj eJ ho=>?_,λj mj q hj eJ ho=>?_,λj mj q k hj eJ ho=>?_,h.reads.frame (λk hk h1 KC=>⟨hne (a:=(τ k).2.1) (c:=(τ k).2.2) (by rw[<-h1]) I I I hk,rfl⟩),λj mj hj=>?_⟩
 ·obtain⟨mo,ho,e,_⟩:=dX hj;rw[e];exact h.ok.items j mo ho
 ·intro hcm;rcases j4 hj with⟨rfl,rfl⟩|⟨_,hj'⟩
  ·exact SU q hcm
  ·exact h.inv.cp j mj q hj' hcm
 ·intro Wj;rcases j4 hj with⟨rfl,rfl⟩|⟨_,hj'⟩
  ·rw[hit];exact hpo q Wj
  ·exact h.inv.po j mj q hj' Wj
 ·intro hcm;rcases j4 hj with⟨rfl,rfl⟩|⟨_,hj'⟩
  ·rw[AM]at hcm;cases hcm
  ·exact h.inv.cc j mj q hj' hcm
 ·refine h.told.ws rfl rfl rfl rfl (λj mj hj=>by obtain⟨mo,ho,_⟩:=dX hj;exact h.told.sv j mo ho) (λj mj hj=>?_);by_cases e:i=j
  ·subst e;rw[hm]at hj;cases hj;exact⟨m',by simp[setAt,hi],hit,ahD,rfl⟩
  ·exact⟨mj,by simp only[setAt];rw[ao3 e];exact hj,rfl,λ_ hq=>hq,rfl⟩
 ·have:=h.blk.of_eq (hne h.tag I I I h.blk.lt);simpa[setAt]using this
 ·exact aI h.cR (λk hk=>hne (h.eY k hk) I I I (aQ h.cR k hk).2)
 ·exact(h.part q hq).of_eq (hne (h.dA q hq) I I I (h.part q hq).lt)
 ·have:cX (setAt s i m') {A with vis:=MQ}=cX s A:=F4 (A:=A) hm hc AM;rw[this];exact h.sN.of_eq (hne h.jh I I I h.sN.lt)
 ·obtain⟨mo,ho,_,ec,_⟩:=dX hj;have hb:=h.wr j mo ho (ec eJ);exact hb.of_eq (hne (h.cM j mo ho (ec eJ)) I I I hb.lt)
 ·obtain⟨mo,ho,_,ec,_⟩:=dX hj;exact h.cM j mo ho (ec eJ)
 ·obtain⟨mo,ho,e,ec,_⟩:=dX hj;have:bV (setAt s i m') {A with vis:=MQ} j mj=bV s A j mo:=ahE e;rw[this];have hb:=h.QK j mo ho (ec eJ);exact hb.of_eq (hne (h.jB j mo ho (ec eJ)) I I I hb.lt)
 ·obtain⟨mo,ho,_,ec,_⟩:=dX hj;exact h.jB j mo ho (ec eJ)
 ·obtain⟨mo,hmo,e,ec,en⟩:=dX hj;rw[e]at ho;by_cases Ok:i=j
  ·subst Ok;rw[hm]at hmo;cases hmo;rcases j4 hj with⟨_,rfl⟩|⟨e',_⟩
   ·exact hs q ho
   ·exact absurd rfl e'
  ·rw[en Ok];rw[en Ok]at eJ;have hb:=h.sh j mo q hmo eJ ho;refine hb.of_eq (hne (h.cU j mo q hmo eJ ho) I I (λ_ q' fX e'=>?_) hb.lt);have V5:=(dh (n:=(s.parts:Int)) (by have:=h.ok.p1;omega) ho).2;omega
 ·obtain⟨mo,hmo,e,ec,_⟩:=dX hj;rw[e]at ho;exact h.cU j mo q hmo (ec eJ) ho
 ·obtain⟨mo,hmo,e,ec,_⟩:=dX hj;rw[e]at ho;rw[e];have hr:=h.it j mo q hmo (ec eJ) ho;exact aI hr (λk hk=>hne (h.cY j mo q k hmo (ec eJ) ho hk) I I I (aQ hr k hk).2)
 ·obtain⟨mo,hmo,e,ec,_⟩:=dX hj;rw[e]at ho;exact h.cY j mo q k hmo (ec eJ) ho
 ·obtain⟨mo,hmo,e,_,_⟩:=dX hj;rw[e];exact(h.L2 j mo hmo).of λk hk ht=>⟨hne ht I I I hk,rfl⟩
end
end
section
open Go Go.RowKit Go.MuLone
open Go.Maps (Keyed)
def jZ:List Lit:=(ab8 201).map (fun(i:Nat)=>Lit.int .i64 (i:Int))
def qn(h:0<=n)(h':n<=200):Lit.int .i64 n∈jZ:=by unfold jZ;refine List.mem_map.2 ⟨n.toNat,List.mem_range.2 I,?_⟩;rw[Int.toNat_of_nonneg h]
def qo:jZ.length<ae0:=by unfold jZ ae0;simp
section
variable {w:af}{τ:Nat->Tag}{aJ b:Nat}{s:MS}{A:SA}
def Jc(hlen:s.ws.length<=200)(q:Nat):∀kl,bP s A q kl≠F->kl∈jZ:=by
 intro kl h;cases kl with
 |int k n=>
  cases k<;>try exact absurd rfl h
  simp only[bP]at h;cases hf:bL s n with
  |none=>rw[hf]at h;exact absurd rfl h
  |some m=>obtain⟨h1,h2,_⟩:=fy hf;exact qn I I
 |_=>exact absurd rfl h
def nh(w:af)(τ:Nat->Tag)(aJ b:Nat)(r:Int×MS)(e:Ending)(w':af):Prop:=
 ∃A',e=.returned (.int .i64 r.1)/\bB w' τ aJ b r.2 A'/\Stp aJ τ w τ w'
def Je(hm:s.ws[i]?=Y m)(hc:m.dF=E)(q q':Nat):
 bP (setAt s i {m with cC:=put m.cC q}) A q'=if q'=q then upd (bP s A q) (.int .i64 ((i:Int)+1)) (.agg #[A.iv i q,A.sv i])else bP s A q':=by
 have hi:=aH hm;funext kl;cases kl with
 |int k n=>
  by_cases ek:k=.i64
  ·subst ek;by_cases e:n=(i:Int)+1
   ·subst e;have h1:bL (setAt s i {m with cC:=put m.cC q}) ((i:Int)+1)=Y {m with cC:=put m.cC q}:=lI hi hc;by_cases eq:q'=q
    ·subst eq;simp only[if_true];rw[upd_same Z5];simp only[bP,h1,put,if_true];rw[show ((i:Int)+1-1).toNat=i from by omega]
    ·simp only[if_neg eq,bP,h1,lG hm hc,put]
   ·have h1:bL (setAt s i {m with cC:=put m.cC q}) n=bL s n:=gH e;by_cases eq:q'=q
    ·subst eq;simp only[if_true];rw[fS (by intro e';injection e';omega)];simp only[bP,h1]
    ·simp only[if_neg eq,bP,h1]
  ·have hno:∀(s:MS) (q:Nat),bP s A q (.int k n)=F:=λs q=>by cases k<;>first|rfl|exact absurd rfl ek
   by_cases eq:q'=q
   ·subst eq;simp only[if_true];rw[fS (by intro e';injection e' with e1 e2;exact ek e1),hno,hno]
   ·rw[if_neg eq,hno,hno]
 |_=>
  by_cases eq:q'=q
  ·subst eq;simp only[if_true];rw[fS (by intro e';cases e')];rfl
  ·rw[if_neg eq];rfl
def oB{s':MS}{q:Nat}(h:K0 s q v)(hp:s'.parts=s.parts)
 (h1:∀(i:Nat) (m:MW),s.ws[i]?=Y m->m.comm q=Z6->∃m',s'.ws[i]?=Y m'/\m'.comm q=Z6/\m'.items=m.items)
 (h2:∀(i:Nat) (m':MW),s'.ws[i]?=Y m'->m'.comm q=Z6->∃m,s.ws[i]?=Y m/\m.comm q=Z6/\m'.items=m.items):K0 s' q v:=by
 refine⟨λl hl=>?_,λi m' x hm hc hx hq=>?_⟩
 ·obtain⟨m,hm,hc,x,hx,e⟩:=h.seen l hl;obtain⟨m',hm',AM,hi⟩:=h1 _ m hm hc;exact⟨m',hm',AM,x,by rw[hi];exact hx,by rw[hp];exact e⟩
 ·obtain⟨m,hm0,hc0,hi⟩:=h2 i m' hm hc;exact h.top i m x hm0 hc0 (by rw[<-hi];exact hx) (by rw[<-hp];exact hq)
def bB.cC(h:bB w τ aJ b s A){i:Nat}{m:MW}(hm:s.ws[i]?=Y m)(hc:m.dF=E){q:Nat}(ho:aK s.parts m.items q=Z6)(hnp:m.cC q=E){w':af}
 (hsame:∀k,k≠A.kb q->k≠A.sh i q->w'.heap[k]?=w.heap[k]?)
 (hk:aS w' prog 3 (A.kb q) (upd (bP s A q) (.int .i64 ((i:Int)+1)) (.agg #[A.iv i q,A.sv i])))
 (hs:aT w' (A.sh i q) #[ptr (A.pb q),.int .i64 1,lJ] 174):
 bB w' τ aJ b (setAt s i {m with cC:=put m.cC q}) A:=by
 have hp1:=h.ok.p1;have hq:q<s.parts:=by have:=(dh I ho).2;omega
 have YK:m.comm q=E:=by
  cases tY:m.comm q
  ·rfl
  ·rw[h.inv.cp i m q hm tY]at hnp;cases hnp
 have hkn:∀q',q'<s.parts->q'≠q->A.kb q'≠A.kb q:=λq' fX hne e=>by have h1:=h.cQ q' fX;rw[e,h.cQ q hq]at h1;simp at h1;omega
 have hks:∀q',q'<s.parts->A.kb q'≠A.sh i q:=λq' fX e=>by have h1:=h.cQ q' fX;rw[e,h.cU i m q hm hc ho]at h1;simp at h1
 have YL:∀q',q'<s.parts->A.vb q'≠A.kb q/\A.vb q'≠A.sh i q:=λq' fX=>⟨λe=>by
  have h1:=h.fK q' fX;rw[e,h.cQ q hq]at h1;simp at h1,λe=>by have h1:=h.fK q' fX;rw[e,h.cU i m q hm hc ho]at h1;simp at h1⟩
 refine h.om (m':={m with cC:=put m.cC q}) (MQ:=A.vis) hm hc rfl hc (λ_ hq=>hq) (λq' fX=>?_) (λq' fX=>?_) (λk _ hne=>?_) (λq' fX=>?_) (λq' fX=>?_) (λq' fX=>?_) (λq' ho'=>?_)
 ·show put m.cC q q'=Z6;unfold put;split
  ·rfl
  ·exact h.inv.cp i m q' hm fX
 ·have E6:put m.cC q q'=Z6:=fX;unfold put at E6;split at E6
  ·rename_i e;rw[e];exact ho
  ·exact h.inv.po i m q' hm E6
 ·exact hsame k (hne q hq).1 ((hne q hq).2.2 ho)
 ·rw[Je hm hc];split
  ·rename_i e;subst e;exact hk
  ·rename_i e;exact(h.kept q' fX).of_eq (hsame _ (hkn q' fX e) (hks q' fX))
 ·exact(h.uA q' fX).of_eq (hsame _ (YL q' fX).1 (YL q' fX).2)
 ·refine oB (h.mh q' fX) rfl (λj mj hj eJ=>?_) (λj mj hj eJ=>?_)
  ·by_cases e:i=j
   ·subst e;rw[hm]at hj;cases hj;exact⟨{m with cC:=put m.cC q},by simp[setAt,aH hm],eJ,rfl⟩
   ·exact⟨mj,by simp[setAt,e,hj],eJ,rfl⟩
  ·rcases j4 hj with⟨rfl,rfl⟩|⟨_,hj'⟩
   ·exact⟨m,hm,eJ,rfl⟩
   ·exact⟨mj,hj',eJ,rfl⟩
 ·by_cases e:q'=q
  ·subst e;simpa[bO,put,YK]using hs
  ·have hb:=h.sh i m q' hm hc ho';have E6:q'<s.parts:=by have:=(dh I ho').2;omega
   have:aT w' (A.sh i q') _ _:=hb.of_eq (hsame _ (λe'=>by
    have h1:=h.cU i m q' hm hc ho';rw[e',h.cQ q hq]at h1;simp at h1) (λe'=>by have h1:=h.cU i m q' hm hc ho';rw[e',h.cU i m q hm hc ho]at h1;simp at h1;omega))
   simpa[bO,put,e]using this
def FQ(h:bB w τ aJ b s A)(n:Int)(m:MW)(hf:bL s n=Y m)(p:Int)(hp: -9223372036854775808<=p)(rz:p<=9223372036854775807):
 Calls prog 53 #[ptr (A.pw (n-1).toNat),.int .i64 p] w (nh w τ aJ b (bS s n p)):=by
 obtain⟨h1,h2,hm,hc⟩:=fy hf;have hlen:=h.ok.len;have hp1:=h.ok.p1;have IV:=h.ok.p4;obtain⟨i,hi⟩:∃i:Nat,n=(i:Int)+1:=⟨(n-1).toNat,I⟩
 subst hi;rw[show ((i:Int)+1-1).toNat=i from by omega]at hm⊢;have hW:=h.wr i m hm hc;have c0:w.cell? ⟨A.pw i,0,F⟩=Y (.int .i32 0):=hW.cell (o:=0) rfl;have f0:=hW.frozen 0;have eX:=gB hW (o:=0) rfl (.int .i32 1);have MT:A.sm i≠A.pw i:=λe=>by have h1:=h.jB i m hm hc;rw[e,h.cM i m hm hc]at h1;simp at h1
 have mq:=hW.set 0 (.int .i32 1);have d3:(w.setCell ⟨A.pw i,0,F⟩ (.int .i32 1)).cell? ⟨A.pw i,4,F⟩=Y (.bool E):=mq.cell (o:=4) rfl;have d4:(w.setCell ⟨A.pw i,0,F⟩ (.int .i32 1)).cell? ⟨A.pw i,5,F⟩=Y (.map (Y (A.sm i))):=mq.cell (o:=5) rfl;have pz:aS (w.setCell ⟨A.pw i,0,F⟩ (.int .i32 1)) prog 3 (A.sm i) (bV s A i m):=(h.QK i m hm hc).of_eq (zad _ _ _ _ MT);have cs:=wY (s:=s) (A:=A) (A.pw i) (A.sm i) i m p _ hp rz d3 d4 pz;cases ho:aK s.parts m.items p with
 |false=>
  have Hr:Hid (bS s ((i:Int)+1) p=(8,s)):=by unfold Hid bS;rw[hf];simp[ho]
  have hv:fC s A i m p=(.pointer F,8):=by unfold fC;rw[ho];rfl
  rw[hv]at cs;unfold ptr at cs⊢;unfold fH at eX;clear ho hv hf;go_enter_defers func53,ntmps53;go_wp2_with fail
  refine(ak6 Tryz.bD ⟨A.pw i,0,F⟩ _ c0 f0).mono ?_;rintro e w' ⟨rfl,rfl⟩;go_wp2_with fail
  refine cs.mono ?_;rintro e w' ⟨rfl,rfl⟩;go_wp2_with fail
  refine ai2 (f:=38) (args:=#[.pointer (Y ⟨A.pw i,0,F⟩)]) XI YU ?_;refine(af1 Tryz.bD ⟨A.pw i,0,F⟩ .returning _ (mq.cell (o:=0) rfl) (mq.frozen 0)).mono ?_;rintro e u' w'' ⟨rfl,rfl,rfl⟩;rw[Hr.out];exact⟨_,ak7 rfl _ _ _,A,rfl,h.same eX,eX.pS _ _⟩
 |true=>
  obtain⟨hb0,jd⟩:=dh I ho;obtain⟨q,rfl⟩:=zal hb0;have hq:q<s.parts:=I
  have hv:fC s A i m q=(.pointer (Y ⟨A.sh i q,0,F⟩),0):=by unfold fC;rw[ho];rfl
  rw[hv]at cs;have hS:=h.sh i m q hm hc ho;have rQ:A.sh i q≠A.pw i:=λe=>by have h1:=h.cU i m q hm hc ho;rw[e,h.cM i m hm hc]at h1;simp at h1
  have tN:aT (w.setCell ⟨A.pw i,0,F⟩ (.int .i32 1)) (A.sh i q) _ _:=hS.of_eq (zad _ _ _ _ rQ);cases hpq:m.cC q with
  |true=>
   have Hr:Hid (bS s ((i:Int)+1) q=(10,s)):=by unfold Hid bS;rw[hf];simp[ho,hpq]
   have hst:(bO m q != 0)=Z6:=by unfold bO;rw[hpq];cases m.comm q<;>rfl
   have e1:(w.setCell ⟨A.pw i,0,F⟩ (.int .i32 1)).cell? ⟨A.sh i q,1,F⟩=Y (.int .i64 (bO m q)):=tN.cell (o:=1) rfl;unfold ptr at cs⊢;unfold fH at eX;clear ho hv hf hpq;go_enter_defers func53,ntmps53;go_wp2_with fail
   refine(ak6 Tryz.bD ⟨A.pw i,0,F⟩ _ c0 f0).mono ?_;rintro e w' ⟨rfl,rfl⟩;go_wp2_with fail
   refine cs.mono ?_;rintro e w' ⟨rfl,rfl⟩;go_wp2_with fail
   refine ai2 (f:=38) (args:=#[.pointer (Y ⟨A.pw i,0,F⟩)]) XI YU ?_;refine(af1 Tryz.bD ⟨A.pw i,0,F⟩ .returning _ (mq.cell (o:=0) rfl) (mq.frozen 0)).mono ?_;rintro e u' w'' ⟨rfl,rfl,rfl⟩;rw[Hr.out];exact⟨_,ak7 rfl _ _ _,A,rfl,h.same eX,eX.pS _ _⟩
  |false=>
   have Hr:Hid (bS s ((i:Int)+1) q=(0,setAt s i {m with cC:=put m.cC q})):=by unfold Hid bS;rw[hf];simp only[ho,hpq,K1,au1];rw[show ((i:Int)+1-1).toNat=i from by omega];rfl
   have hst:bO m q=0:=by
    unfold bO;rw[hpq];cases tY:m.comm q
    ·rfl
    ·rw[h.inv.cp i m q hm tY]at hpq;cases hpq
   rw[hst,hpq]at hS tN;have hWb:=hW;have ahe:=hpq;generalize hW:w.setCell ⟨A.pw i,0,F⟩ (.int .i32 1)=w1 at *;have e0:w1.cell? ⟨A.sh i q,0,F⟩=Y (.pointer (Y ⟨A.pb q,0,F⟩)):=tN.cell (o:=0) rfl;have e1:w1.cell? ⟨A.sh i q,1,F⟩=Y (.int .i64 0):=tN.cell (o:=1) rfl;have e2:w1.cell? ⟨A.sh i q,2,F⟩=Y (A.iv i q):=tN.cell (o:=2) rfl;have d2:w1.cell? ⟨A.pw i,2,F⟩=Y (.int .i64 ((i:Int)+1)):=mq.cell (o:=2) rfl;have d9:w1.cell? ⟨A.pw i,3,F⟩=Y (A.sv i):=mq.cell (o:=3) rfl;have ahf:=h.told.sv i m hm;have ahg:∃a l c,A.iv i q=.slice a l c:=by obtain⟨a,cap,e⟩:=bI (h.it i m q hm hc ho);exact⟨a,_,cap,e⟩
   have S8:=h.cQ q hq;have hks:A.sh i q≠A.kb q:=λe=>by have h1:=h.cU i m q hm hc ho;rw[e,S8]at h1;simp at h1
   have AR:A.pw i≠A.kb q:=λe=>by have h1:=h.cM i m hm hc;rw[e,S8]at h1;simp at h1
   have hpw:A.pb q≠A.pw i:=λe=>by have h1:=h.dA q hq;rw[e,h.cM i m hm hc]at h1;simp at h1
   have UI:aT w1 (A.pb q) _ _:=(h.part q hq).of_eq (by rw[<-hW];exact zad _ _ _ _ hpw);have hKM:aS w1 prog 3 (A.kb q) (bP s A q):=(h.kept q hq).of_eq (by rw[<-hW];exact zad _ _ _ _ (λe=>AR e.symm));have hn1: -9223372036854775808<=(i:Int)+1:=I
   have hn2:(i:Int)+1<=9223372036854775807:=I
   unfold ptr at cs⊢;clear hv hf hpq hst;go_enter_defers func53,ntmps53;go_wp2_with fail
   refine(ak6 Tryz.bD ⟨A.pw i,0,F⟩ _ c0 f0).mono ?_;rintro e w' ⟨rfl,rfl⟩;rw[hW];go_wp2_with fail
   refine cs.mono ?_;rintro e w' ⟨rfl,rfl⟩;go_wp2_with fail
   go_region_held3 (λW=>W.cell? ⟨A.sh i q,0,F⟩=Y (.pointer (Y ⟨A.pb q,0,F⟩))/\W.cell? ⟨A.sh i q,2,F⟩=Y (A.iv i q)/\W.cell? ⟨A.pw i,2,F⟩=Y (.int .i64 ((i:Int)+1))/\W.cell? ⟨A.pw i,3,F⟩=Y (A.sv i)) (simp[*]) ((go_at_call 91;refine(Q4 (A.pb q) (A.kb q) (A.vb q) (bP s A q) (by exact UI) (by exact hKM) jZ (Jc hlen q) qo _ hn1 hn2 _ _ ahg ahf).mono ?_;rintro e w2 ⟨rfl,xL,eH⟩;have gN:=tN.of_eq (eH.block _ hks);have sO:=mq.of_eq (eH.block _ AR);have k0:=gN.cell (o:=0) (v:=.pointer (Y ⟨A.pb q,0,F⟩)) rfl;have k2:=gN.cell (o:=2) (v:=A.iv i q) rfl;have k1:=sO.cell (o:=2) (v:=.int .i64 ((i:Int)+1)) rfl;have k9:=sO.cell (o:=3) (v:=A.sv i) rfl))
   have k3:=gN.cell (o:=1) (v:=.int .i64 0) rfl;have f1:=gN.frozen 1;have f2:=gN.frozen 2;go_wp2_with fail
   have Od:=(gN.set 1 (.int .i64 1)).set 2 (.slice F 0 0);have wW:aT ((w2.setCell ⟨A.sh i q,1,F⟩ (.int .i64 1)).setCell ⟨A.sh i q,2,F⟩ (.slice F 0 0)) (A.pw i) _ _:=sO.of_eq ((zad _ _ _ _ (λe=>rQ e.symm)).trans (zad _ _ _ _ (λe=>rQ e.symm)));refine ai2 (f:=38) (args:=#[.pointer (Y ⟨A.pw i,0,F⟩)]) XI YU ?_;refine(af1 Tryz.bD ⟨A.pw i,0,F⟩ .returning _ (wW.cell (o:=0) rfl) (wW.frozen 0)).mono ?_;rintro e u' w'' ⟨rfl,rfl,rfl⟩;rw[Hr.out];have hall:∀k,(k≠A.kb q/\k≠A.sh i q)->(((w2.setCell ⟨A.sh i q,1,F⟩ (.int .i64 1)).setCell ⟨A.sh i q,2,F⟩ (.slice F 0 0)).setCell ⟨A.pw i,0,F⟩ fH).heap[k]?=w.heap[k]? :=
    fE hWb rfl (v:=.int .i32 1) (λk hk=>by rw[zad _ _ _ _ hk.2,zad _ _ _ _ hk.2,hW];exact eH.block k hk.1)
   refine⟨_,ak7 rfl _ _ _,A,rfl,?_,?_⟩
   ·exact h.cC hm hc ho ahe (λk h1 h2=>hall k ⟨h1,h2⟩) (xL.of_eq ((zad _ _ _ _ (λe=>AR e.symm)).trans ((zad _ _ _ _ (λe=>hks e.symm)).trans (zad _ _ _ _ (λe=>hks e.symm)))))
     (Od.of_eq (zad _ _ _ _ rQ))
   ·refine⟨eH.os.trans (by rw[<-hW];rfl),eH.tape.trans (by rw[<-hW];rfl),eH.output.trans (by rw[<-hW];rfl),?_,λ_ _=>rfl,λk _ hk=>hall k ⟨λe=>hk (by rw[e,S8]),λe=>hk (by rw[e,h.cU i m q hm hc ho])⟩⟩;have:=eH.size;rw[show w'.drew.heap.size=w.heap.size from by rw[<-hW];simp[ab1]]at this;simp[ab1,this]
def PT(h:bB w τ aJ b s A)(n p:Int)(hn: -9223372036854775808<=n)(hn':n<=9223372036854775807)(hp: -9223372036854775808<=p)(rz:p<=9223372036854775807):
 Calls prog 29 #[ptr b,.int .i64 n,.int .i64 p] w (nh w τ aJ b (bS s n p)):=by
 have c:=zu h n hn hn';cases hf:bL s n with
 |none=>
  have Hr:Hid (bS s n p=(7,s)):=by unfold Hid bS;rw[hf]
  have hv:fB s A n=(.pointer F,E):=by unfold fB;rw[hf]
  rw[hv]at c;unfold ptr at c⊢;clear hf hv;go_enter func29,ntmps29;go_wp2_with fail
  refine c.mono ?_;rintro e w1 ⟨rfl,hS⟩;go_wp2_with fail
  go_ret;rw[Hr.out];exact⟨A,rfl,h.same hS,hS.pS _ _⟩
 |some m=>
  have hv:fB s A n=(ptr (A.pw (n-1).toNat),Z6):=by unfold fB;rw[hf]
  rw[hv]at c;have c2:∀w1,vF w w1->Calls prog 53 #[ptr (A.pw (n-1).toNat),.int .i64 p] w1 (nh w1 τ aJ b (bS s n p)):=λw1 hS=>FQ (h.same hS) n m hf p hp rz;generalize (n-1).toNat=j at c c2;unfold ptr at c c2⊢;clear hf hv;go_enter func29,ntmps29;go_wp2_with fail
  refine c.mono ?_;rintro e w1 ⟨rfl,hS⟩;have c3:=c2 w1 hS;clear c c2;go_wp2_with fail
  refine c3.mono ?_;rintro e w2 ⟨A',rfl,hR,hT⟩;go_wp2_with fail
  go_ret;exact⟨A',rfl,hR,(hS.pS _ _).trans hT⟩
end
def uD(w:af){ops:Array Oper}{rest:List Oper}{o:Oper}{a:Act}{Q:Exit->Act->af->Prop}(hg:o.guard=F)(it:aD)(hop:o.op=Op.next it E)(k:az)(K:Keyed P k)(hk:P.underlying k=Y (.int .i64))
 (b r n:Nat) (D:DataW aj) (f:Lit->Option aj) (hs:Says D f) (g:Int->Nat) (p:Int->Prop) (hf:∀x u,f (.int .i64 x)=Y u->u=.pointer (Y ⟨g x,0,F⟩)/\p x) (left:Lit->Bool) (cnt:Nat)
 (hit:a.eval it=.pointer (Y ⟨r,0,F⟩)) (h:w.ranges P k aY b r n D left cnt)
 (hDone:(∀kl,left kl=E)->wpList P ops Q rest (a.put o.dst (.tuple #[.bool E])) w)
 (hMore:∀(x:Int) (w':af) (cnt':Nat),p x->left (.int .i64 x)=Z6->w'.ranges P k aY b r n D (λz=>left z && !z.sameKey (.int .i64 x)) cnt'->cnt'<cnt->w.grownBy w' (Y r)->w'.heap.size=w.heap.size->
   (Instr.entry (.pointer (Y ⟨r,0,F⟩))).run P w'=.ok (.tuple #[.int .i64 x,.pointer (Y ⟨g x,0,F⟩)]) w'->wpList P ops Q rest (a.put o.dst (.tuple #[.bool Z6,.int .i64 x,.pointer (Y ⟨g x,0,F⟩)])) w'):
 wpList P ops Q (o :: rest) a w:=by
 refine wpList_plain hg λK' hK'=>?_;unfold Oper.wp;rcases h.next K o.type with⟨h0,hl,hrun⟩|⟨key,v,kl,y,w',cnt',hkey,hlk,hv,hat,hrun,m6,hlt,VU,hsz,tI⟩
 ·simp[execOp,hop,hit,hrun,Result.andThen];exact hK' _ _ (hDone hl)
 ·obtain⟨x,rfl,rfl,_⟩:=Maps.keyOf_int_inv hk hkey;simp only[aY,Option.some.injEq]at hv;subst hv;have hh:=Maps.has_true_of_atKey hat;rw[hs.2]at hh;obtain⟨u,hu⟩:=Option.isSome_iff_exists.1 hh;have e1:=(hs.1 _ u hu .nil).symm.trans (hat .nil);injection e1 with e1;subst e1;obtain⟨rfl,hp⟩:=hf x _ hu;simp[execOp,hop,hit,hrun,Result.andThen];exact hK' _ _ (hMore x w' cnt' hp hlk m6 hlt VU hsz tI)
def jC(s:MS)(m:MW)(at_:Int):Bool:=(ab8 s.parts).any (λq=>aK s.parts m.items q &&(bO m q == at_))
def mO{c:Int}{q:Nat}(hq:q<s.parts)(ho:aK s.parts m.items q=Z6)(h:bO m q=c):jC s m c=Z6:=by simp only[jC,ai3,at7];exact⟨q,hq,by simp[ho,h]⟩
def lK{c:Int}(h:∀q,q<s.parts->aK s.parts m.items q=Z6->bO m q≠c):jC s m c=E:=by
 simp only[jC,List.any_eq_false,at7];intro q hq;cases ho:aK s.parts m.items q
 ·simp
 ·simpa using h q hq ho
section
variable {w:af}{τ:Nat->Tag}{aJ b:Nat}{s:MS}{A:SA}
def Cb(i:Nat)(m:MW)(c:Int)(hp1:1<=s.parts)(c4:w.cell? ⟨A.pw i,5,F⟩=Y (.map (Y (A.sm i))))(hM:aS w prog 3 (A.sm i) (bV s A i m))
 (hS:∀q:Nat,q<s.parts->aK s.parts m.items q=Z6->w.cell? ⟨A.sh i q,1,F⟩=Y (.int .i64 (bO m q))):
 Calls prog 89 #[ptr (A.pw i),.int .i64 c] w λe w'=>e=.returned (.bool (jC s m c))/\Below w.heap.size w w':=by
 obtain⟨n,D,hown,hs⟩:=hM;have hf:∀x u,bV s A i m (.int .i64 x)=Y u->u=.pointer (Y ⟨A.sh i x.toNat,0,F⟩)/\(0<=x/\x<s.parts/\aK s.parts m.items x=Z6):=by
  intro x u hu;simp only[bV]at hu;split at hu
  ·rename_i ho;cases hu;exact⟨rfl,(dh I ho).1,(dh I ho).2,ho⟩
  ·cases hu
 have h0:∀q:Nat,q<s.parts->aK s.parts m.items q=Z6->Maps.has D (.int .i64 q)=Z6:=by intro q hq ho;rw[hs.2];simp[bV,ho]
 unfold ptr;go_enter func89,ntmps89;go_wp2_with (at_range;refine wpList_range_own _ rfl _ 162 rfl 3 168 eV underlying162 aY (A.sm i) n D rfl hown ?_;intro w0 C7 EA hs0)
 go_frame
 go_loopw [6] (λ_ wr=>∃left cnt,wr.ranges prog 3 aY (A.sm i) w.heap.size n D left cnt/\Below w.heap.size w wr/\w.heap.size<wr.heap.size/\Hid (∀q:Nat,q<s.parts->aK s.parts m.items q=Z6->left (.int .i64 q)=Z6\/bO m q≠c)) (λ_ wr=>wr.rangeLeft (A.sm i) w.heap.size)
 case atStart=>
  exact⟨_,_,C7,(ag2 _ _).grown EA (zaf _) (λk e=>by cases e),I,λq hq ho=>an0 (h0 q hq ho)⟩
 case round=>
  obtain⟨left,cnt,m6,hB,hsz,HL⟩:=hrel;go_wp2_with (at_next;refine uD _ rfl _ rfl 3 eV underlying3 (A.sm i) w.heap.size n D (bV s A i m) hs (λx=>A.sh i x.toNat) _ hf left cnt rfl m6 ?_ ?_)
  ·intro hl0;have Hr:Hid (jC s m c=E):=lK (λq hq ho=>by
    rcases HL.out q hq ho with e|e
    ·rw[hl0]at e;cases e
    ·exact e)
   clear hl0;go_wp2_with fail
   go_ret;exact⟨cJ Hr.out.symm,hB⟩
  ·intro x w1 Qp hx0 hx1 IA L3 C8 hlt l5 hs1 tI;obtain⟨q,rfl⟩:=zal hx0;simp only[au1]at tI⊢;have hq:q<s.parts:=I
   have mg:Below w.heap.size w w1:=hB.grown l5 I (λk e=>by cases e;exact zaf _);have cq:=hS q hq IA;have cq1:w1.cell? ⟨A.sh i q,1,F⟩=Y (.int .i64 (bO m q)):=(mg.cell (p:=⟨A.sh i q,1,F⟩) (zai w _ cq)).trans cq;have vD:w.heap.size<w1.heap.size:=I
   clear cq L3;by_cases he:bO m q=c
   ·have Hr:Hid (jC s m c=Z6):=mO hq IA he;have heb:(bO m q == c)=Z6:=beq_iff_eq.2 he;clear he IA;go_wp2_with fail
    go_ret;exact⟨cJ Hr.out.symm,mg⟩
   ·have HL':Hid (∀q':Nat,q'<s.parts->aK s.parts m.items q'=Z6->(left (.int .i64 q')&& !(Lit.int .i64 q').sameKey (.int .i64 q))=Z6\/bO m q'≠c):=by
     intro q' fX ho';by_cases e:q'=q
     ·subst e;exact ak9 he
     ·rcases HL.out q' fX ho' with e1|e1
      ·refine an0 ?_;rw[e1,Maps.sameKey_ne (by intro e2;injection e2 with _ e2;omega)];rfl
      ·exact ak9 e1
    have heb:(bO m q == c)=E:=beq_eq_false_iff_ne.2 he;clear he IA;go_wp2_with fail
    go_roundw
    case rel=>exact⟨_,_,C8,mg,vD,HL'⟩
    case measure=>rw[C8.left_eq,m6.left_eq];omega
end
structure Fr(M:Nat->Prop)(w w':af):Prop where
 os:w'.os=w.os
 tape:w'.tape=w.tape
 output:w'.output=w.output
 size:w.heap.size<=w'.heap.size
 block:∀k,k<w.heap.size->¬M k->w'.heap[k]?=w.heap[k]?
def Fr.refl(M:Nat->Prop)(w:af):Fr M w w:=⟨rfl,rfl,rfl,zaf _,λ_ _ _=>rfl⟩
def Fr.trans{M:Nat->Prop}{a b c:af}(h:Fr M a b)(g:Fr M b c):Fr M a c:=
 ⟨g.os.trans h.os,g.tape.trans h.tape,g.output.trans h.output,Nat.le_trans h.size g.size,λk hk hm=>(g.block k (Nat.lt_of_lt_of_le hk h.size) hm).trans (h.block k hk hm)⟩
def Fr.drew{M:Nat->Prop}{a b:af}(h:Fr M a b):Fr M a b.drew:=⟨h.os,h.tape,h.output,h.size,h.block⟩
def Fr.alloc{M:Nat->Prop}{a b:af}(h:Fr M a b)(o:Obj):Fr M a (b.alloc o):=
 h.trans ⟨rfl,rfl,rfl,XI,λk hk _=>zae _ _ _ hk⟩
def Fr.setCell{M:Nat->Prop}{a b:af}(h:Fr M a b){p:aA}(hp:M p.block)(v:aj):Fr M a (b.setCell p v):=
 h.trans ⟨rfl,rfl,rfl,by simp[ab1],λk _ hm=>zad _ _ _ _ (λe=>hm (by rw[e];exact hp))⟩
def Fr.Q5{b:af}(h:rO a b k)(hk:M k):Fr M a b:=⟨h.os,h.tape,h.output,Nat.le_of_eq h.size.symm,λi _ hm=>h.block i (λe=>hm (by rw[e];exact hk))⟩
def Fr.dg{b:af}(h:Below a.heap.size a b):Fr M a b:=⟨h.os,h.tape,h.output,h.size,λk hk _=>h.block k hk⟩
def Fr.of_same{b:af}(h:vF a b):Fr M a b:=⟨h.os,h.tape,h.output,by rw[h.heap];exact zaf _,λk _ _=>by rw[h.heap]⟩
def Fr.blk{b:af}(h:Fr M a b){t:az}(hb:aT a k c t)(hm:¬M k):aT b k c t:=hb.of_eq (h.block k hb.lt hm)
def Fr.map{b:af}(h:Fr M a b){t:az}(hb:aS a P t k f)(hm:¬M k):aS b P t k f:=hb.of_eq (h.block k hb.lt hm)
def qv(v:List UInt8->Nat):Lit->Option aj
 |.string l=>if v l=0 then F else Y (.int .i64 (v l))
 |_=>F
def Dn(A:SA)(q:Nat):Dj A q=qv (A.vis q):=by funext kl;cases kl<;>rfl
def dD(v:List UInt8->Nat)(n:Nat)(L:List KV):List UInt8->Nat:=λl=>if L.any (λx=>decide (x.1.data.toList=l))then max (v l) n else v l
def FR(v:List UInt8->Nat)(n:Nat)(hn:0<n)(L:List KV)(x:KV):qv (dD v n (L++ [x]))=upd (qv (dD v n L)) (.string x.1.data.toList) (.int .i64 (max (dD v n L x.1.data.toList) n:Nat)):=by
 funext kl;by_cases e:kl=.string x.1.data.toList
 ·subst e;rw[upd_same Z5];simp only[qv,dD,List.any_append,List.any_cons,decide_true,Bool.or_true,List.any_nil,ba0,if_true];cases L.any (λy=>decide (y.1.data.toList=x.1.data.toList)) <;>simp<;>omega
 ·rw[fS e];cases kl with
  |string l=>
   have:x.1.data.toList≠l:=λe'=>e (by rw[e']);have h1:dD v n (L++ [x]) l=dD v n L l:=by unfold dD;rw[List.any_append,List.any_cons,List.any_nil,decide_eq_false this,bd5,ba0]
   simp only[qv,h1]
  |_=>rfl
def Jf(v:List UInt8->Nat)(n:Nat):dD v n []=v:=by funext l;simp[dD]
def MU{n:Nat}(hv:∀l,v l<=200)(hn:n<=200)(L:List KV)(l:List UInt8):dD v n L l<=200:=by unfold dD;have:=hv l;split<;>omega
def FT{n:Nat}{SL:List Lit}(hSL:∀l,v l≠0->ap8 l∈SL)(K:List KV)(hK:∀x∈K,x∈L):
 ∀kl,qv (dD v n K) kl≠F->kl∈SL++L.map (λx=>ap8 x.1.data.toList):=by
 intro kl h;cases kl with
 |string l=>
  rw[List.mem_append];by_cases hk:K.any (λx=>decide (x.1.data.toList=l))=Z6
  ·rw[ai3]at hk;obtain⟨x,hx,e⟩:=hk;exact ak9 (List.mem_map.2 ⟨x,hK x hx,by rw[of_decide_eq_true e]⟩)
  ·refine an0 (hSL l (λe0=>h ?_));simp only[qv,dD,hk,e0];rfl
 |_=>exact absurd rfl h
def MV(u:List UInt8->Nat)(l:List UInt8):(qv u (.string l)).getD (.int .i64 0)=.int .i64 (u l):=by
 simp only[qv];by_cases h:u l=0
 ·simp[h]
 ·simp[h]
section
variable {w:af}
def UQ(pb kb vb:Nat)(f:Lit->Option aj)(v:List UInt8->Nat)(n:Nat)(iv sv:aj)(L:List KV)(SL:List Lit)(hb:aT w pb #[fH,gy,.map (Y kb),.map (Y vb)] 202)(hM:aS w prog 3 kb f)(hf:f (.int .i64 n)=Y (.agg #[iv,sv]))
 (hV:aS w prog 9 vb (qv v)) (hO:w.ownsRow 0 70 2 iv L.length (bl L)) (hL0:0<L.length) (hL8:L.length<=8) (hLg:∀x∈L,eD x=Z6) (hn0:0<n) (hn:n<=200) (hv:∀l,v l<=200)
 (hSL:∀l,v l≠0->ap8 l∈SL) (hSn:SL.length<=2000):
 Calls prog 90 #[ptr pb,.int .i64 n] w λe w'=>e=.returned (.tuple #[])/\aS w' prog 9 vb (qv (dD v n L))/\Fr (λk=>k=vb) w w':=by
 have c0:w.cell? ⟨pb,0,F⟩=Y (.int .i32 0):=hb.cell (o:=0) rfl;have f0:=hb.frozen 0;have hne:=dB hb hM;have ZQ:=dB hb hV;have jd:=hb.set 0 (.int .i32 1);obtain⟨g,cap,hiv,_,hcap,hcell,_⟩:=aZ hO hL0;subst hiv;have hfi:=zF (.slice (Y ⟨g,0,F⟩) L.length cap) sv;have ZG:g<w.heap.size:=(aQ hO g rfl).2;have hgp:g≠pb:=by
  rintro rfl;obtain⟨_,h2⟩:=hO;rcases h2 with⟨e,_⟩|⟨g',cap',cur,e,_,hg,_⟩
  ·cases e
  ·cases e;have h3:w.heap[g]?=Y (.cells _ 202 (0,0)):=hb;rw[h3]at hg;cases hg
 have pz:aS (w.setCell ⟨pb,0,F⟩ (.int .i32 1)) prog 3 kb f:=hM.of_eq (zad _ _ _ _ (λe=>hne e.symm));have hV1:aS (w.setCell ⟨pb,0,F⟩ (.int .i32 1)) prog 9 vb (qv v):=hV.of_eq (zad _ _ _ _ (λe=>ZQ e.symm));have sP:∀j,j<L.length*2->(w.setCell ⟨pb,0,F⟩ (.int .i32 1)).cell? ⟨g,j,F⟩=(bl L)[j]? :=λj hj=>(zah (w:=w) (zad _ _ _ _ hgp)).trans (hcell j hj);have vD:(w.setCell ⟨pb,0,F⟩ (.int .i32 1)).heap.size=w.heap.size:=by simp[ab1]
 have hgv:g≠vb:=by
  rintro rfl;obtain⟨_,h2⟩:=hO;rcases h2 with⟨e,_⟩|⟨g',cap',cur,e,_,hg,_⟩
  ·cases e
  ·cases e;obtain⟨n,D,⟨es,clock,hb',_⟩,_⟩:=hV;rw[hg]at hb';cases hb'
 generalize hw1:w.setCell ⟨pb,0,F⟩ (.int .i32 1)=w1 at *;have d2:w1.cell? ⟨pb,2,F⟩=Y (.map (Y kb)):=jd.cell (o:=2) rfl;unfold ptr;go_enter_defers func90,ntmps90;go_wp2_with fail
 refine(ak6 Tryz.bD ⟨pb,0,F⟩ _ c0 f0).mono ?_;rintro e w' ⟨rfl,rfl⟩;rw[hw1];go_wp2_with (at_lookup;refine ox _ rfl _ _ 199 rfl 3 214 eV underlying199 (nD _) kb f rfl pz _ (.int .i64 n) rfl (ap1 I I) _ hf ?_)
 go_loopw [21] (λu wr=>∃k:Nat,k<=L.length/\u=.int .i64 k/\Fr (λk=>k=vb) w1 wr/\aS wr prog 9 vb (qv (dD v n (L.take k)))) (λu _=>L.length-(intOf u).toNat)
 case atStart=>exact⟨0,zaj _,rfl,Fr.refl _ _,by rw[List.take_zero,Jf];exact hV1⟩
 case round=>
  obtain⟨k,hk,rfl,hF,hVk⟩:=hrel;by_cases hlt:k<L.length
  ·have hx:L[k]?=Y L[k]:=zag hlt;obtain⟨e1,e2⟩:=oy L k _ hx;have ck:=sP (k*2) I;have cv:=sP (k*2+1) I;rw[e1]at ck;rw[e2]at cv;have S4:wr.cell? ⟨g,k*2,F⟩=Y (.string L[k].1):=(zah (w:=w1) (hF.block g I hgv)).trans ck;have ZR:wr.cell? ⟨g,k*2+1,F⟩=Y (.string L[k].2):=(zah (w:=w1) (hF.block g I hgv)).trans cv;have hbr:=hF.blk jd ZQ;have d3:wr.cell? ⟨pb,3,F⟩=Y (.map (Y vb)):=hbr.cell (o:=3) rfl;have hpl:pb<wr.heap.size:=hbr.lt;have zv:=gl (hLg _ (zam hlt));have HT:Hid (L.take (k+1)=L.take k++ [L[k]]):=aj9 hlt;generalize L[k]=x at *;obtain⟨kk,vv⟩:=x;simp only at S4 ZR zv;clear ck cv e1 e2 hx sP hcell;go_wp2_with fail
   have hVW:aS (wr.alloc (.cells #[.string kk,.string vv] 70)) prog 9 vb (qv (dD v n (L.take k))):=hVk.of_eq (zae _ _ _ hVk.lt);have cI:(wr.alloc (.cells #[.string kk,.string vv] 70)).cell? ⟨wr.heap.size,0,F⟩=Y (.string kk):=(aT.new wr _ _).cell (o:=0) rfl;have d3W:(wr.alloc (.cells #[.string kk,.string vv] 70)).cell? ⟨pb,3,F⟩=Y (.map (Y vb)):=(zah (w:=wr) (zae _ _ _ hpl)).trans d3;have hFW:Fr (λk=>k=vb) w1 (wr.alloc (.cells #[.string kk,.string vv] 70)):=hF.alloc _;generalize wr.alloc (.cells #[.string kk,.string vv] 70)=W at *;have hu:=MU hv hn (L.take k) kk.data.toList;have hwv:wr.heap.size≠vb:=by have:=hVk.lt;omega
   have hSu:∀kl,qv (dD v n (L.take k)) kl≠F->kl∈SL++L.map (λx=>ap8 x.1.data.toList):=FT hSL (L.take k) (λx hx=>List.mem_of_mem_take hx);have hlk:(Instr.lookup 200 (.map (Y vb)) (.string kk) E).run prog W.drew=.ok (.int .i64 (dD v n (L.take k) kk.data.toList)) W.drew:=by have:=aS.look (w:=W.drew) (e:=3) hVW gx underlying200 (Dk _) (fQ (s:=kk) (by unfold ae0;omega));rw[MV]at this;exact this
   obtain⟨W2,hup,xL,rE⟩:=aS.store (w:=W.drew) (e:=3) hVW gx underlying200 _ hSu (by simp;unfold ae0;omega) (fQ (s:=kk) (by unfold ae0;omega)) (.int .i64 (max (dD v n (L.take k) kk.data.toList) n:Nat));have HM2:=xL;rw[<-FR v n hn0 (L.take k) (kk,vv),<-HT.out]at HM2;generalize dD v n (L.take k) kk.data.toList=u at *;clear xL hSu hVW;have acQ:Fr (λk=>k=vb) w1 W2:=hFW.drew.trans (Fr.Q5 (M:=λk=>k=vb) (rO.fU rE) rfl);by_cases hun:n<=u
   ·have hgt:¬(u:Int)<n:=I
    rw[show (max u n:Nat)=u from by omega]at hup;have c1:=rO.fU rE;have q1:W2.cell? ⟨wr.heap.size,0,F⟩=Y (.string kk):=(zah (w:=W.drew) (c1.block _ hwv)).trans cI;have q2:W2.cell? ⟨pb,3,F⟩=Y (.map (Y vb)):=(zah (w:=W.drew) (c1.block _ ZQ)).trans d3W;go_region_held3 (λW'=>W'.cell? ⟨wr.heap.size,0,F⟩=Y (.string kk)/\W'.cell? ⟨pb,3,F⟩=Y (.map (Y vb))) (simp[*]) (fail)
    go_wp2_with fail
    go_roundw
    case rel=>exact⟨k+1,I,by go_num,acQ,HM2⟩
    case measure=>simp[intOf];omega
   ·have hgt:(u:Int)<n:=I
    rw[show (max u n:Nat)=n from by omega]at hup;have c1:=rO.fU rE;have q1:W2.cell? ⟨wr.heap.size,0,F⟩=Y (.string kk):=(zah (w:=W.drew) (c1.block _ hwv)).trans cI;have q2:W2.cell? ⟨pb,3,F⟩=Y (.map (Y vb)):=(zah (w:=W.drew) (c1.block _ ZQ)).trans d3W;go_region_held3 (λW'=>W'.cell? ⟨wr.heap.size,0,F⟩=Y (.string kk)/\W'.cell? ⟨pb,3,F⟩=Y (.map (Y vb))) (simp[*]) (fail)
    go_wp2_with fail
    go_roundw
    case rel=>exact⟨k+1,I,by go_num,acQ,HM2⟩
    case measure=>simp[intOf];omega
  ·have AO:k=L.length:=I
   rw[AO,an6]at hVk;have hbr:=hF.blk jd ZQ;clear sP hcell AO;go_wp2_with fail
   refine ai2 (f:=38) (args:=#[.pointer (Y ⟨pb,0,F⟩)]) XI YU ?_;refine(af1 Tryz.bD ⟨pb,0,F⟩ .returning _ (hbr.cell (o:=0) rfl) (hbr.frozen 0)).mono ?_;rintro e u' w'' ⟨rfl,rfl,rfl⟩;refine⟨_,be2 rfl _ _ _,rfl,hVk.of_eq (zad _ _ _ _ (λe=>ZQ e.symm)),⟨hF.os.trans (by rw[<-hw1];rfl),hF.tape.trans (by rw[<-hw1];rfl),hF.output.trans (by rw[<-hw1];rfl),?_,λk hk hm=>?_⟩⟩
   ·have:=hF.size;simp[ab1];omega
   ·exact fE hb rfl (v:=.int .i32 1) (p:=λk=>k<w.heap.size/\¬k=vb) (λk hk=>by rw[hw1];exact hF.block k I hk.2) k ⟨hk,hm⟩
end
def oC(ws:List MW):List Lit:=ws.flatMap (λm=>m.items.map (λx=>ap8 x.1.data.toList))
def FU(ws:List MW)(h:∀m∈ws,m.items.length<=8):(oC ws).length<=8*ws.length:=by
 induction ws with
 |nil=>simp[oC]
 |cons m r ih=>
  have h1:=h m (List.mem_cons_self ..);have h2:=ih (λm' hm'=>h m' (List.mem_cons_of_mem _ hm'));have e:oC (m :: r)=m.items.map (λx=>ap8 x.1.data.toList)++oC r:=rfl;rw[e,ao4,List.length_map,List.length_cons];omega
def FV{ws:List MW}{x:KV}(hm:ws[i]?=Y m)(hx:x∈m.items):ap8 x.1.data.toList∈oC ws:=
 List.mem_flatMap.2 ⟨m,List.mem_of_getElem? hm,List.mem_map.2 ⟨x,hx,rfl⟩⟩
def mz{q:Int}{x:KV}:x∈bp n l q↔x∈l/\partOf n x.1=q:=by simp[bp]
def qh{q:Int}(h:aK n l q=Z6):0< (bp n l q).length:=by simp only[aK,ai3,decide_eq_true_eq]at h;obtain⟨x,hx,e⟩:=h;exact List.length_pos_of_mem (mz.2 ⟨hx,e⟩)
def oz(n:Int)(l:List KV)(q:Int):(bp n l q).length<=l.length:=List.length_filter_le _ _
section
variable {w:af}{τ:Nat->Tag}{aJ b:Nat}{s:MS}{A:SA}
def bB.Q0(h:bB w τ aJ b s A){q:Nat}(hq:q<s.parts)(l:List UInt8):A.vis q l<=200:=by
 by_cases e:A.vis q l=0
 ·omega
 ·obtain⟨m,hm,_⟩:=(h.mh q hq).seen l e;have:=aH hm;have:=h.ok.len;omega
def bB.Q6(h:bB w τ aJ b s A){q:Nat}(hq:q<s.parts):∀l,A.vis q l≠0->ap8 l∈oC s.ws:=by intro l e;obtain⟨m,hm,_,x,hx,e1,_⟩:=(h.mh q hq).seen l e;rw[<-e1];exact FV hm hx
def Bd(h:bB w τ aJ b s A)(hm:s.ws[i]?=Y m):jC s m 0= !cH s.parts m:=by
 cases ha:cH s.parts m with
 |true=>
  refine lK (λq hq ho e=>?_);simp only[cH,aq2,at7]at ha;have:=ha q hq;simp only[ho,ay1,bd5]at this;unfold bO at e;rw[this]at e;cases tY:m.comm q<;>rw[tY]at e<;>simp at e
 |false=>
  simp only[cH,List.all_eq_false,at7]at ha;obtain⟨q,hq,e⟩:=ha;cases ho:aK s.parts m.items q
  ·simp[ho]at e
  ·simp[ho]at e;refine mO hq ho ?_;unfold bO;rw[e];cases tY:m.comm q
   ·rfl
   ·rw[h.inv.cp i m q hm tY]at e;cases e
def Jg(hm:s.ws[i]?=Y m)(hc:m.dF=E)(f:Nat->Bool)(q:Nat):bP (setAt s i {m with comm:=f}) A q=bP s A q:=by
 funext kl;cases kl with
 |int k n=>
  cases k<;>try rfl
  simp only[bP];by_cases e:n=(i:Int)+1
  ·rw[e,lI (m:={m with comm:=f}) (aH hm) hc,lG hm hc]
  ·rw[gH e]
 |_=>rfl
def bB.comm(h:bB w τ aJ b s A){i:Nat}{m:MW}(hm:s.ws[i]?=Y m)(hc:m.dF=E){q:Nat}(ho:aK s.parts m.items q=Z6)(hp:m.cC q=Z6)(hnc:m.comm q=E){w':af}
 (hsame:∀k,k<w.heap.size->k≠A.vb q->k≠A.sh i q->w'.heap[k]?=w.heap[k]?)
 (hv:aS w' prog 9 (A.vb q) (qv (dD (A.vis q) (i+1) (bp s.parts m.items q))))
 (hs:aT w' (A.sh i q) #[ptr (A.pb q),.int .i64 2,lJ] 174):
 bB w' τ aJ b (setAt s i {m with comm:=put m.comm q}) {A with vis:=λq'=>if q'=q then dD (A.vis q) (i+1) (bp s.parts m.items q)else A.vis q'}:=by
 have hp1:=h.ok.p1;have hq:q<s.parts:=by have:=(dh I ho).2;omega
 have hvn:∀q',q'<s.parts->q'≠q->A.vb q'≠A.vb q:=λq' fX hne e=>by have h1:=h.fK q' fX;rw[e,h.fK q hq]at h1;simp at h1;omega
 have hvs:∀q',q'<s.parts->A.vb q'≠A.sh i q:=λq' fX e=>by have h1:=h.fK q' fX;rw[e,h.cU i m q hm hc ho]at h1;simp at h1
 have hkv:∀q',q'<s.parts->A.kb q'≠A.vb q/\A.kb q'≠A.sh i q:=λq' fX=>⟨λe=>by
  have h1:=h.cQ q' fX;rw[e,h.fK q hq]at h1;simp at h1,λe=>by have h1:=h.cQ q' fX;rw[e,h.cU i m q hm hc ho]at h1;simp at h1⟩
 refine h.om (m':={m with comm:=put m.comm q}) hm hc rfl hc (λq' fX=>by show put m.comm q q'=Z6;simp only[put,fX];split<;>rfl) (λq' fX=>?_) (λq' fX=>h.inv.po i m q' hm fX) (λk wN hne=>?_) (λq' fX=>?_) (λq' fX=>?_) (λq' fX=>?_) (λq' ho'=>?_)
 ·have E6:put m.comm q q'=Z6:=fX;unfold put at E6;split at E6
  ·rename_i e;rw[e];exact hp
  ·exact h.inv.cp i m q' hm E6
 ·exact hsame k wN (hne q hq).2.1 ((hne q hq).2.2 ho)
 ·rw[Jg hm hc];exact(h.kept q' fX).of_eq (hsame _ (h.kept q' fX).lt (hkv q' fX).1 (hkv q' fX).2)
 ·rw[Dn];by_cases e:q'=q
  ·subst e;simpa using hv
  ·simp only[e,if_false];have:=(h.uA q' fX).of_eq (hsame _ (h.uA q' fX).lt (hvn q' fX e) (hvs q' fX));rwa [Dn]at this
 ·by_cases e:q'=q
  ·subst e;simp only[if_true];refine⟨λl hl=>?_,λj mj x hj eJ hx hpx=>?_⟩
   ·by_cases hin:(bp s.parts m.items q').any (λx=>decide (x.1.data.toList=l))=Z6
    ·have ev:dD (A.vis q') (i+1) (bp s.parts m.items q') l=max (A.vis q' l) (i+1):=by unfold dD;rw[if_pos hin]
     rw[ev];by_cases hge:i+1<A.vis q' l
     ·rw[show max (A.vis q' l) (i+1)=A.vis q' l from by omega];obtain⟨m0,hm0,hc0,r⟩:=(h.mh q' hq).seen l I;refine⟨m0,?_,hc0,r⟩;show (s.ws.set i _)[A.vis q' l-1]?=Y m0;rw[ao3 I];exact hm0
     ·rw[show max (A.vis q' l) (i+1)=i+1 from by omega];rw[ai3]at hin;obtain⟨x,hx,ex⟩:=hin;obtain⟨hx1,Pv⟩:=mz.1 hx;exact⟨{m with comm:=put m.comm q'},by simp[setAt,aH hm],by simp[put],x,hx1,of_decide_eq_true ex,Pv⟩
    ·have ev:dD (A.vis q') (i+1) (bp s.parts m.items q') l=A.vis q' l:=by unfold dD;rw[if_neg hin]
     rw[ev]at hl⊢;obtain⟨m0,hm0,hc0,r⟩:=(h.mh q' hq).seen l hl;by_cases e:A.vis q' l-1=i
     ·rw[e,hm]at hm0;cases hm0;rw[hnc]at hc0;cases hc0
     ·refine⟨m0,?_,hc0,r⟩;show (s.ws.set i _)[A.vis q' l-1]?=Y m0;rw[ao3 (λe'=>e e'.symm)];exact hm0
   ·rcases j4 hj with⟨rfl,rfl⟩|⟨_,hj'⟩
    ·have hin:(bp s.parts m.items q').any (λy=>decide (y.1.data.toList=x.1.data.toList))=Z6:=
      List.any_eq_true.2 ⟨x,mz.2 ⟨hx,hpx⟩,XI⟩
     unfold dD;rw[if_pos hin];omega
    ·have:=(h.mh q' hq).top j mj x hj' eJ hx hpx;unfold dD;split<;>omega
  ·simp only[e,if_false];refine oB (h.mh q' fX) rfl (λj mj hj eJ=>?_) (λj mj hj eJ=>?_)
   ·by_cases e2:i=j
    ·subst e2;rw[hm]at hj;cases hj;exact⟨{m with comm:=put m.comm q},by simp[setAt,aH hm],by simp[put,e,eJ],rfl⟩
    ·exact⟨mj,by simp[setAt,e2,hj],eJ,rfl⟩
   ·rcases j4 hj with⟨rfl,rfl⟩|⟨_,hj'⟩
    ·exact⟨m,hm,by simpa[put,e]using eJ,rfl⟩
    ·exact⟨mj,hj',eJ,rfl⟩
 ·by_cases e:q'=q
  ·subst e;simpa[bO,put,hp]using hs
  ·have hb:=h.sh i m q' hm hc ho';have:aT w' (A.sh i q') _ _:=hb.of_eq (hsame _ hb.lt (λe'=>by
    have h1:=h.cU i m q' hm hc ho';rw[e',h.fK q hq]at h1;simp at h1) (λe'=>by have h1:=h.cU i m q' hm hc ho';rw[e',h.cU i m q hm hc ho]at h1;simp at h1;omega))
   simpa[bO,put,e]using this
def Jh(h:bB w τ aJ b s A)(n:Int)(m:MW)(hf:bL s n=Y m)(p:Int)(hp: -9223372036854775808<=p)(rz:p<=9223372036854775807):
 Calls prog 52 #[ptr (A.pw (n-1).toNat),.int .i64 p] w (nh w τ aJ b (bN s n p)):=by
 obtain⟨h1,h2,hm,hc⟩:=fy hf;have hlen:=h.ok.len;have hp1:=h.ok.p1;have IV:=h.ok.p4;obtain⟨i,hi⟩:∃i:Nat,n=(i:Int)+1:=⟨(n-1).toNat,I⟩
 subst hi;rw[show ((i:Int)+1-1).toNat=i from by omega]at hm⊢;have hW:=h.wr i m hm hc;have c0:w.cell? ⟨A.pw i,0,F⟩=Y (.int .i32 0):=hW.cell (o:=0) rfl;have f0:=hW.frozen 0;have eX:=gB hW (o:=0) rfl (.int .i32 1);have MT:A.sm i≠A.pw i:=λe=>by have h1:=h.jB i m hm hc;rw[e,h.cM i m hm hc]at h1;simp at h1
 have mq:=hW.set 0 (.int .i32 1);have hWb:=hW;have dY:∀k,k≠A.pw i->(w.setCell ⟨A.pw i,0,F⟩ (.int .i32 1)).heap[k]?=w.heap[k]? :=λk hk=>zad _ _ _ _ hk;have vD:(w.setCell ⟨A.pw i,0,F⟩ (.int .i32 1)).heap.size=w.heap.size:=by simp[ab1]
 have hos:(w.setCell ⟨A.pw i,0,F⟩ (.int .i32 1)).os=w.os/\(w.setCell ⟨A.pw i,0,F⟩ (.int .i32 1)).tape=w.tape/\(w.setCell ⟨A.pw i,0,F⟩ (.int .i32 1)).output=w.output:=⟨rfl,rfl,rfl⟩
 have hun:∀(w3:af) (p:Nat->Prop),(∀k,p k->w3.heap[k]?=(w.setCell ⟨A.pw i,0,F⟩ (.int .i32 1)).heap[k]?)->∀k,p k->(w3.setCell ⟨A.pw i,0,F⟩ fH).heap[k]?=w.heap[k]? :=λw3 p hp k hk=>fE hWb rfl hp k hk;generalize hw1:w.setCell ⟨A.pw i,0,F⟩ (.int .i32 1)=w1 at *;have d3:w1.cell? ⟨A.pw i,4,F⟩=Y (.bool E):=mq.cell (o:=4) rfl;have d4:w1.cell? ⟨A.pw i,5,F⟩=Y (.map (Y (A.sm i))):=mq.cell (o:=5) rfl;have pz:aS w1 prog 3 (A.sm i) (bV s A i m):=(h.QK i m hm hc).of_eq (dY _ MT);have cs:=wY (s:=s) (A:=A) (A.pw i) (A.sm i) i m p _ hp rz d3 d4 pz;have rQ:∀q:Nat,aK s.parts m.items q=Z6->A.sh i q≠A.pw i:=λq ho e=>by have h1:=h.cU i m q hm hc ho;rw[e,h.cM i m hm hc]at h1;simp at h1
 have tN:∀q:Nat,aK s.parts m.items q=Z6->aT w1 (A.sh i q) #[ptr (A.pb q),.int .i64 (bO m q),if m.cC q then lJ else A.iv i q] 174:=λq ho=>(h.sh i m q hm hc ho).of_eq (dY _ (rQ q ho));have ca:=Cb (s:=s) (A:=A) i m 0 hp1 d4 pz (λq _ ho=>(tN q ho).cell (o:=1) rfl);rw[Bd h hm]at ca;cases ho:aK s.parts m.items p with
 |false=>
  have Hr:Hid (bN s ((i:Int)+1) p=(8,s)):=by unfold Hid bN;rw[hf];simp[ho]
  have hv:fC s A i m p=(.pointer F,8):=by unfold fC;rw[ho];rfl
  rw[hv]at cs;unfold ptr at cs⊢;unfold fH at eX;clear ho hv hf ca tN hun;go_enter_defers func52,ntmps52;go_wp2_with fail
  refine(ak6 Tryz.bD ⟨A.pw i,0,F⟩ _ c0 f0).mono ?_;rintro e w' ⟨rfl,rfl⟩;rw[hw1];go_wp2_with fail
  refine cs.mono ?_;rintro e w' ⟨rfl,rfl⟩;go_wp2_with fail
  refine ai2 (f:=38) (args:=#[.pointer (Y ⟨A.pw i,0,F⟩)]) XI YU ?_;refine(af1 Tryz.bD ⟨A.pw i,0,F⟩ .returning _ (mq.cell (o:=0) rfl) (mq.frozen 0)).mono ?_;rintro e u' w'' ⟨rfl,rfl,rfl⟩;rw[Hr.out];exact⟨_,ak7 rfl _ _ _,A,rfl,h.same eX,eX.pS _ _⟩
 |true=>
  obtain⟨hb0,jd⟩:=dh I ho;obtain⟨q,rfl⟩:=zal hb0;have hq:q<s.parts:=I
  have hv:fC s A i m q=(.pointer (Y ⟨A.sh i q,0,F⟩),0):=by unfold fC;rw[ho];rfl
  rw[hv]at cs;cases hap:cH s.parts m with
  |false=>
   have Hr:Hid (bN s ((i:Int)+1) q=(9,s)):=by unfold Hid bN;rw[hf];simp[ho,hap]
   rw[hap]at ca;unfold ptr at cs ca⊢;clear ho hv hf hap tN;go_enter_defers func52,ntmps52;go_wp2_with fail
   refine(ak6 Tryz.bD ⟨A.pw i,0,F⟩ _ c0 f0).mono ?_;rintro e w' ⟨rfl,rfl⟩;rw[hw1];go_wp2_with fail
   refine cs.mono ?_;rintro e w' ⟨rfl,rfl⟩;go_wp2_with fail
   refine ca.mono ?_;rintro e w2 ⟨rfl,hB⟩;go_wp2_with fail
   have sO:aT w2 (A.pw i) _ _:=mq.of_eq (hB.block _ mq.lt);refine ai2 (f:=38) (args:=#[.pointer (Y ⟨A.pw i,0,F⟩)]) XI YU ?_;refine(af1 Tryz.bD ⟨A.pw i,0,F⟩ .returning _ (sO.cell (o:=0) rfl) (sO.frozen 0)).mono ?_;rintro e u' w'' ⟨rfl,rfl,rfl⟩;rw[Hr.out];have hall:=hun w2 (λk=>k<w.heap.size) (λk hk=>hB.block k I);have vK:Below w.heap.size w (w2.setCell ⟨A.pw i,0,F⟩ fH):=⟨hB.os.trans hos.1,hB.tape.trans hos.2.1,hB.output.trans hos.2.2,by have:=hB.size;simp[ab1];omega,hall⟩
   exact⟨_,ak7 rfl _ _ _,A,rfl,h.below vK,⟨vK.os,vK.tape,vK.output,vK.size,λ_ _=>rfl,λk hk _=>vK.block k hk⟩⟩
  |true=>
   have hpq:m.cC q=Z6:=by simp only[cH,aq2,at7]at hap;have:=hap q hq;simpa[ho]using this
   rw[hap]at ca;have YM:=tN q ho;rw[hpq]at YM;cases tY:m.comm q with
   |true=>
    have Hr:Hid (bN s ((i:Int)+1) q=(10,s)):=by unfold Hid bN;rw[hf];simp[ho,hap,tY]
    have hst:bO m q=2:=by unfold bO;rw[tY];rfl
    rw[hst]at YM;unfold ptr at cs ca⊢;clear ho hv hf hap tN hst tY;go_enter_defers func52,ntmps52;go_wp2_with fail
    refine(ak6 Tryz.bD ⟨A.pw i,0,F⟩ _ c0 f0).mono ?_;rintro e w' ⟨rfl,rfl⟩;rw[hw1];go_wp2_with fail
    refine cs.mono ?_;rintro e w' ⟨rfl,rfl⟩;go_wp2_with fail
    refine ca.mono ?_;rintro e w2 ⟨rfl,hB⟩;have gN:aT w2 (A.sh i q) _ _:=YM.of_eq (hB.block _ YM.lt);have e1:w2.cell? ⟨A.sh i q,1,F⟩=Y (.int .i64 2):=gN.cell (o:=1) rfl;go_wp2_with fail
    have sO:aT w2 (A.pw i) _ _:=mq.of_eq (hB.block _ mq.lt);refine ai2 (f:=38) (args:=#[.pointer (Y ⟨A.pw i,0,F⟩)]) XI YU ?_;refine(af1 Tryz.bD ⟨A.pw i,0,F⟩ .returning _ (sO.cell (o:=0) rfl) (sO.frozen 0)).mono ?_;rintro e u' w'' ⟨rfl,rfl,rfl⟩;rw[Hr.out];have hall:=hun w2 (λk=>k<w.heap.size) (λk hk=>hB.block k I);have vK:Below w.heap.size w (w2.setCell ⟨A.pw i,0,F⟩ fH):=⟨hB.os.trans hos.1,hB.tape.trans hos.2.1,hB.output.trans hos.2.2,by have:=hB.size;simp[ab1];omega,hall⟩
    exact⟨_,ak7 rfl _ _ _,A,rfl,h.below vK,⟨vK.os,vK.tape,vK.output,vK.size,λ_ _=>rfl,λk hk _=>vK.block k hk⟩⟩
   |false=>
    have Hr:Hid (bN s ((i:Int)+1) q=(0,setAt s i {m with comm:=put m.comm q})):=by unfold Hid bN;rw[hf];simp only[ho,hap,tY,K1,au1];rw[show ((i:Int)+1-1).toNat=i from by omega];rfl
    have hst:bO m q=1:=by unfold bO;rw[tY,hpq];rfl
    rw[hst]at YM;have hit:=h.it i m q hm hc ho;have EB:∀k,(A.iv i q).ownBlock=Y k->k≠A.pw i:=λk hk e=>by have h1:=h.cY i m q k hm hc ho hk;rw[e,h.cM i m hm hc]at h1;simp at h1
    have YA:A.pb q≠A.pw i:=λe=>by have h1:=h.dA q hq;rw[e,h.cM i m hm hc]at h1;simp at h1
    have hkb:A.kb q≠A.pw i:=λe=>by have h1:=h.cQ q hq;rw[e,h.cM i m hm hc]at h1;simp at h1
    have hvb:A.vb q≠A.pw i:=λe=>by have h1:=h.fK q hq;rw[e,h.cM i m hm hc]at h1;simp at h1
    have rD:A.sh i q≠A.vb q:=λe=>by have h1:=h.cU i m q hm hc ho;rw[e,h.fK q hq]at h1;simp at h1
    have hsp:=rQ q ho;have MX:=(h.part q hq).of_eq (dY _ YA);have MY:=(h.kept q hq).of_eq (dY _ hkb);have UR:=(h.uA q hq).of_eq (dY _ hvb);rw[Dn]at UR;have YN:=aI hit (λk hk=>dY k (EB k hk));have hkf:bP s A q (.int .i64 ((i+1:Nat):Int))=Y (.agg #[A.iv i q,A.sv i]):=by rw[show ((i+1:Nat):Int)=(i:Int)+1 from by omega];simp only[bP,hf,hpq,if_true];rw[show ((i:Int)+1-1).toNat=i from by omega]
    have hI8:=(h.ok.items i m hm).1;have alX:=oz s.parts m.items q;have cc:∀W,Below w1.heap.size w1 W->Calls prog 90 #[ptr (A.pb q),.int .i64 ((i:Int)+1)] W λe w'=>e=.returned (.tuple #[])/\aS w' prog 9 (A.vb q) (qv (dD (A.vis q) (i+1) (bp s.parts m.items q)))/\Fr (λk=>k=A.vb q) W w':=by
     intro W hB;have:=UQ (w:=W) (A.pb q) (A.kb q) (A.vb q) (bP s A q) (A.vis q) (i+1) (A.iv i q) (A.sv i) (bp s.parts m.items q) (oC s.ws) (MX.of_eq (hB.block _ MX.lt)) (MY.of_eq (hB.block _ MY.lt)) hkf (UR.of_eq (hB.block _ UR.lt)) (aI YN (λk hk=>hB.block k (aQ YN k hk).2))
      (qh ho) I (λx hx=>(h.ok.items i m hm).2 x (mz.1 hx).1) I (by have:=aH hm;omega) (h.Q0 hq) (h.Q6 hq) (by have:=FU s.ws (λm' hm'=>by obtain⟨j,hj⟩:=List.getElem?_of_mem hm';exact(h.ok.items j m' hj).1);omega)
     rw[show ((i+1:Nat):Int)=(i:Int)+1 from by omega]at this;exact this
    have d2:w1.cell? ⟨A.pw i,2,F⟩=Y (.int .i64 ((i:Int)+1)):=mq.cell (o:=2) rfl;have ahm:A.pw i≠A.vb q:=λe=>hvb e.symm;unfold ptr at cs ca cc⊢;clear hv tN hst hkf MX MY UR YN;go_enter_defers func52,ntmps52;go_wp2_with fail
    refine(ak6 Tryz.bD ⟨A.pw i,0,F⟩ _ c0 f0).mono ?_;rintro e w' ⟨rfl,rfl⟩;rw[hw1];go_wp2_with fail
    refine cs.mono ?_;rintro e w' ⟨rfl,rfl⟩;go_wp2_with fail
    refine ca.mono ?_;rintro e w2 ⟨rfl,hB⟩;have gN:aT w2 (A.sh i q) _ _:=YM.of_eq (hB.block _ YM.lt);have sO:aT w2 (A.pw i) _ _:=mq.of_eq (hB.block _ mq.lt);have e0:w2.cell? ⟨A.sh i q,0,F⟩=Y (.pointer (Y ⟨A.pb q,0,F⟩)):=gN.cell (o:=0) rfl;have e1:w2.cell? ⟨A.sh i q,1,F⟩=Y (.int .i64 1):=gN.cell (o:=1) rfl;have e2:w2.cell? ⟨A.pw i,2,F⟩=Y (.int .i64 ((i:Int)+1)):=sO.cell (o:=2) rfl;have ccD:=cc w2.drew hB.drew;clear cs ca cc;go_wp2_with fail
    go_region_held3 (λW=>W.cell? ⟨A.sh i q,0,F⟩=Y (.pointer (Y ⟨A.pb q,0,F⟩))/\W.cell? ⟨A.pw i,2,F⟩=Y (.int .i64 ((i:Int)+1))) (simp[*]) ((go_at_call 90;refine ccD.mono ?_;rintro e w3 ⟨rfl,hV3,KW⟩;have Od:=KW.blk (a:=w2.drew) gN rD;have wW:=KW.blk (a:=w2.drew) sO ahm;have k0:=Od.cell (o:=0) (v:=.pointer (Y ⟨A.pb q,0,F⟩)) rfl;have k2:=wW.cell (o:=2) (v:=.int .i64 ((i:Int)+1)) rfl))
    have k1:=Od.cell (o:=1) (v:=.int .i64 1) rfl;have f1:=Od.frozen 1;clear ccD;go_wp2_with fail
    have hS4:=Od.set 1 (.int .i64 2);have Yx:aT (w3.setCell ⟨A.sh i q,1,F⟩ (.int .i64 2)) (A.pw i) _ _:=wW.of_eq (zad _ _ _ _ (λe=>hsp e.symm));refine ai2 (f:=38) (args:=#[.pointer (Y ⟨A.pw i,0,F⟩)]) XI YU ?_;refine(af1 Tryz.bD ⟨A.pw i,0,F⟩ .returning _ (Yx.cell (o:=0) rfl) (Yx.frozen 0)).mono ?_;rintro e u' w'' ⟨rfl,rfl,rfl⟩;rw[Hr.out];have ahn:=hB.size;have alZ:w2.heap.size<=w3.heap.size:=KW.size;have hall:=hun (w3.setCell ⟨A.sh i q,1,F⟩ (.int .i64 2)) (λk=>k<w.heap.size/\k≠A.vb q/\k≠A.sh i q) (λk hk=>by rw[zad _ _ _ _ hk.2.2,KW.block k (by show k<w2.heap.size;omega) hk.2.1];exact hB.block k I)
    refine⟨_,ak7 rfl _ _ _,_,rfl,h.comm hm hc ho hpq tY (w':=(w3.setCell ⟨A.sh i q,1,F⟩ (.int .i64 2)).setCell ⟨A.pw i,0,F⟩ fH) (λk h1 h2 h3=>hall k ⟨h1,h2,h3⟩) (hV3.of_eq ((zad _ _ _ _ hvb).trans (zad _ _ _ _ (λe=>rD e.symm)))) ?_,?_⟩
    ·exact hS4.of_eq (zad _ _ _ _ hsp)
    ·exact⟨KW.os.trans (hB.os.trans hos.1),KW.tape.trans (hB.tape.trans hos.2.1),KW.output.trans (hB.output.trans hos.2.2),by simp[ab1];omega,λ_ _=>rfl,λk hk hs=>hall k ⟨hk,λe=>hs (by rw[e,h.fK q hq]),λe=>hs (by rw[e,h.cU i m q hm hc ho])⟩⟩
def T3(h:bB w τ aJ b s A)(n p:Int)(hn: -9223372036854775808<=n)(hn':n<=9223372036854775807)(hp: -9223372036854775808<=p)(rz:p<=9223372036854775807):
 Calls prog 28 #[ptr b,.int .i64 n,.int .i64 p] w (nh w τ aJ b (bN s n p)):=by
 have c:=zu h n hn hn';cases hf:bL s n with
 |none=>
  have Hr:Hid (bN s n p=(7,s)):=by unfold Hid bN;rw[hf]
  have hv:fB s A n=(.pointer F,E):=by unfold fB;rw[hf]
  rw[hv]at c;unfold ptr at c⊢;clear hf hv;go_enter func28,ntmps28;go_wp2_with fail
  refine c.mono ?_;rintro e w1 ⟨rfl,hS⟩;go_wp2_with fail
  go_ret;rw[Hr.out];exact⟨A,rfl,h.same hS,hS.pS _ _⟩
 |some m=>
  have hv:fB s A n=(ptr (A.pw (n-1).toNat),Z6):=by unfold fB;rw[hf]
  rw[hv]at c;have c2:∀w1,vF w w1->Calls prog 52 #[ptr (A.pw (n-1).toNat),.int .i64 p] w1 (nh w1 τ aJ b (bN s n p)):=λw1 hS=>Jh (h.same hS) n m hf p hp rz;generalize (n-1).toNat=j at c c2;unfold ptr at c c2⊢;clear hf hv;go_enter func28,ntmps28;go_wp2_with fail
  refine c.mono ?_;rintro e w1 ⟨rfl,hS⟩;have c3:=c2 w1 hS;clear c c2;go_wp2_with fail
  refine c3.mono ?_;rintro e w2 ⟨A',rfl,hR,hT⟩;go_wp2_with fail
  go_ret;exact⟨A',rfl,hR,(hS.pS _ _).trans hT⟩
end
section
variable {w:af}{τ:Nat->Tag}{aJ b:Nat}{s:MS}{A:SA}
def rO.grown(h:rO w w' b):w.grownBy w' (Y b):=⟨h.os,h.tape,h.output,Nat.le_of_eq h.size.symm,λk _ hk=>h.block k (λe=>hk (by rw[e]))⟩
def Dp(h:bB w τ aJ b s A)(hm:s.ws[i]?=Y m):jC s m 2=(m.comm 0 || m.comm 1 || m.comm 2 || m.comm 3):=by
 have IV:=h.ok.p4;have hp1:=h.ok.p1;have hst:∀q,bO m q=2↔m.comm q=Z6:=λq=>by unfold bO;cases m.comm q<;>cases m.cC q<;>simp
 have hq:∀q:Nat,m.comm q=Z6->q<s.parts/\aK s.parts m.items q=Z6:=λq hc=>by have ho:=h.inv.po i m q hm (h.inv.cp i m q hm hc);have:=(dh I ho).2;exact⟨I,ho⟩
 cases hb:(m.comm 0 || m.comm 1 || m.comm 2 || m.comm 3)with
 |true=>
  have:∃q,m.comm q=Z6:=by simp only[Bool.or_eq_true]at hb;rcases hb with((e|e)|e)|e<;>exact⟨_,e⟩
  obtain⟨q,e⟩:=this;exact mO (hq q e).1 (hq q e).2 ((hst q).2 e)
 |false=>
  refine lK (λq hql _ e=>?_);have:=(hst q).1 e;simp only[bg9]at hb;have:q=0\/q=1\/q=2\/q=3:=I
  rcases this with rfl|rfl|rfl|rfl<;>simp_all
def zI(hi:i<s.ws.length):bL (setAt s i {m with dF:=Z6}) ((i:Int)+1)=F:=by unfold bL setAt;simp only[am0];rw[if_neg I,show ((i:Int)+1-1).toNat=i from by omega];simp[hi]
def Ji(hi:i<s.ws.length)(q:Nat):bP (setAt s i {m with dF:=Z6}) A q=del (bP s A q) (.int .i64 ((i:Int)+1)):=by
 funext kl;by_cases e:kl=.int .i64 ((i:Int)+1)
 ·subst e;rw[nA Z5];simp only[bP,zI hi]
 ·rw[kZ e];cases kl with
  |int k n=>
   cases k<;>try rfl
   have:n≠(i:Int)+1:=λe'=>e (by rw[e']);simp only[bP,gH this]
  |_=>rfl
def Dq(hi:i<s.ws.length):cX (setAt s i {m with dF:=Z6}) A=del (cX s A) (.int .i64 ((i:Int)+1)):=by
 funext kl;by_cases e:kl=.int .i64 ((i:Int)+1)
 ·subst e;rw[nA Z5];simp only[cX,zI hi]
 ·rw[kZ e];cases kl with
  |int k n=>
   cases k<;>try rfl
   have:n≠(i:Int)+1:=λe'=>e (by rw[e']);simp only[cX,gH this]
  |_=>rfl
def MZ(h:bB w τ aJ b s A)(hm:s.ws[i]?=Y m)(hc:m.dF=E){q:Nat}(ho:aK s.parts m.items q=E):del (bP s A q) (.int .i64 ((i:Int)+1))=bP s A q:=by
 funext kl;by_cases e:kl=.int .i64 ((i:Int)+1)
 ·subst e;rw[nA Z5];simp only[bP,lG hm hc];cases hpq:m.cC q
  ·simp
  ·rw[h.inv.po i m q hm hpq]at ho;cases ho
 ·rw[kZ e]
def bB.dF(h:bB w τ aJ b s A){i:Nat}{m:MW}(hm:s.ws[i]?=Y m)(hc:m.dF=E)(hnc:∀q,m.comm q=E){w':af}
 (hsame:∀k,k<w.heap.size->(∀q,q<s.parts->k≠A.kb q)->k≠A.pw i->k≠A.wm->w'.heap[k]?=w.heap[k]?)
 (hk:∀q,q<s.parts->aS w' prog 3 (A.kb q) (del (bP s A q) (.int .i64 ((i:Int)+1))))
 (hw:aS w' prog 3 A.wm (del (cX s A) (.int .i64 ((i:Int)+1)))):
 bB w' τ aJ b (setAt s i {m with dF:=Z6}) A:=by
 have hi:=aH hm;have hne:∀{k a c:Nat},τ k=(aJ,a,c)->a≠3->(a=6->c≠i)->a≠5->k<w.heap.size->w'.heap[k]?=w.heap[k]? :=by
  intro k a c ht h3 h6 h5 wN;refine hsame k wN (λq hq e=>?_) (λe=>?_) (λe=>?_)
  ·have:=h.cQ q hq;rw[<-e,ht]at this;simp at this;omega
  ·have:=h.cM i m hm hc;rw[<-e,ht]at this;simp at this;exact h6 this.1 this.2
  ·have:=h.jh;rw[<-e,ht]at this;simp at this;omega
 have dX:∀{j:Nat} {mj:MW},(setAt s i {m with dF:=Z6}).ws[j]?=Y mj->∃mo,s.ws[j]?=Y mo/\mj.items=mo.items/\mj.comm=mo.comm/\mj.cC=mo.cC/\(mj.dF=E->mj=mo/\i≠j):=by
  intro j mj hj;rcases j4 hj with⟨rfl,rfl⟩|⟨e,hj'⟩
  ·exact⟨m,hm,rfl,rfl,rfl,λe=>by cases e⟩
  ·exact⟨mj,hj',rfl,rfl,rfl,λ_=>⟨rfl,e⟩⟩
 have hput:∀{j:Nat} {mo:MW},s.ws[j]?=Y mo->∃mj,(setAt s i {m with dF:=Z6}).ws[j]?=Y mj/\mj.items=mo.items/\mj.comm=mo.comm:=by
  intro j mo hj;by_cases e:i=j
  ·subst e;rw[hm]at hj;cases hj;exact⟨{m with dF:=Z6},by simp[setAt,hi],rfl,rfl⟩
  ·exact⟨mo,by simp[setAt,e,hj],rfl,rfl⟩
 refine⟨⟨h.ok.p1,h.ok.p4,by simpa[setAt]using h.ok.len,λj mj hj=>?_,h.ok.keys,h.ok.opn⟩,⟨λj mj q hj hcm=>?_,λj mj q hj Wj=>?_,λj mj q hj hcm=>?_⟩,?_,?_,h.tag,?_,h.eY,λq hq=>?_,h.dA,λq hq=>?_,h.cQ,λq hq=>?_,h.fK,λq hq=>?_,?_,h.jh,λj mj hj eJ=>?_,λj mj hj eJ=>?_,λj mj hj eJ=>?_,λj mj hj eJ=>?_,λj mj q hj eJ ho=>?_,λj mj q hj eJ ho=>?_,λj mj q hj eJ ho=>?_,λj mj q k hj eJ ho=>?_,h.reads.frame (λk hk h1 KC=>⟨hne (a:=(τ k).2.1) (c:=(τ k).2.2) (by rw[<-h1]) I I I hk,rfl⟩),λj mj hj=>?_⟩
 ·obtain⟨mo,ho,e,_⟩:=dX hj;rw[e];exact h.ok.items j mo ho
 ·obtain⟨mo,ho,_,e1,e2,_⟩:=dX hj;rw[e2];rw[e1]at hcm;exact h.inv.cp j mo q ho hcm
 ·obtain⟨mo,ho,e,_,e2,_⟩:=dX hj;rw[e];rw[e2]at Wj;exact h.inv.po j mo q ho Wj
 ·rcases j4 hj with⟨rfl,rfl⟩|⟨_,hj'⟩
  ·exact hnc q
  ·exact h.inv.cc j mj q hj' hcm
 ·refine h.told.ws rfl rfl rfl rfl (λj mj hj=>by obtain⟨mo,ho,_⟩:=dX hj;exact h.told.sv j mo ho) (λj mj hj=>?_);obtain⟨m',a1,a2,a3⟩:=hput hj;exact⟨m',a1,a2,λq hq=>by rw[a3];exact hq,rfl⟩
 ·have:=h.blk.of_eq (hne h.tag I I I h.blk.lt);simpa[setAt]using this
 ·exact aI h.cR (λk hk=>hne (h.eY k hk) I I I (aQ h.cR k hk).2)
 ·exact(h.part q hq).of_eq (hne (h.dA q hq) I I I (h.part q hq).lt)
 ·rw[Ji hi];exact hk q hq
 ·exact(h.uA q hq).of_eq (hne (h.fK q hq) I I I (h.uA q hq).lt)
 ·refine oB (h.mh q hq) rfl (λj mj hj eJ=>?_) (λj mj hj eJ=>?_)
  ·obtain⟨m',h1,h2,h3⟩:=hput hj;exact⟨m',h1,by rw[h3];exact eJ,h2⟩
  ·obtain⟨mo,h1,h2,h3,_⟩:=dX hj;exact⟨mo,h1,by rw[<-h3];exact eJ,h2⟩
 ·rw[Dq hi];exact hw
 ·obtain⟨mo,ho,_,_,_,e⟩:=dX hj;obtain⟨rfl,Ok⟩:=e eJ;have hb:=h.wr j mj ho eJ;exact hb.of_eq (hne (h.cM j mj ho eJ) I (λ_ e'=>Ok e'.symm) I hb.lt)
 ·obtain⟨mo,ho,_,_,_,e⟩:=dX hj;obtain⟨rfl,Ok⟩:=e eJ;exact h.cM j mj ho eJ
 ·obtain⟨mo,ho,_,_,_,e⟩:=dX hj;obtain⟨rfl,Ok⟩:=e eJ;have hb:=h.QK j mj ho eJ;have:=hb.of_eq (hne (h.jB j mj ho eJ) I I I hb.lt);refine this.congr (λkl=>?_);cases kl with
  |int k n=>cases k<;>rfl
  |_=>rfl
 ·obtain⟨mo,ho,_,_,_,e⟩:=dX hj;obtain⟨rfl,Ok⟩:=e eJ;exact h.jB j mj ho eJ
 ·obtain⟨mo,hmo,_,_,_,e⟩:=dX hj;obtain⟨rfl,Ok⟩:=e eJ;have hb:=h.sh j mj q hmo eJ ho;exact hb.of_eq (hne (h.cU j mj q hmo eJ ho) I I I hb.lt)
 ·obtain⟨mo,hmo,_,_,_,e⟩:=dX hj;obtain⟨rfl,Ok⟩:=e eJ;exact h.cU j mj q hmo eJ ho
 ·obtain⟨mo,hmo,_,_,_,e⟩:=dX hj;obtain⟨rfl,Ok⟩:=e eJ;have hr:=h.it j mj q hmo eJ ho;exact aI hr (λk hk=>hne (h.cY j mj q k hmo eJ ho hk) I I I (aQ hr k hk).2)
 ·obtain⟨mo,hmo,_,_,_,e⟩:=dX hj;obtain⟨rfl,Ok⟩:=e eJ;exact h.cY j mj q k hmo eJ ho
 ·obtain⟨mo,hmo,e,_⟩:=dX hj;rw[e];exact(h.L2 j mo hmo).of λk hk ht=>⟨hne ht I I I hk,rfl⟩
def IY(wb wm:Nat)(c:Array aj)(f:Lit->Option aj)(hb:aT w wb c 105)(e2:c[2]?=Y fH)(e5:c[6]?=Y (.map (Y wm)))(hM:aS w prog 3 wm f)(n:Int)(h1: -9223372036854775808<=n)(h2:n<=9223372036854775807):
 Calls prog 55 #[ptr wb,.int .i64 n] w λe w'=>e=.returned (.tuple #[])/\aS w' prog 3 wm (del f (.int .i64 n))/\rO w w' wm:=by
 have c2:w.cell? ⟨wb,2,F⟩=Y (.int .i32 0):=hb.cell e2;have c5:w.cell? ⟨wb,6,F⟩=Y (.map (Y wm)):=hb.cell e5;have f2:=hb.frozen 2;have hne:=dB hb hM;have pz:∀v,aS (w.setCell ⟨wb,2,F⟩ v) prog 3 wm f:=λv=>hM.of_eq (zad _ _ _ _ (λe=>hne e.symm));have ZS:(c.setIfInBounds 2 (.int .i32 1))[2]?=Y (.int .i32 1):=by have:=(Array.getElem?_eq_some_iff.1 e2).1;simp[this]
 unfold ptr;go_enter_defers func55,ntmps55;go_wp2_with (first|(go_at_call 37;refine(ak6 Tryz.bD ⟨wb,2,F⟩ _ c2 f2).mono ?_;rintro e w' ⟨rfl,rfl⟩)|(at_delete;refine qd _ rfl _ _ 102 3 rfl 118 eV underlying102 wm f rfl (pz _) _ (.int .i64 n) rfl (ap1 h1 h2) ?_;intro w1 xL hT))
 have hB:=rO.fU hT;have jd:aT w1 wb _ 105:=(hb.set 2 (.int .i32 1)).of_eq (hB.block wb hne);refine ai2 (f:=38) (args:=#[.pointer (Y ⟨wb,2,F⟩)]) XI YU ?_;refine(af1 Tryz.bD ⟨wb,2,F⟩ .returning _ (jd.cell (o:=2) ZS) (jd.frozen 2)).mono ?_;rintro e u' w'' ⟨rfl,rfl,rfl⟩;exact⟨_,be2 rfl _ _ _,rfl,xL.of_eq (zad _ _ _ _ (λe=>hne e.symm)),rO.locked hb e2 _ hB hne⟩
end
section
variable {w:af}{τ:Nat->Tag}{aJ b:Nat}{s:MS}{A:SA}
def iU(s:MS)(A:SA)(i:Nat)(m:MW)(left:Lit->Bool)(q:Nat):Lit->Option aj:=
 if (aK s.parts m.items q && !left (.int .i64 q))=Z6 then del (bP s A q) (.int .i64 ((i:Int)+1))else bP s A q
structure aho(w w':af)(s:MS)(A:SA)(i:Nat):Prop where
 fr:Fr (λk=>k=A.pw i\/∃q,q<s.parts/\k=A.kb q) w w'
 kept:∀q,q<s.parts->aS w' prog 3 (A.kb q) (del (bP s A q) (.int .i64 ((i:Int)+1)))
def IW(h:bB w τ aJ b s A)(i:Nat)(m:MW)(hm:s.ws[i]?=Y m)(hc:m.dF=E):
 Calls prog 54 #[ptr (A.pw i)] w λe w'=>
  ((m.comm 0 || m.comm 1 || m.comm 2 || m.comm 3)=Z6/\e=.returned (.int .i64 9)/\Below w.heap.size w w')\/
  ((m.comm 0 || m.comm 1 || m.comm 2 || m.comm 3)=E/\e=.returned (.int .i64 0)/\aho w w' s A i):=by
 have hlen:=h.ok.len
 have hp1:=h.ok.p1
 have IV:=h.ok.p4
 have hi:=aH hm
 have hW:=h.wr i m hm hc
 have c0:w.cell? ⟨A.pw i,0,F⟩=Y (.int .i32 0):=hW.cell (o:=0) rfl
 have f0:=hW.frozen 0
 have MT:A.sm i≠A.pw i:=λe=>by have h1:=h.jB i m hm hc;rw[e,h.cM i m hm hc]at h1;simp at h1
 have mq:=hW.set 0 (.int .i32 1)
 have hWb:=hW
 have dY:∀k,k≠A.pw i->(w.setCell ⟨A.pw i,0,F⟩ (.int .i32 1)).heap[k]?=w.heap[k]? :=λk hk=>zad _ _ _ _ hk
 have vD:(w.setCell ⟨A.pw i,0,F⟩ (.int .i32 1)).heap.size=w.heap.size:=by simp[ab1]
 have hos:(w.setCell ⟨A.pw i,0,F⟩ (.int .i32 1)).os=w.os/\(w.setCell ⟨A.pw i,0,F⟩ (.int .i32 1)).tape=w.tape/\(w.setCell ⟨A.pw i,0,F⟩ (.int .i32 1)).output=w.output:=⟨rfl,rfl,rfl⟩
 have hun:∀(w3:af) (p:Nat->Prop),(∀k,p k->w3.heap[k]?=(w.setCell ⟨A.pw i,0,F⟩ (.int .i32 1)).heap[k]?)->∀k,p k->(w3.setCell ⟨A.pw i,0,F⟩ fH).heap[k]?=w.heap[k]? :=λw3 p hp k hk=>fE hWb rfl hp k hk
 generalize hw1:w.setCell ⟨A.pw i,0,F⟩ (.int .i32 1)=w1 at *
 have d3:w1.cell? ⟨A.pw i,4,F⟩=Y (.bool E):=mq.cell (o:=4) rfl
 have d4:w1.cell? ⟨A.pw i,5,F⟩=Y (.map (Y (A.sm i))):=mq.cell (o:=5) rfl
 have pz:aS w1 prog 3 (A.sm i) (bV s A i m):=(h.QK i m hm hc).of_eq (dY _ MT)
 have rQ:∀q:Nat,aK s.parts m.items q=Z6->A.sh i q≠A.pw i:=λq ho e=>by have h1:=h.cU i m q hm hc ho;rw[e,h.cM i m hm hc]at h1;simp at h1
 have tN:∀q:Nat,aK s.parts m.items q=Z6->aT w1 (A.sh i q) #[ptr (A.pb q),.int .i64 (bO m q),if m.cC q then lJ else A.iv i q] 174:=λq ho=>(h.sh i m q hm hc ho).of_eq (dY _ (rQ q ho))
 have ca:=Cb (s:=s) (A:=A) i m 2 hp1 d4 pz (λq _ ho=>(tN q ho).cell (o:=1) rfl)
 rw[Dp h hm]at ca
 cases hcm:(m.comm 0 || m.comm 1 || m.comm 2 || m.comm 3)with
 |true=>
  rw[hcm]at ca
  unfold ptr at ca⊢
  clear hcm tN
  go_enter_defers func54,ntmps54
  go_wp2_with fail
  refine(ak6 Tryz.bD ⟨A.pw i,0,F⟩ _ c0 f0).mono ?_
  rintro e w' ⟨rfl,rfl⟩
  rw[hw1]
  go_wp2_with fail
  refine ca.mono ?_
  rintro e w2 ⟨rfl,hB⟩
  go_wp2_with fail
  have sO:aT w2 (A.pw i) _ _:=mq.of_eq (hB.block _ mq.lt)
  refine ai2 (f:=38) (args:=#[.pointer (Y ⟨A.pw i,0,F⟩)]) XI YU ?_
  refine(af1 Tryz.bD ⟨A.pw i,0,F⟩ .returning _ (sO.cell (o:=0) rfl) (sO.frozen 0)).mono ?_
  rintro e u' w'' ⟨rfl,rfl,rfl⟩
  have hall:=hun w2 (λk=>k<w.heap.size) (λk hk=>hB.block k I)
  have vK:Below w.heap.size w (w2.setCell ⟨A.pw i,0,F⟩ fH):=⟨hB.os.trans hos.1,hB.tape.trans hos.2.1,hB.output.trans hos.2.2,by have:=hB.size;simp[ab1];omega,hall⟩
  exact⟨_,ak7 rfl _ _ _,an0 ⟨trivial,rfl,vK⟩⟩
 |false=>
  rw[hcm]at ca
  have f3:w1.frozen? ⟨A.pw i,4,F⟩=E:=mq.frozen 4
  have S8:=h.cQ
  have hks:∀q q':Nat,q<s.parts->aK s.parts m.items q'=Z6->A.sh i q'≠A.kb q:=λq q' hq ho e=>by have h1:=h.cU i m q' hm hc ho;rw[e,S8 q hq]at h1;simp at h1
  have AR:∀q,q<s.parts->A.pw i≠A.kb q:=λq hq e=>by have h1:=h.cM i m hm hc;rw[e,S8 q hq]at h1;simp at h1
  have hkm:∀q,q<s.parts->A.sm i≠A.kb q:=λq hq e=>by have h1:=h.jB i m hm hc;rw[e,S8 q hq]at h1;simp at h1
  have hkp:∀q q',q<s.parts->q'<s.parts->A.pb q'≠A.kb q:=λq q' hq fX e=>by have h1:=h.dA q' fX;rw[e,S8 q hq]at h1;simp at h1
  have hkk:∀q q',q<s.parts->q'<s.parts->q≠q'->A.kb q'≠A.kb q:=λq q' hq fX hne e=>by have h1:=S8 q' fX;rw[e,S8 q hq]at h1;simp at h1;omega
  have hpw:∀q,q<s.parts->A.pb q≠A.pw i:=λq hq e=>by have h1:=h.dA q hq;rw[e,h.cM i m hm hc]at h1;simp at h1
  have MX:∀q,q<s.parts->aT w1 (A.pb q) #[fH,gy,.map (Y (A.kb q)),.map (Y (A.vb q))] 202:=λq hq=>(h.part q hq).of_eq (dY _ (hpw q hq))
  have MY:∀q,q<s.parts->aS w1 prog 3 (A.kb q) (bP s A q):=λq hq=>(h.kept q hq).of_eq (dY _ (λe=>AR q hq e.symm))
  have hfs:∀x u,bV s A i m (.int .i64 x)=Y u->u=.pointer (Y ⟨A.sh i x.toNat,0,F⟩)/\(0<=x/\x<s.parts/\aK s.parts m.items x=Z6):=by
   intro x u hu;simp only[bV]at hu;split at hu
   ·rename_i ho;cases hu;exact⟨rfl,(dh I ho).1,(dh I ho).2,ho⟩
   ·cases hu
  unfold ptr at ca⊢
  go_enter_defers func54,ntmps54
  go_wp2_with fail
  refine(ak6 Tryz.bD ⟨A.pw i,0,F⟩ _ c0 f0).mono ?_
  rintro e w' ⟨rfl,rfl⟩
  rw[hw1]
  go_wp2_with fail
  refine ca.mono ?_
  rintro e w2 ⟨rfl,hB⟩
  have sO:aT w2 (A.pw i) _ _:=mq.of_eq (hB.block _ mq.lt)
  have g3:w2.cell? ⟨A.pw i,4,F⟩=Y (.bool E):=sO.cell (o:=4) rfl
  have g4:w2.cell? ⟨A.pw i,5,F⟩=Y (.map (Y (A.sm i))):=sO.cell (o:=5) rfl
  have ff3:=sO.frozen 4
  have wW:=sO.set 4 (.bool Z6)
  have Be:Fr (λk=>k=A.pw i) w1 (w2.setCell ⟨A.pw i,4,F⟩ (.bool Z6)):=(Fr.dg hB).setCell (M:=λk=>k=A.pw i) (p:=⟨A.pw i,4,F⟩) rfl _
  have KS:aS (w2.setCell ⟨A.pw i,4,F⟩ (.bool Z6)) prog 3 (A.sm i) (bV s A i m):=Be.map pz MT
  obtain⟨n,D,hown,hs⟩:=KS
  have Yt:(w2.setCell ⟨A.pw i,4,F⟩ (.bool Z6)).heap.size=w2.heap.size:=by simp[ab1]
  go_wp2_with (at_range;refine wpList_range_own _ rfl _ 162 rfl 3 168 eV underlying162 aY (A.sm i) n D rfl hown ?_;intro w0 C7 EA hs0)
  go_frame
  rw[Yt]at C7 hs0⊢
  have ahn:=hB.size
  generalize hx:w2.setCell ⟨A.pw i,4,F⟩ (.bool Z6)=X at *
  have hSX:∀q:Nat,aK s.parts m.items q=Z6->aT X (A.sh i q) #[ptr (A.pb q),.int .i64 (bO m q),if m.cC q then lJ else A.iv i q] 174:=λq ho=>Be.blk (tN q ho) (rQ q ho)
  have hPX:∀q,q<s.parts->aT X (A.pb q) #[fH,gy,.map (Y (A.kb q)),.map (Y (A.vb q))] 202:=λq hq=>Be.blk (MX q hq) (hpw q hq)
  have hKX:∀q,q<s.parts->aS X prog 3 (A.kb q) (bP s A q):=λq hq=>Be.map (MY q hq) (λe=>AR q hq e.symm)
  have hn1: -9223372036854775808<=(i:Int)+1:=I
  have hn2:(i:Int)+1<=9223372036854775807:=I
  clear tN MX MY ca
  go_loopw [4] (λ_ wr=>∃left cnt,wr.ranges prog 3 aY (A.sm i) w2.heap.size n D left cnt/\Fr (λk=>∃q,q<s.parts/\k=A.kb q) X wr/\Hid (∀q,q<s.parts->aS wr prog 3 (A.kb q) (iU s A i m left q))) (λ_ wr=>wr.rangeLeft (A.sm i) w2.heap.size)
  case atStart=>
   refine⟨_,_,C7,⟨EA.os,EA.tape,EA.output,EA.size,λk hk _=>EA.block k hk XI⟩,λq hq=>?_⟩
   have e1:iU s A i m (Maps.has D) q=bP s A q:=by
    unfold iU;rw[hs.2];simp only[bV];by_cases ho:aK s.parts m.items q=Z6
    ·simp[ho]
    ·simp[ho]
   rw[e1]
   exact(hKX q hq).of_eq (EA.block _ (hKX q hq).lt XI)
  case round=>
   obtain⟨left,cnt,m6,hF,HK⟩:=hrel
   go_wp2_with (at_next;refine uD _ rfl _ rfl 3 eV underlying3 (A.sm i) w2.heap.size n D (bV s A i m) hs (λx=>A.sh i x.toNat) _ hfs left cnt rfl m6 ?_ ?_)
   ·intro hl0
    have HC:Hid (∀q,q<s.parts->aS wr prog 3 (A.kb q) (del (bP s A q) (.int .i64 ((i:Int)+1)))):=by
     intro q hq;have:=HK.out q hq;unfold iU at this;rw[hl0]at this;cases ho:aK s.parts m.items q
     ·rw[ho]at this;rw[MZ h hm hc ho];simpa using this
     ·rw[ho]at this;simpa using this
    have hWr:=hF.blk wW (λ⟨q,hq,e⟩=>AR q hq e)
    clear hl0
    go_wp2_with fail
    refine ai2 (f:=38) (args:=#[.pointer (Y ⟨A.pw i,0,F⟩)]) XI YU ?_
    refine(af1 Tryz.bD ⟨A.pw i,0,F⟩ .returning _ (hWr.cell (o:=0) rfl) (hWr.frozen 0)).mono ?_
    rintro e u' w'' ⟨rfl,rfl,rfl⟩
    refine⟨_,ak7 rfl _ _ _,ak9 ⟨trivial,rfl,⟨⟨hF.os.trans (Be.os.trans hos.1),hF.tape.trans (Be.tape.trans hos.2.1),hF.output.trans (Be.output.trans hos.2.2),?_,λk hk hM=>?_⟩,λq hq=>(HC.out q hq).of_eq (zad _ _ _ _ (λe=>AR q hq e.symm))⟩⟩⟩
    ·have h1:=hF.size
     have h2:=Be.size
     simp[ab1];omega
    ·have YO:k≠A.pw i:=λe=>hM (an0 e)
     have h2:=Be.size
     rw[zad _ _ _ _ YO,hF.block k I (λe=>hM (ak9 e)),Be.block k I YO,dY k YO]
   ·intro x w4 Qp hx0 hx1 IA L3 C8 hlt l5 hs1 tI
    obtain⟨q,rfl⟩:=zal hx0
    simp only[au1]at tI⊢
    have hq:q<s.parts:=I
    have hrl:=m6.lt
    have hsF:=hF.size
    have S9:Fr (λk=>∃q,q<s.parts/\k=A.kb q) X w4:=⟨l5.os.trans hF.os,l5.tape.trans hF.tape,l5.output.trans hF.output,I,λk hk hM=>(l5.block k I (λe=>by have:=ah9 e;omega)).trans (hF.block k hk hM)⟩
    have hS4:=S9.blk (hSX q IA) (λ⟨q',fX,e⟩=>hks q' q fX IA e)
    have Yx:=S9.blk wW (λ⟨q',fX,e⟩=>AR q' fX e)
    have S5:=S9.blk (hPX q hq) (λ⟨q',fX,e⟩=>hkp q' q fX hq e)
    have hK4:∀q',q'<s.parts->aS w4 prog 3 (A.kb q') (iU s A i m left q'):=λq' fX=>(HK.out q' fX).of_eq (l5.block _ (HK.out q' fX).lt (λe=>by have:=ah9 e;have:=(hKX q' fX).lt;omega))
    have hKq:aS w4 prog 3 (A.kb q) (bP s A q):=by have:=hK4 q hq;unfold iU at this;rw[L3]at this;simpa using this
    have e0:w4.cell? ⟨A.sh i q,0,F⟩=Y (.pointer (Y ⟨A.pb q,0,F⟩)):=hS4.cell (o:=0) rfl
    have e2:w4.cell? ⟨A.pw i,2,F⟩=Y (.int .i64 ((i:Int)+1)):=Yx.cell (o:=2) rfl
    have uE:A.sh i q≠A.kb q:=hks q q hq IA
    have hwq:=AR q hq
    have HM:Hid (∀w5:af,rO w4 w5 (A.kb q)->aS w5 prog 3 (A.kb q) (del (bP s A q) (.int .i64 ((i:Int)+1)))->∀q',q'<s.parts->aS w5 prog 3 (A.kb q') (iU s A i m (λz=>left z && !z.sameKey (.int .i64 q)) q')):=by
     intro w5 ym hM5 q' fX;by_cases e:q'=q
     ·subst e;have e1:iU s A i m (λz=>left z && !z.sameKey (.int .i64 q')) q'=del (bP s A q') (.int .i64 ((i:Int)+1)):=by have e2:(Lit.int .i64 (q':Int)).sameKey (.int .i64 q')=Z6:=ny Z5;unfold iU;simp only[IA,e2,ay1,Bool.and_false,Bool.not_false,Bool.and_true,if_true]
      rw[e1];exact hM5
     ·have e1:iU s A i m (λz=>left z && !z.sameKey (.int .i64 q)) q'=iU s A i m left q':=by have e2:(Lit.int .i64 (q':Int)).sameKey (.int .i64 q)=E:=Maps.sameKey_ne (by intro e2;injection e2 with _ e2;omega);unfold iU;simp only[e2,Bool.not_false,Bool.and_true]
      rw[e1];exact(hK4 q' fX).of_eq (ym.block _ (hkk q q' hq fX (λe2=>e e2.symm)))
    have hr5:∀w5:af,rO w4 w5 (A.kb q)->w5.ranges prog 3 aY (A.sm i) w2.heap.size n D (λz=>left z && !z.sameKey (.int .i64 q)) Qp/\Fr (λk=>∃q,q<s.parts/\k=A.kb q) X w5:=λw5 ym=>
     ⟨C8.kept ym.grown (λe=>hkm q hq (ah9 e)) (λe=>by have:=ah9 e;have:=(hKX q hq).lt;omega),S9.trans (Fr.Q5 (M:=λk=>∃q,q<s.parts/\k=A.kb q) ym ⟨q,hq,rfl⟩)⟩
    have HR5:=(show Hid _ from hr5)
    clear hr5 L3 IA hK4 hSX hPX hs hfs
    go_wp2_with fail
    go_region_held3 (λW=>W.cell? ⟨A.sh i q,0,F⟩=Y (.pointer (Y ⟨A.pb q,0,F⟩))/\W.cell? ⟨A.pw i,2,F⟩=Y (.int .i64 ((i:Int)+1))) (simp[*]) ((go_at_call 92;refine(acL (A.pb q) (A.kb q) (A.vb q) (bP s A q) (by exact S5) (by exact hKq) _ hn1 hn2).mono ?_;rintro e w5 ⟨rfl,hM5,ym⟩;have hS5:=hS4.of_eq (ym.block _ uE);have hW5:=Yx.of_eq (ym.block _ hwq);have k0:=hS5.cell (o:=0) (v:=.pointer (Y ⟨A.pb q,0,F⟩)) rfl;have k2:=hW5.cell (o:=2) (v:=.int .i64 ((i:Int)+1)) rfl))
    have acR:rO w4 w5 (A.kb q):=⟨ym.os,ym.tape,ym.output,ym.size,ym.block⟩
    obtain⟨r1,r2⟩:=HR5.out w5 acR
    have r3:=HM.out w5 acR hM5
    go_roundw
    case rel=>(repeat apply Exists.intro);exact⟨⟨_,_,r1,r2,r3⟩,rfl⟩
    case measure=>rw[r1.left_eq,m6.left_eq];omega
end
section
variable {w:af}{τ:Nat->Tag}{aJ b:Nat}{s:MS}{A:SA}
def QA(hi:∀q,m.comm q=Z6->q<4)(h:(m.comm 0 || m.comm 1 || m.comm 2 || m.comm 3)=E):∀q,m.comm q=E:=by
 intro q;cases hc:m.comm q
 ·rfl
 ·have:=hi q hc;have:q=0\/q=1\/q=2\/q=3:=I
  simp only[bg9]at h;rcases this with rfl|rfl|rfl|rfl<;>simp_all
def T5(h:bB w τ aJ b s A)(n:Int)(hn: -9223372036854775808<=n)(hn':n<=9223372036854775807):
 Calls prog 30 #[ptr b,.int .i64 n] w (nh w τ aJ b (dz s n)):=by
 have c:=zu h n hn hn';cases hf:bL s n with
 |none=>
  have Hr:Hid (dz s n=(7,s)):=by unfold Hid dz;rw[hf]
  have hv:fB s A n=(.pointer F,E):=by unfold fB;rw[hf]
  rw[hv]at c;unfold ptr at c⊢;clear hf hv;go_enter func30,ntmps30;go_wp2_with fail
  refine c.mono ?_;rintro e w1 ⟨rfl,hS⟩;go_wp2_with fail
  go_ret;rw[Hr.out];exact⟨A,rfl,h.same hS,hS.pS _ _⟩
 |some m=>
  have hv:fB s A n=(ptr (A.pw (n-1).toNat),Z6):=by unfold fB;rw[hf]
  rw[hv]at c;obtain⟨h1,h2,hm,hc⟩:=fy hf;have IV:=h.ok.p4;have hp1:=h.ok.p1;have c2:∀w1,vF w w1->_:=λw1 hS=>IW (h.same hS) (n-1).toNat m hm hc;have hnj:n=((n-1).toNat:Int)+1:=I
  have H9:Hid ((m.comm 0 || m.comm 1 || m.comm 2 || m.comm 3)=Z6->dz s n=(9,s)):=by intro ha;unfold dz;rw[hf];simp only[ha,if_true]
  have H0:Hid ((m.comm 0 || m.comm 1 || m.comm 2 || m.comm 3)=E->dz s n=(0,setAt s (n-1).toNat {m with dF:=Z6})):=by intro ha;unfold dz;rw[hf];simp only[ha];rfl
  have hci:∀q,m.comm q=Z6->q<4:=λq tY=>by have ho:=h.inv.po _ m q hm (h.inv.cp _ m q hm tY);have:=(dh I ho).2;omega
  generalize (n-1).toNat=j at *;have Hnj:Hid (n=(j:Int)+1):=hnj;unfold ptr at c c2⊢;clear hf hv hnj;go_enter func30,ntmps30;go_wp2_with fail
  refine c.mono ?_;rintro e w1 ⟨rfl,hS⟩;have c3:=c2 w1 hS;clear c c2;go_wp2_with fail
  refine c3.mono ?_;rintro e w2 (⟨hcm,rfl,hB⟩|⟨hcm,rfl,hC⟩)
  ·have Hr:Hid (dz s n=(9,s)):=H9.out hcm;clear c3 hcm;go_wp2_with fail
   go_ret;rw[Hr.out];have eH:Below w.heap.size w w2:=⟨hB.os.trans hS.os,hB.tape.trans hS.tape,hB.output.trans hS.output,by have:=hB.size;rw[hS.heap]at this;exact this,λk hk=>(hB.block k (by rw[hS.heap];exact hk)).trans (by rw[hS.heap])⟩
   exact⟨A,rfl,h.below eH,⟨eH.os,eH.tape,eH.output,eH.size,λ_ _=>rfl,λk hk _=>eH.block k hk⟩⟩
  ·have Hr:Hid (dz s n=(0,setAt s j {m with dF:=Z6})):=H0.out hcm;have hnc:=QA hci hcm;have hF:Fr (λk=>k=A.pw j\/∃q,q<s.parts/\k=A.kb q) w w2:=(Fr.of_same hS).trans hC.fr;have MG:¬(b=A.pw j\/∃q,q<s.parts/\b=A.kb q):=by
    rintro(e|⟨q,hq,e⟩)
    ·have h1:=h.cM j m hm hc;rw[<-e,h.tag]at h1;simp at h1
    ·have h1:=h.cQ q hq;rw[<-e,h.tag]at h1;simp at h1
   have ack:¬(A.wm=A.pw j\/∃q,q<s.parts/\A.wm=A.kb q):=by
    rintro(e|⟨q,hq,e⟩)
    ·have h1:=h.cM j m hm hc;rw[<-e,h.jh]at h1;simp at h1
    ·have h1:=h.cQ q hq;rw[<-e,h.jh]at h1;simp at h1
   have fG:=hF.blk h.blk MG;have hm2:=hF.map h.sN ack;have c4:=IY (w:=w2) b A.wm _ (cX s A) fG rfl rfl hm2 n hn hn';unfold ptr at c4;clear c3 hcm;go_wp2_with fail
   refine c4.mono ?_;rintro e w3 ⟨rfl,KS,lV⟩;clear c4;go_wp2_with fail
   go_ret;rw[Hr.out];have hkm:∀q,q<s.parts->A.kb q≠A.wm:=λq hq e=>ack (ak9 ⟨q,hq,e.symm⟩);have A8:=hF.size;rw[Hnj.out]at KS;refine⟨A,rfl,h.dF hm hc hnc (λk hk hkb hkp AR=>?_) (λq hq=>(hC.kept q hq).of_eq (lV.block _ (hkm q hq))) KS,?_⟩
   ·exact(lV.block k AR).trans (hF.block k hk (by rintro(e|⟨q,hq,e⟩);exact hkp e;exact hkb q hq e))
   ·refine⟨lV.os.trans hF.os,lV.tape.trans hF.tape,lV.output.trans hF.output,by rw[lV.size];exact hF.size,λ_ _=>rfl,λk hk hs=>?_⟩;refine(lV.block k (λe=>hs (by rw[e,h.jh]))).trans (hF.block k hk ?_);rintro(e|⟨q,hq,e⟩)
    ·exact hs (by rw[e,h.cM j m hm hc])
    ·exact hs (by rw[e,h.cQ q hq])
end
end
section
open Go Go.RowKit Go.MuLone
section
variable {w:af}
def QB(a v key:ah)(ib:Nat)(ck:w.cell? ⟨ib,0,F⟩=Y (.string key)):
 Calls prog 83 #[.agg #[.string a,.string v],.pointer (Y ⟨ib,0,F⟩)] w λe w'=>e=.returned (.bool (decide (a=key)))/\Below w.heap.size w w':=by
 have hlt:=zai w _ ck;simp only at hlt;have hne:ib≠w.heap.size:=I
 by_cases he:a=key
 ·have hb:=fj he;have Hr:Hid (decide (a=key)=Z6):=decide_eq_true he;clear he;go_enter func83,ntmps83;go_wp2;go_ret;exact⟨cJ (by rw[Hr.out]),(ag2 _ _).alloc (zaf _) _⟩
 ·have hb:=kQ he;have Hr:Hid (decide (a=key)=E):=decide_eq_false he;clear he;go_enter func83,ntmps83;go_wp2;go_ret;exact⟨cJ (by rw[Hr.out]),(ag2 _ _).alloc (zaf _) _⟩
def A9(key:ah)(ib gb go:Nat)(L:List KV)(cap:Nat)(hL:L.length<=8)(ck:w.cell? ⟨ib,0,F⟩=Y (.string key))
 (hcell:∀(k:Nat) (x:KV),L[k]?=Y x->w.cell? ⟨gb,go+k*2,F⟩=Y (.string x.1)/\w.cell? ⟨gb,go+k*2+1,F⟩=Y (.string x.2)) (n:Nat) (hn:n<=L.length):
 Calls prog 128 #[.slice (Y ⟨gb,go,F⟩) n cap,.func (Fn.func 83) #[] #[.pointer (Y ⟨ib,0,F⟩)]] w λe w'=>∃r:Int,e=.returned (.int .i64 r)/\-1<=r/\(decide (0<=r)=aN (L.take n) key)/\Below w.heap.size w w':=by
 go_enter func128,ntmps128;go_wp2_with fail
 go_loopw [8] (λu wr=>∃k:Nat,k<=n/\u=.int .i64 k/\Below w.heap.size w wr/\Hid (aN (L.take k) key=E)) (λu _=>n-(intOf u).toNat)
 case atStart=>exact⟨0,zaj _,rfl,ag2 _ _,by simp[Hid,aN]⟩
 case round=>
  obtain⟨k,hk,rfl,hB,HN⟩:=hrel;by_cases hlt:k<n
  ·have hx:L[k]?=Y L[k]:=zag I;obtain⟨c1,c2⟩:=hcell k _ hx;have Yp:=(hB.cell (p:=⟨gb,go+k*2,F⟩) (zai w _ c1)).trans c1;have c2':=(hB.cell (p:=⟨gb,go+k*2+1,F⟩) (zai w _ c2)).trans c2;have S4:=(hB.cell (p:=⟨ib,0,F⟩) (zai w _ ck)).trans ck;generalize L[k]=x at *;obtain⟨kk,vv⟩:=x;simp only at Yp c2';clear c1 c2 hcell;have cs:=QB kk vv key ib S4;have hst:aN (L.take (k+1)) key=(aN (L.take k) key || decide (kk=key)):=by rw[yt hx,Fv]
   rw[HN.out,bd5]at hst;cases hd:decide (kk=key)with
   |true=>
    rw[hd]at cs hst;have HT:Hid (aN (L.take n) key=Z6):=wS (k:=n) (j:=k) hlt hx (of_decide_eq_true hd);clear hst hd hx;go_wp2_with fail
    refine cs.mono ?_;rintro e w2 ⟨rfl,eH⟩;clear cs;go_wp2_with fail
    go_ret;refine⟨k,rfl,I,?_,hB.trans (eH.mono hB.size)⟩;rw[HT.out];simp
   |false=>
    rw[hd]at cs hst;have HN':Hid (aN (L.take (k+1)) key=E):=hst;clear hst hd hx;go_wp2_with fail
    refine cs.mono ?_;rintro e w2 ⟨rfl,eH⟩;clear cs;go_wp2_with fail
    go_roundw
    case rel=>exact⟨k+1,I,by go_num,hB.trans (eH.mono hB.size),HN'⟩
    case measure=>simp[intOf];omega
  ·have hkn:k=n:=I
   have HT:Hid (aN (L.take n) key=E):=by rw[<-hkn];exact HN
   clear hcell hkn;go_wp2_with fail
   go_ret;refine⟨-1,rfl,I,?_,hB⟩;rw[HT.out];rfl
def De(key:ah)(ib gb go:Nat)(L:List KV)(cap:Nat)(hL:L.length<=8)(ck:w.cell? ⟨ib,0,F⟩=Y (.string key))
 (hcell:∀(k:Nat) (x:KV),L[k]?=Y x->w.cell? ⟨gb,go+k*2,F⟩=Y (.string x.1)/\w.cell? ⟨gb,go+k*2+1,F⟩=Y (.string x.2)) (n:Nat) (hn:n<=L.length):
 Calls prog 84 #[.slice (Y ⟨gb,go,F⟩) n cap,.func (Fn.func 83) #[] #[.pointer (Y ⟨ib,0,F⟩)]] w λe w'=>e=.returned (.bool (aN (L.take n) key))/\Below w.heap.size w w':=by
 have c:=A9 key ib gb go L cap hL ck hcell n hn;clear hcell;go_enter func84,ntmps84;go_wp2_with fail
 refine c.mono ?_;rintro e w2 ⟨r,rfl,CO,OY,hB⟩;have HR:Hid (decide (0<=r)=aN (L.take n) key):=OY;clear c OY;go_wp2_with fail
 go_ret;exact⟨cJ HR.out,hB⟩
end
section
variable {w:af}
def gG(n:Int):Bool:=decide (1<=n)&& decide (n<=8)
def oA(n:Int)(w:af):Calls prog 68 #[.int .i64 n] w λe w'=>e=.returned (.bool (gG n))/\w'=w:=by
 by_cases h1:1<=n
 ·by_cases h2:n<=8
  ·go_enter func68,ntmps68;go_wp2;go_ret;exact⟨cJ (by simp[gG,h1,h2]),rfl⟩
  ·go_enter func68,ntmps68;go_wp2;go_ret;exact⟨cJ (by simp[gG,h1,h2]),rfl⟩
 ·go_enter func68,ntmps68;go_wp2;go_ret;exact⟨cJ (by unfold gG;rw[decide_eq_false (I:¬1<=n)];rfl),rfl⟩
def xJ(a:Option aA)(L:List KV)(cap:Nat)(hL:L.length<=ae0)(hs:L.length<1\/8<L.length):
 Calls prog 47 #[.slice a L.length cap] w λe w'=>e=.returned (.int .i64 (eu L))/\Below w.heap.size w w':=by
 have Hr:Hid (eu L=3):=by unfold Hid eu;rw[if_pos hs]
 unfold ae0 at hL;have cz:=oA L.length w;have hg:gG L.length=E:=by
  unfold gG;rcases hs with e|e
  ·rw[decide_eq_false I];rfl
  ·rw[Bool.and_eq_false_iff];exact ak9 (decide_eq_false I)
 rw[hg]at cz;clear hs hg;go_enter func47,ntmps47;go_wp2_with (go_at_call 68;refine cz.mono ?_;rintro e w' ⟨rfl,rfl⟩)
 go_ret;exact⟨gn Hr.out.symm,ag2 _ _⟩
def xK(gb go:Nat)(L:List KV)(cap:Nat)(h1:1<=L.length)(h8:L.length<=8)(Uz:L.length<=cap)(hcm:cap<=ae0)(hz:kS L)
 (hcell:∀(k:Nat) (x:KV),L[k]?=Y x->w.cell? ⟨gb,go+k*2,F⟩=Y (.string x.1)/\w.cell? ⟨gb,go+k*2+1,F⟩=Y (.string x.2)):
 Calls prog 47 #[.slice (Y ⟨gb,go,F⟩) L.length cap] w λe w'=>e=.returned (.int .i64 (eu L))/\Below w.heap.size w w':=by
 have g1:¬L.length<1:=I
 have g2:¬8<L.length:=I
 have Zy:∀(fn:Fn) (first cap:Array aj) (w:af),(Instr.makeFunc fn first cap).run prog w=.ok (.func fn first cap) w:=λ_ _ _ _=>rfl;have HC:Hid (eu L=bK [] L):=by unfold Hid eu;rw[if_neg I]
 unfold ae0 at hcm;have cz:=oA L.length w;have zv:gG L.length=Z6:=by unfold gG;rw[decide_eq_true (show (1:Int)<=L.length by omega),decide_eq_true (show (L.length:Int)<=8 by omega)];rfl
 rw[zv]at cz;clear zv;go_enter func47,ntmps47;go_wp2_with (go_at_call 68;refine cz.mono ?_;rintro e w' ⟨rfl,hw0⟩;obtain rfl:=hw0.symm)
 clear cz;go_loopw [12] (λu wr=>∃k:Nat,k<=L.length/\u=.int .i64 k/\Below w.heap.size w wr/\Hid (bK [] L=bK (L.take k) (L.drop k))) (λu _=>L.length-(intOf u).toNat)
 case atStart=>exact⟨0,zaj _,rfl,ag2 _ _,by simp[Hid]⟩
 case round=>
  obtain⟨k,hk,rfl,hB,HK⟩:=hrel;by_cases hlt:k<L.length
  ·have hx:L[k]?=Y L[k]:=zag hlt;obtain⟨c1,c2⟩:=hcell k _ hx;have hgb:gb<w.heap.size:=zai w _ c1;have Yp:=(hB.cell (p:=⟨gb,go+k*2,F⟩) hgb).trans c1;have c2':=(hB.cell (p:=⟨gb,go+k*2+1,F⟩) hgb).trans c2;obtain⟨hs1,E4⟩:=hz _ (zam hlt);generalize L[k]=x at *;obtain⟨kk,vv⟩:=x;simp only at Yp c2' hs1 E4;clear c1 c2;have Wf:Below w.heap.size w (wr.alloc (.cells #[.string kk,.string vv] 70)):=hB.alloc hB.size _;have cI0:(wr.alloc (.cells #[.string kk,.string vv] 70)).cell? ⟨wr.heap.size,0,F⟩=Y (.string kk):=(aT.new wr _ _).cell (o:=0) rfl;have cI1:(wr.alloc (.cells #[.string kk,.string vv] 70)).cell? ⟨wr.heap.size,1,F⟩=Y (.string vv):=(aT.new wr _ _).cell (o:=1) rfl;have ck:=vG kk (wr.alloc (.cells #[.string kk,.string vv] 70)) hs1;have cc:=De (w:=wr.alloc (.cells #[.string kk,.string vv] 70)) kk wr.heap.size gb go L cap h8 cI0 (λj y hy=>⟨(Wf.cell (p:=⟨gb,go+j*2,F⟩) hgb).trans (hcell j y hy).1,(Wf.cell (p:=⟨gb,go+j*2+1,F⟩) hgb).trans (hcell j y hy).2⟩) k hk;unfold ae0 at hs1 E4;by_cases vH:eD (kk,vv)=E
   ·have Hr:Hid (eu L=4):=by unfold Hid;rw[HC.out,HK.out,qR hx,BW vH]
    clear hcell cc;cases qj:bz kk with
    |false=>
     rw[qj]at ck;clear vH qj hx;go_wp2_with (go_at_call 49;refine ck.mono ?_;rintro e w' ⟨rfl,rfl⟩)
     go_ret;exact⟨gn Hr.out.symm,Wf⟩
    |true=>
     have Yq:¬vv.size<=64:=λe=>by simp[eD,qj,e]at vH
     rw[qj]at ck;clear vH qj hx;go_wp2_with (go_at_call 49;refine ck.mono ?_;rintro e w' ⟨rfl,rfl⟩)
     go_ret;exact⟨gn Hr.out.symm,Wf⟩
   ·have hg:eD (kk,vv)=Z6:=by simpa using vH
    have Yq:vv.size<=64:=(gl hg).2.2;have qj:bz kk=Z6:=by simp[eD]at hg;exact hg.1
    rw[qj]at ck;cases hh:aN (L.take k) kk with
    |true=>
     have Hr:Hid (eu L=5):=by unfold Hid;rw[HC.out,HK.out,qR hx,wR hg hh]
     rw[hh]at cc;clear vH qj hx hh hcell hg;go_wp2_with (go_at_call 49;refine ck.mono ?_;rintro e w' ⟨rfl,rfl⟩)
     refine cc.mono ?_;rintro e w2 ⟨rfl,eH⟩;clear ck cc;go_wp2_with fail
     go_ret;exact⟨gn Hr.out.symm,Wf.trans (eH.mono Wf.size)⟩
    |false=>
     have Yr:Hid (bK [] L=bK (L.take (k+1)) (L.drop (k+1))):=by unfold Hid;rw[HK.out,qR hx,Ft hg hh,yt hx]
     rw[hh]at cc;clear vH qj hx hh hcell hg;go_wp2_with (go_at_call 49;refine ck.mono ?_;rintro e w' ⟨rfl,rfl⟩)
     refine cc.mono ?_;rintro e w2 ⟨rfl,eH⟩;clear ck cc;go_wp2_with fail
     go_roundw
     case rel=>exact⟨k+1,I,by go_num,Wf.trans (eH.mono Wf.size),Yr⟩
     case measure=>simp[intOf];omega
  ·have Hr:Hid (eu L=0):=by unfold Hid;rw[HC.out,HK.out,show k=L.length from by omega,List.drop_length];rfl
   clear hcell;go_wp2_with fail
   go_ret;exact⟨gn Hr.out.symm,hB⟩
def zw(a:Option aA)(L:List KV)(cap:Nat)(hL:L.length<=ae0)(Uz:L.length<=cap)(hcm:cap<=ae0)(hz:kS L)(hI:fO w a L):
 Calls prog 47 #[.slice a L.length cap] w λe w'=>e=.returned (.int .i64 (eu L))/\Below w.heap.size w w':=by
 by_cases hs:L.length<1\/8<L.length
 ·exact xJ a L cap hL hs
 ·obtain⟨ib,io,rfl,c0,_⟩:=hI 0 L[0] (zag I);refine xK ib io L cap I I Uz hcm hz (λk x hx=>?_);obtain⟨TS,TT,e,r⟩:=hI k x hx;cases e;exact r
end
section
variable {w:af}
def zx:(prog.info? 5).map (λi=>(i.zero,i.size,i.bytes))=Y (Y (.int .u8 0),1,1):=Yl
def UA:(prog.info? 70).map (λi=>(i.zero,i.size,i.bytes))=Y (Y (.agg #[.string aj5,.string aj5]),2,32):=Yl
def zy(n:Nat)(hn:n<=1000)(W:af):∃M:Array aj,M.size=n/\(Instr.makeSlice 116 (.int .i64 (n:Int)) (.int .i64 (n:Int))).run prog W=.ok (.slice (Y ⟨W.heap.size,0,F⟩) n n) (W.alloc (.cells M 5)):=by obtain⟨i0,hi,hz0,Ff,Iq⟩:=aj4 zx;have h:=run_make (P:=prog) W 116 5 i0 (.int .u8 0) underlying116 hi hz0 .i64 .i64 (n:Int) (n:Int) I I (by rw[Iq];omega) I;refine⟨_,?_,by simpa using h⟩;rw[size_madeCells,Ff];simp
def QC(s:ah)(hs:s.size<=1000):Calls prog 129 #[.string s] w λe w'=>e=.returned (.string s)/\Below w.heap.size w w':=by
 by_cases h0:s.size=0
 ·obtain rfl:s=⟨#[]⟩:=ByteArray.ext (Array.eq_empty_of_size_eq_zero h0);clear h0;go_enter func129,ntmps129;go_wp2;go_ret;exact⟨rfl,ag2 _ _⟩
 ·obtain⟨i0,hi,hz0,Ff,Iq⟩:=aj4 zx;have hsz:(prog.info? 5).map (·.size)=Y 1:=by rw[hi];simp[Ff]
  have hco:prog.cellsOf 5=1:=by simp[Program.cellsOf,hi,Ff]
  obtain⟨M,hM,hmk⟩:=zy s.size hs w;have hlen:s.data.toList.length=s.size:=(Lib.size_eq s).symm;have SU:=Lib.run_copy_row_string (P:=prog) (w.alloc (.cells M 5)) 116 9 3 5 w.heap.size 0 s.size s.size s M 5 underlying116 hsz (heap_alloc_new w _) (zaf _) I;generalize hY:(M.toList.take 0++Lib.byteCells s.data.toList++M.toList.drop (0+s.size)).toArray=aE at SU;have hYl:aE.toList=Lib.byteCells s.data.toList:=by rw[<-hY];simp[<-hM]
  have hYs:aE.size=s.size:=by rw[<-zak,hYl,Lib.byteCells_length,hlen]
  have hg:((w.alloc (.cells M 5)).setRow w.heap.size aE).heap[w.heap.size]?=Y (.cells aE 5 (0,0)):=setRow_heap _ _ M _ 5 (0,0) (heap_alloc_new w _);have hus:=Lib.run_unsafeString_row (P:=prog) ((w.alloc (.cells M 5)).setRow w.heap.size aE) 242 3 9 5 underlying242 hco w.heap.size aE.size (by unfold World.shape?;rw[hg]) s.data.toList (λe=>h0 (by rw[<-hlen,e];rfl)) I I
   (λj x hx=>Lib.cells_of_row hg aE.size j _ (by rw[zan (by rw[zak];exact zaf _),hYl];simp[Lib.byteCells,hx]))
  rw[hlen]at hus;clear hY;go_enter func129,ntmps129;go_wp2;go_ret;have b1:Below w.heap.size w ((w.alloc (.cells M 5)).setRow w.heap.size aE):=((ag2 _ w).alloc (zaf _) _).trans ⟨rfl,rfl,rfl,XI,λk hk=>setRow_other _ _ _ _ I⟩;exact⟨rfl,Lib.below_freeze b1 (p:=⟨w.heap.size,0,F⟩) (zaf _) _⟩
def B1(s:ah)(hs:s.size<=1000):Calls prog 85 #[.string s] w λe w'=>e=.returned (.string s)/\Below w.heap.size w w':=by
 have c:=QC (w:=w) s hs;go_enter func85,ntmps85;go_wp2_with fail
 refine c.mono ?_;rintro e w2 ⟨rfl,hB⟩;clear c;go_wp2_with fail
 go_ret;exact⟨rfl,hB⟩
end
end
section
open Go Go.RowKit Go.MuLone
open Go.Maps (Keyed)
def Ba(P:Nat)(sh:Nat->Nat)(L:List KV):Lit->Option aj
 |.int .i64 q=>if aK P L q=Z6 then Y (ptr (sh q.toNat))else F
 |_=>F
structure gm(w:af)(τ:Nat->Tag)(aJ i P:Nat)(pb:Nat->Nat)(pw sm:Nat)(sh:Nat->Nat)(iv:Nat->aj)(sv kv:aj)(K:List ah)(L:List KV)(B0:Nat):Prop where
 blk:aT w pw #[fH,gy,.int .i64 ((i:Int)+1),sv,.bool E,.map (Y sm)] 164
 tag:τ pw=(aJ,6,i)
 map:aS w prog 3 sm (Ba P sh L)
 iD:τ sm=(aJ,7,i)
 MH:∀q:Nat,aK P L q=Z6->aT w (sh q) #[ptr (pb q),.int .i64 0,iv q] 174
 cU:∀q:Nat,aK P L q=Z6->τ (sh q)=(aJ,8,i*4+q)
 it:∀q:Nat,aK P L q=Z6->w.ownsRow 0 70 2 (iv q) (bp P L q).length (bl (bp P L q))
 cY:∀(q k:Nat),aK P L q=Z6->(iv q).ownBlock=Y k->τ k=(aJ,9,i*4+q)
 ky:w.ownsRow 0 9 1 kv K.length (K.map aj3)
 dV:∀k,kv.ownBlock=Y k->τ k=(aJ,15,i)
 lo:B0<=pw/\B0<=sm
 IZ:∀q:Nat,aK P L q=Z6->B0<=sh q
 I0:∀(q k:Nat),aK P L q=Z6->(iv q).ownBlock=Y k->B0<=k
 Oi:∀k,kv.ownBlock=Y k->B0<=k
def ql(n:Int)(L:List KV)(x:KV)(q:Int):aK n (L++ [x]) q=(aK n L q || decide (partOf n x.1=q)):=by simp[aK]
def uz(n:Int)(L:List KV)(x:KV)(q:Int):bp n (L++ [x]) q=bp n L q++(if partOf n x.1=q then [x]else []):=by unfold bp;rw[List.filter_append];by_cases h:partOf n x.1=q<;>simp[h]
def FB{q:Int}(h:aK n L q=E):bp n L q= []:=by simp only[aK,List.any_eq_false,decide_eq_true_eq]at h;exact List.filter_eq_nil_iff.2 (λx hx=>by simpa using h x hx)
def jA{p q:aA}{v:aj}(h:q.block≠p.block):(w.setCell p v).cell? q=w.cell? q:=zah (w:=w) (zad _ _ _ _ h)
def UB{t:az}(eH:Below (X.alloc (.cells c t)).heap.size (X.alloc (.cells c t)) w2):aT w2 X.heap.size c t:=
 (aT.new X c t).of_eq (eH.block _ XI)
def QD{t:az}(eH:Below (X.alloc (.cells c t)).drew.heap.size (X.alloc (.cells c t)).drew w2):aT w2 X.heap.size c t:=
 (aT.new X c t).of_eq (eH.block _ (by show X.heap.size< (X.alloc (.cells c t)).heap.size;simp))
def KU{t:az}{x y:aj}(h:aT w b #[x,y] t)(k v:ah):aT ((w.setCell ⟨b,0,F⟩ (.string k)).setCell ⟨b,1,F⟩ (.string v)) b #[.string k,.string v] t:=by have:=(h.set 0 (.string k)).set 1 (.string v);simpa using this
def QE{t:az}(eH:Below X.heap.size X w2)(h:aT X b c t):aT w2 b c t:=h.of_eq (eH.block _ h.lt)
section
variable {w:af}{τ:Nat->Tag}{aJ i P:Nat}{pb:Nat->Nat}{pw sm:Nat}{sh:Nat->Nat}{iv:Nat->aj}{sv kv:aj}{K:List ah}{L:List KV}{B0:Nat}
structure QF(w wx:af)(τ:Nat->Tag)(aJ i P:Nat)(pb:Nat->Nat)(pw sm:Nat)(sh:Nat->Nat)(iv:Nat->aj)(L:List KV)(B0 q hb:Nat)(wV:aj)(kk vv:ah):Prop where
 blk:aT wx hb #[ptr (pb q),.int .i64 0,wV] 174
 row:wx.ownsRow 0 70 2 wV (bp P L q).length (bl (bp P L q))
 map:aS wx prog 3 sm (upd (Ba P sh L) (.int .i64 q) (ptr hb))
 box:aT wx w.heap.size #[.string kk,.string vv] 70
 old:∀k,k<w.heap.size->k≠sm->wx.heap[k]?=w.heap[k]?
 fr:Below B0 w wx
 was:aK P L q=Z6->hb=sh q/\wV=iv q
 new:aK P L q=E->w.heap.size<hb/\wV=.slice F 0 0
def UC{q:Nat}(h:aK P L q=Z6):upd (Ba P sh L) (.int .i64 q) (ptr (sh q))=Ba P sh L:=by
 funext kl;by_cases e:kl=.int .i64 q
 ·subst e;rw[upd_same Z5];simp[Ba,h]
 ·rw[fS e]
def QG(hP:P<=4)(Ys:1<=P):∀kl,Ba P sh L kl≠F->kl∈jZ:=by
 intro kl h;cases kl with
 |int k n=>
  cases k<;>try exact absurd rfl h
  simp only[Ba]at h;by_cases ho:aK P L n=Z6
  ·have:=dh I ho;exact qn I I
  ·simp[ho]at h
 |_=>exact absurd rfl h
def QH{wa wc:af}{q hb nq:Nat}{wV:aj}{kk vv:ah}(h:gm w τ aJ i P pb pw sm sh iv sv kv K L B0)(hm:QF w wa τ aJ i P pb pw sm sh iv L B0 q hb wV kk vv)(Ys:1<=P)(hq:partOf P kk=q)(hq4:q<P)(S5:P<=4)
 (vg:Below wa.heap.size wa wc) (kA:w2.ownsRow 0 70 2 v2 ((bp P L q).length+1) (bl (bp P L q)++ [.string kk,.string vv])) (jm:((wc.drewN nq).alloc o).grownBy w2 wV.ownBlock)
 (hA2:v2.ownBlock=wV.ownBlock\/v2.ownBlock=Y ((wc.drewN nq).alloc o).heap.size) (hrb:wV.ownBlock≠Y hb):
 ∃τ' sh' iv',gm (w2.setCell ⟨hb,2,F⟩ v2) τ' aJ i P pb pw sm sh' iv' sv kv K (L++ [(kk,vv)]) B0/\Below B0 w (w2.setCell ⟨hb,2,F⟩ v2)/\(∀k,k<w.heap.size->τ' k=τ k)/\∀k,k<w.heap.size->k≠sm->(∀q':Nat,aK P L q'=Z6->k≠sh q'/\(iv q').ownBlock≠Y k)->(w2.setCell ⟨hb,2,F⟩ v2).heap[k]?=w.heap[k]? :=by
 have hpl:=h.blk.lt;have hml:=h.map.lt;have hlo:=h.lo;have vD:=hm.fr.size;have A8:=vg.size;have Yt:wc.heap.size+1<=w2.heap.size:=by have:=jm.size;simpa using this
 have hhl:=hm.blk.lt;have Ey:=hm.box.lt;have Ob:∀{k a c:Nat},k<w.heap.size->τ k=(aJ,a,c)->(a=8->c≠i*4+q)->k≠hb:=by
  intro k a c hk ht hac e;cases ho:aK P L q with
  |true=>
   have h1:=h.cU q ho;rw[<-(hm.was ho).1,<-e,ht]at h1;simp at h1;exact hac h1.1 h1.2
  |false=>have:=(hm.new ho).1;omega
 have acs:∀{k a c:Nat},τ k=(aJ,a,c)->(a=9->c≠i*4+q)->wV.ownBlock≠Y k:=by
  intro k a c ht hac e;cases ho:aK P L q with
  |true=>
   rw[(hm.was ho).2]at e;have h1:=h.cY q k ho e;rw[ht]at h1;simp at h1;exact hac h1.1 h1.2
  |false=>rw[(hm.new ho).2]at e;cases e
 have Wh:∀k,wV.ownBlock=Y k->B0<=k:=by
  intro k e;cases ho:aK P L q with
  |true=>rw[(hm.was ho).2]at e;exact h.I0 q k ho e
  |false=>rw[(hm.new ho).2]at e;cases e
 have agL:B0<=hb:=by
  cases ho:aK P L q with
  |true=>rw[(hm.was ho).1];exact h.IZ q ho
  |false=>have:=(hm.new ho).1;omega
 have zb:∀k,k<wa.heap.size->k≠hb->wV.ownBlock≠Y k->(w2.setCell ⟨hb,2,F⟩ v2).heap[k]?=wa.heap[k]? :=λk hk h1 h2=>
  (zad _ _ _ _ h1).trans ((jm.block k Yn (λe=>h2 e.symm)).trans ((zae (wc.drewN nq) o k Yn).trans (vg.block k hk)))
 have zo:∀{k a c:Nat},k<w.heap.size->k≠sm->τ k=(aJ,a,c)->(a=8->c≠i*4+q)->(a=9->c≠i*4+q)->(w2.setCell ⟨hb,2,F⟩ v2).heap[k]?=w.heap[k]? :=λhk hs ht h8 h9=>
  (zb _ I (Ob hk ht h8) (acs ht h9)).trans (hm.old _ hk hs)
 have UD:∀{k a c:Nat},τ k=(aJ,a,c)->a≠7->k≠sm:=λht ha e=>by rw[e,h.iD]at ht;simp at ht;omega
 have zh:aT (w2.setCell ⟨hb,2,F⟩ v2) hb #[ptr (pb q),.int .i64 0,v2] 174:=by have h1:aT w2 hb _ _:=hm.blk.of_eq ((jm.block hb Yn (λe=>hrb e.symm)).trans ((zae (wc.drewN nq) o hb Yn).trans (vg.block hb hhl)));simpa using h1.set 2 v2
 have nW:∀k,v2.ownBlock=Y k->wV.ownBlock=Y k\/wc.heap.size<=k:=λk hk=>by
  rcases hA2 with e|e
  ·exact an0 (by rw[<-e];exact hk)
  ·rw[hk]at e;have:=ah9 e;simp at this;exact ak9 I
 have zr:(w2.setCell ⟨hb,2,F⟩ v2).ownsRow 0 70 2 v2 ((bp P L q).length+1) (bl (bp P L q)++ [.string kk,.string vv]):=aI kA (λk hk=>zad _ _ _ _ (λe=>by
  rcases nW k hk with e1|e1
  ·exact hrb (by rw[e1,e])
  ·have:k=hb:=e;omega))
 refine⟨λk=>if k=hb then(aJ,8,i*4+q)else if v2.ownBlock=Y k then(aJ,9,i*4+q)else τ k,λq'=>if q'=q then hb else sh q',λq'=>if q'=q then v2 else iv q',?_,?_,?_,?_⟩
 ·have gQ:∀k,k<w.heap.size->(if k=hb then(aJ,8,i*4+q)else if v2.ownBlock=Y k then(aJ,9,i*4+q)else τ k)=τ k:=by
   intro k hk;by_cases e1:k=hb
   ·rw[if_pos e1];cases ho:aK P L q with
    |true=>rw[e1,(hm.was ho).1,h.cU q ho]
    |false=>have:=(hm.new ho).1;omega
   ·rw[if_neg e1];by_cases e2:v2.ownBlock=Y k
    ·rw[if_pos e2];rcases nW k e2 with e3|e3
     ·cases ho:aK P L q with
      |true=>rw[(hm.was ho).2]at e3;rw[h.cY q k ho e3]
      |false=>rw[(hm.new ho).2]at e3;cases e3
     ·omega
    ·rw[if_neg e2]
  have lU:∀q':Nat,aK P (L++ [(kk,vv)]) q'=Z6->q'≠q->aK P L q'=Z6:=by intro q' ho hne;rw[ql]at ho;have:decide (partOf P kk=(q':Int))=E:=decide_eq_false (by rw[hq];omega);rw[this,ba0]at ho;exact ho
  refine⟨h.blk.of_eq (zo hpl (UD h.tag I) h.tag I I),?_,?_,?_,λq' ho=>?_,λq' ho=>?_,λq' ho=>?_,λq' k ho hk=>?_,aI h.ky (λk hk=>zo (aQ h.ky k hk).2 (UD (h.dV k hk) I) (h.dV k hk) I I),λk hk=>by rw[gQ k (aQ h.ky k hk).2,h.dV k hk],hlo,λq' ho=>?_,λq' k ho hk=>?_,h.Oi⟩
  ·rw[gQ pw hpl,h.tag]
  ·have e1:Ba P (λq'=>if q'=q then hb else sh q') (L++ [(kk,vv)])=upd (Ba P sh L) (.int .i64 q) (ptr hb):=by
    funext kl;by_cases e:kl=.int .i64 q
    ·subst e;rw[upd_same Z5];have:aK P (L++ [(kk,vv)]) q=Z6:=by rw[ql];simp[hq]
     simp[Ba,this]
    ·rw[fS e];cases kl with
     |int kd n=>
      cases kd<;>try rfl
      have hnq:n≠q:=λe'=>e (by rw[e']);have:decide (partOf P kk=n)=E:=decide_eq_false (by rw[hq];exact λe'=>hnq e'.symm);simp only[Ba,ql,this,ba0];by_cases ho:aK P L n=Z6
      ·have hb0:=(dh I ho).1;have:n.toNat≠q:=I
       simp[ho,this]
      ·simp[ho]
     |_=>rfl
   rw[e1];exact hm.map.of_eq (zb sm I (Ob hml h.iD I) (acs h.iD I))
  ·rw[gQ sm hml,h.iD]
  ·by_cases e:q'=q
   ·subst e;simpa using zh
   ·have ho':=lU q' ho e;have hb':=h.MH q' ho';simp only[e,if_false];exact hb'.of_eq (zo hb'.lt (UD (h.cU q' ho') I) (h.cU q' ho') I I)
  ·by_cases e:q'=q
   ·subst e;simp
   ·have ho':=lU q' ho e;have hb':=h.MH q' ho';simp only[e,if_false];rw[gQ _ hb'.lt,h.cU q' ho']
  ·by_cases e:q'=q
   ·subst e;simp only[if_true];rw[uz,if_pos hq,ao4,um];exact zr
   ·have ho':=lU q' ho e;have hr:=h.it q' ho';simp only[e,if_false];rw[uz,if_neg (by rw[hq];omega),List.append_nil];exact aI hr (λk hk=>zo (aQ hr k hk).2 (UD (h.cY q' k ho' hk) I) (h.cY q' k ho' hk) I I)
  ·by_cases e:q'=q
   ·subst e;simp only[if_true]at hk;have:k≠hb:=λe'=>by
     rcases nW k hk with e1|e1
     ·exact hrb (by rw[e1,e'])
     ·omega
    simp[this,hk]
   ·have ho':=lU q' ho e;have hr:=h.it q' ho';simp only[e,if_false]at hk;rw[gQ k (aQ hr k hk).2,h.cY q' k ho' hk]
  ·by_cases e:q'=q
   ·subst e;simpa using agL
   ·simp only[e,if_false];exact h.IZ q' (lU q' ho e)
  ·by_cases e:q'=q
   ·subst e;simp only[if_true]at hk;rcases nW k hk with e1|e1
    ·exact Wh k e1
    ·omega
   ·simp only[e,if_false]at hk;exact h.I0 q' k (lU q' ho e) hk
 ·have h1:=hm.fr;refine⟨jm.os.trans (vg.os.trans h1.os),jm.tape.trans (vg.tape.trans h1.tape),jm.output.trans (vg.output.trans h1.output),by simp[ab1];omega,λk hk=>?_⟩;exact(zb k I I (λe=>by have:=Wh k e;omega)).trans (h1.block k hk)
 ·intro k hk;by_cases e1:k=hb
  ·simp only[e1,if_true];cases ho:aK P L q with
   |true=>rw[(hm.was ho).1,h.cU q ho]
   |false=>have:=(hm.new ho).1;omega
  ·simp only[e1,if_false];by_cases e2:v2.ownBlock=Y k
   ·rw[if_pos e2];rcases nW k e2 with e3|e3
    ·cases ho:aK P L q with
     |true=>rw[(hm.was ho).2]at e3;rw[h.cY q k ho e3]
     |false=>rw[(hm.new ho).2]at e3;cases e3
    ·omega
   ·rw[if_neg e2]
 ·intro k hk hks ZM;refine(zb k I (λe=>?_) (λe=>?_)).trans (hm.old k hk hks)
  ·cases ho:aK P L q with
   |true=>exact(ZM q ho).1 (by rw[e,(hm.was ho).1])
   |false=>have:=(hm.new ho).1;omega
  ·cases ho:aK P L q with
   |true=>exact(ZM q ho).2 (by rw[<-(hm.was ho).2];exact e)
   |false=>rw[(hm.new ho).2]at e;cases e
def UE(h:gm w τ aJ i P pb pw sm sh iv sv kv K L B0)(Ys:1<=P)(S5:P<=4)(kk vv:ah)(q:Nat)(hq:partOf P kk=q)(hL8:L.length<8):
 Calls prog 86 #[ptr pw,.int .i64 q,ptr (pb q),.agg #[.string kk,.string vv]] w λe w'=>e=.returned (.tuple #[])/\
  ∃τ' sh' iv',gm w' τ' aJ i P pb pw sm sh' iv' sv kv K (L++ [(kk,vv)]) B0/\Below B0 w w'/\(∀k,k<w.heap.size->τ' k=τ k)/\∀k,k<w.heap.size->k≠sm->(∀q':Nat,aK P L q'=Z6->k≠sh q'/\(iv q').ownBlock≠Y k)->w'.heap[k]?=w.heap[k]? :=by
 have hq4:q<P:=by have:=iK P kk I;omega
 have hlo:=h.lo
 have hpl:=h.blk.lt
 have hml:=h.map.lt
 have c4:w.cell? ⟨pw,5,F⟩=Y (.map (Y sm)):=h.blk.cell (o:=5) rfl
 have hne:pw≠sm:=dB h.blk h.map
 have hMb:∀o:Obj,aS (w.alloc o) prog 3 sm (Ba P sh L):=λo=>h.map.of_eq (zae _ _ _ hml)
 unfold ptr
 go_enter func86,ntmps86
 obtain⟨fv,aP⟩:∃fv,Ba P sh L (.int .i64 q)=fv:=⟨_,rfl⟩
 go_upto_if 20 with(at_lookup;refine cG _ rfl _ _ 162 rfl 3 168 eV underlying162 (vI _) sm (Ba P sh L) rfl (hMb _) _ (.int .i64 q) rfl (ap1 I I) fv aP ?_)
 go_cut [8,9] (λs8 _ wx=>∃hb wV,s8=.pointer (Y ⟨hb,0,F⟩)/\QF w wx τ aJ i P pb pw sm sh iv L B0 q hb wV kk vv)
 case first=>
  cases ho:aK P L q with
  |true=>
   have e1:fv=Y (.pointer (Y ⟨sh q,0,F⟩)):=by rw[<-aP];simp[Ba,ho];rfl
   clear aP
   subst e1
   go_wp2_with fail
   go_meet
   case rel=>
    have hS:=h.MH q ho
    have hI:=h.it q ho
    refine⟨sh q,iv q,rfl,hS.of_eq (zae _ _ _ hS.lt),aI hI (λk hk=>zae _ _ _ (aQ hI k hk).2),?_,aT.new _ _ _,λk hk _=>zae _ _ _ hk,(ag2 _ _).alloc I _,λ_=>⟨rfl,rfl⟩,λe=>by rw[ho]at e;cases e⟩
    rw[UC ho]
    exact hMb _
  |false=>
   have e1:fv=F:=by rw[<-aP];simp[Ba,ho]
   clear aP
   subst e1
   have xL:∀o o':Obj,aS ((w.alloc o).alloc o') prog 3 sm (Ba P sh L):=λo o'=>(hMb o).of_eq (zae _ _ _ Yn)
   have d4:∀o o':Obj,((w.alloc o).alloc o').cell? ⟨pw,5,F⟩=Y (.map (Y sm)):=λo o'=>(zah (w:=w.alloc o) (zae (w.alloc o) o' pw Yn)).trans ((zah (w:=w) (zae _ _ _ hpl)).trans c4)
   go_wp2_with (at_mapUpdate;refine qc _ rfl _ _ _ 162 rfl 3 168 eV underlying162 sm (Ba P sh L) rfl (xL _ _) jZ (QG S5 Ys) qo _ _ (.int .i64 q) rfl rfl (ap1 I I) ?_;intro w3 KS wQ)
   go_meet
   case rel=>
    have lV:=rO.fU wQ
    have hold:∀k,k<w.heap.size->k≠sm->w3.heap[k]?=w.heap[k]? :=λk hk hkm=>(lV.block k hkm).trans ((zae _ _ _ Yn).trans (zae _ _ _ hk))
    refine⟨w.heap.size+1,.slice F 0 0,?_,?_,?_,?_,?_,hold,?_,λe=>(by rw[ho]at e;cases e),λ_=>⟨I,rfl⟩⟩
    ·simp
    ·have:=(aT.new (w.alloc (.cells #[.string kk,.string vv] 70)) #[ptr (pb q),.int .i64 0,.slice F 0 0] 174).of_eq (w':=w3) (lV.block _ Yn)
     simpa using this
    ·rw[FB ho]
     exact ak3 _ _ _ _
    ·exact KS
    ·exact((aT.new w #[.string kk,.string vv] 70).of_eq (zae _ _ _ XI)).of_eq (lV.block _ I)
    ·refine⟨lV.os,lV.tape,lV.output,by rw[lV.size];simp;omega,λk hk=>hold k I I⟩
 case rest=>
  obtain⟨hb,wV,rfl,hm⟩:=hcut
  rename af=>wa
  have b0:wa.cell? ⟨w.heap.size,0,F⟩=Y (.string kk):=hm.box.cell (o:=0) rfl
  have b1:wa.cell? ⟨w.heap.size,1,F⟩=Y (.string vv):=hm.box.cell (o:=1) rfl
  have kR:=hm.box.lt
  clear aP
  have vg:Below wa.heap.size wa wa:=ag2 _ _
  obtain⟨ii,hi,hz0,Ff,Iq⟩:=aj4 UA
  obtain⟨av,jU,hiv⟩:=bI hm.row
  have hhl:=hm.blk.lt
  have hsx:=vg.size
  have tK:aT wa hb #[ptr (pb q),.int .i64 0,wV] 174:=hm.blk.of_eq (vg.block _ hhl)
  have c2:wa.cell? ⟨hb,2,F⟩=Y wV:=tK.cell (o:=2) rfl
  have hrow:wa.ownsRow 0 70 2 wV (bp P L q).length (bl (bp P L q)):=aI hm.row (λk hk=>vg.block k (aQ hm.row k hk).2)
  have hn8:(bp P L q).length<8:=Nat.lt_of_le_of_lt (oz _ _ _) hL8
  have hrb:wV.ownBlock≠Y hb:=λe=>by
   obtain⟨_,h2⟩:=hm.row;rcases h2 with⟨e',_⟩|⟨g,cp,cu,e',_,hg,_⟩
   ·rw[e']at e;cases e
   ·rw[e']at e;cases e;have h3:wa.heap[g]?=Y (.cells _ 174 (0,0)):=hm.blk;rw[h3]at hg;cases hg
  have HD:Hid (∀(w2:af) (v2:aj) (nq:Nat) (o:Obj),w2.ownsRow 0 70 2 v2 ((bp P L q).length+1) (bl (bp P L q)++ [.string kk,.string vv])->((wa.drewN nq).alloc o).grownBy w2 wV.ownBlock->(v2.ownBlock=wV.ownBlock\/v2.ownBlock=Y ((wa.drewN nq).alloc o).heap.size)->
   ∃τ' sh' iv',gm (w2.setCell ⟨hb,2,F⟩ v2) τ' aJ i P pb pw sm sh' iv' sv kv K (L++ [(kk,vv)]) B0/\Below B0 w (w2.setCell ⟨hb,2,F⟩ v2)/\(∀k,k<w.heap.size->τ' k=τ k)/\∀k,k<w.heap.size->k≠sm->(∀q':Nat,aK P L q'=Z6->k≠sh q'/\(iv q').ownBlock≠Y k)->(w2.setCell ⟨hb,2,F⟩ v2).heap[k]?=w.heap[k]?):=
   λw2 v2 nq o a1 a2 a3=>QH h hm Ys hq hq4 S5 vg a1 a2 a3 hrb
  have hbg:∀(w2:af) (nq:Nat) (o:Obj),((wa.drewN nq).alloc o).grownBy w2 wV.ownBlock->aT w2 hb #[ptr (pb q),.int .i64 0,wV] 174:=λw2 nq o hG=>tK.of_eq ((hG.block hb Yn (λe=>hrb e.symm)).trans (zae (wa.drewN nq) o hb Yn))
  have HBG:Hid _:=hbg
  have c2a:∀(o:Obj) (nq:Nat),((wa.drewN nq).alloc o).cell? ⟨hb,2,F⟩=Y wV:=λo nq=>(zah (w:=wa.drewN nq) (zae (wa.drewN nq) o hb Yn)).trans c2
  have c2b:∀(o:Obj),(wa.alloc o).cell? ⟨hb,2,F⟩=Y wV:=λo=>(zah (w:=wa) (zae wa o hb I)).trans c2
  clear hbg c2a
  subst hiv
  generalize (bp P L q).length=n at *
  generalize bl (bp P L q)=xs at *
  go_upto_region 5 with(fail)
  go_region_law (refine eN rfl (.tmp 34) (.tmp 36) 68 rfl 0 70 ii _ 2 32 underlying68 hi hz0 Ff Iq rfl Yo (.slice av n jU) n xs rfl (hrow.alloc _) ⟨_,0,F⟩ 1 1 [.string kk,.string vv] rfl rfl (cell_two_new _ _ _ _) (by simp[Value.oneCell']) (by unfold ae0;omega) I (zaj _) ?_;intro v2 w2 kA jm Ie hA2;have fG:=HBG.out w2 _ _ jm;have d2:=fG.cell (o:=2) (v:=.slice av n jU) rfl;have e2:=fG.frozen 2;obtain⟨g2,cap2,nW,-⟩:=aZ kA I;rw[nW])
  all_goals
   go_wp2_with fail
   go_end0
   rw[<-nW]
   exact⟨rfl,HD.out w2 v2 1 _ kA jm hA2⟩
end
end
section
open Go Go.RowKit Go.MuLone
section
variable {w:af}
def yM(l:List UInt8)(b:UInt8):j7 (l++ [b])=IntKind.u64.wrap (IntKind.u64.wrap (j7 l*31)+(b.toNat:Int)):=by simp[j7]
def yN(l:List UInt8):∃h:Nat,j7 l=h/\h<18446744073709551616:=by
 have key:∀(l:List UInt8) (g:Int),(0<=g/\g<18446744073709551616)->0<=l.foldl (λh b=>IntKind.u64.wrap (IntKind.u64.wrap (h*31)+(b.toNat:Int))) g/\l.foldl (λh b=>IntKind.u64.wrap (IntKind.u64.wrap (h*31)+(b.toNat:Int))) g<18446744073709551616:=by
  intro l;induction l with
  |nil=>exact λg h=>h
  |cons x l ih=>
   intro g hg;simp only[List.foldl_cons];refine ih _ ?_;rw[IntKind.wrap_u64];omega
 have:=key l 0 I;exact⟨(j7 l).toNat,by unfold j7;omega,by unfold j7;omega⟩
def M0(s:ah)(hs:s.size<=1000):Calls prog 150 #[.string s] w λe w'=>e=.returned (.int .u64 (jH s))/\Below w.heap.size w w':=by
 obtain⟨cb,W,hcv,hB,hcell⟩:=zq (P:=prog) w 9 116 5 s underlying9 underlying116 underlying5;go_enter func150,ntmps150;go_wp2;go_loop [3,9] (λm i=>∃(k:Nat) (h:Nat),k<=s.size/\i=.int .i64 k/\m=.int .u64 h/\Hid (j7 (s.data.toList.take k)=h)) (λ_ i=>s.size-(intOf i).toNat)
 case atStart=>exact⟨0,0,zaj _,rfl,rfl,rfl⟩
 case round=>
  obtain⟨k,h,hk,rfl,rfl,HH⟩:=hrel;by_cases hlt:k<s.size
  ·have ck:=hcell k hlt;have hb:=s[k].toNat_lt;have HS:Hid (j7 (s.data.toList.take (k+1))=IntKind.u64.wrap (IntKind.u64.wrap ((h:Int)*31)+(s[k].toNat:Int))):=by
    unfold Hid;have e:s.data.toList.take (k+1)=s.data.toList.take k++ [s[k]]:=by
     rw[List.take_add_one];have:s.data.toList[k]?=Y s[k]:=by rw[Array.getElem?_toList];exact Array.getElem?_eq_getElem hlt
     rw[this];rfl
    rw[e,yM,HH.out]
   generalize s[k]=c at *;clear hcell;go_wp2;go_round
   case rel=>
    obtain⟨h2,e2,_⟩:=yN (s.data.toList.take (k+1));refine⟨k+1,h2,I,by go_num,?_,e2⟩;have e3:=HS.out;rw[e2]at e3;rw[e3]
   case measure=>simp[intOf];omega
  ·clear hcell;have hks:k=s.size:=I
   have HB:Hid (jH s=IntKind.u64.wrap (2 ^((h:Int)% 64).toNat)):=by unfold Hid jH;rw[<-HH.out,hks,zan (Nat.le_of_eq (by rw[zak];rfl))]
   go_wp2;go_ret;rw[HB.out];exact⟨rfl,hB⟩
def Jk(a:Option aA)(L:List ah)(cap:Nat)(h8:L.length<=8)(hz:∀x∈L,x.size<=8)(hcell:∀(k:Nat) (x:ah),L[k]?=Y x->∃gb,a=Y ⟨gb,0,F⟩/\w.cell? ⟨gb,k,F⟩=Y (.string x)):
 Calls prog 130 #[.slice a L.length cap] w λe w'=>e=.returned (.int .u64 (mV L))/\Below w.heap.size w w':=by
 go_enter func130,ntmps130;go_wp2_with fail
 go_loopw [3,8] (λm u wr=>∃(k:Nat) (h:Int),k<=L.length/\u=.int .i64 k/\m=.int .u64 h/\Below w.heap.size w wr/\Hid (mV (L.take k)=h)) (λ_ u _=>L.length-(intOf u).toNat)
 case atStart=>exact⟨0,0,zaj _,rfl,rfl,ag2 _ _,rfl⟩
 case round=>
  obtain⟨k,h,hk,rfl,rfl,hB,HH⟩:=hrel;by_cases hlt:k<L.length
  ·have hx:L[k]?=Y L[k]:=zag hlt;obtain⟨gb,rfl,c1⟩:=hcell k _ hx;have hgb:gb<w.heap.size:=zai w _ c1;have Yp:=(hB.cell (p:=⟨gb,k,F⟩) hgb).trans c1;have hzk:=hz _ (zam hlt);have HM:Hid (mV (L.take (k+1))=VO h (jH L[k])):=by unfold Hid;rw[List.take_add_one,hx];show mV (L.take k++ [L[k]])=_;rw[<-HH.out];unfold mV;rw[List.foldl_append];rfl
   generalize L[k]=x at *;have cb:=M0 (w:=wr) x I;clear hcell c1 hx hz;generalize jH x=bx at *;go_wp2_with fail
   refine cb.mono ?_;rintro e w2 ⟨rfl,eH⟩;clear cb;go_wp2_with fail
   go_roundw
   case rel=>exact⟨k+1,_,I,by go_num,rfl,hB.trans (eH.mono hB.size),HM.out⟩
   case measure=>simp[intOf];omega
  ·clear hcell;have hks:k=L.length:=I
   have HE:Hid (mV L=h):=by have:=HH.out;rw[hks,an6]at this;exact this
   go_wp2_with fail
   go_ret;rw[HE.out];exact⟨rfl,hB⟩
def zA(mode:Int)(a:Option aA)(L:List ah)(cap:Nat)(h8:L.length<=8)(hz:∀x∈L,x.size<=8)(hcell:∀(k:Nat) (x:ah),L[k]?=Y x->∃gb,a=Y ⟨gb,0,F⟩/\w.cell? ⟨gb,k,F⟩=Y (.string x)):
 Calls prog 87 #[.int .i64 mode,.slice a L.length cap] w λe w'=>(∃sv,e=.returned sv/\Wi mode (.slice a L.length cap) L sv)/\Below w.heap.size w w':=by
 have cm:=Jk (w:=w) a L cap h8 hz hcell;clear hcell hz;generalize L.length=n at *;by_cases h1:mode=1
 ·subst h1;go_enter func87,ntmps87;go_wp2_with fail
  go_ret;exact⟨⟨_,rfl,an0 ⟨rfl,rfl⟩⟩,ag2 _ _⟩
 ·have e1:(mode == 1)=E:=beq_eq_false_iff_ne.2 h1;by_cases h3:mode=3
  ·subst h3;generalize hm:mV L=mk at cm;go_enter func87,ntmps87;go_wp2_with fail
   refine cm.mono ?_;rintro e w2 ⟨rfl,hB⟩;clear cm;go_wp2_with fail
   go_ret;exact⟨⟨_,rfl,ak9 (an0 ⟨rfl,by rw[hm];rfl⟩)⟩,hB⟩
  ·have e3:(mode == 3)=E:=beq_eq_false_iff_ne.2 h3;have HN:Hid (mode≠1/\mode≠3):=⟨h1,h3⟩
   clear cm h1 h3;go_enter func87,ntmps87;go_wp2_with fail
   go_ret;exact⟨⟨_,rfl,ak9 (ak9 ⟨HN.out.1,HN.out.2,rfl⟩)⟩,ag2 _ _⟩
def uC(mode:Int)(a:Option aA)(n cap:Nat)(hn:n<=8):
 Calls prog 72 #[.int .i64 mode,.slice a n cap] w λe w'=>e=.returned (.bool (decide (mode=2)&& decide (1<n)))/\w'=w:=by
 by_cases h1:mode=2
 ·subst h1;by_cases h2:1<n
  ·go_enter func72,ntmps72;go_wp2_with fail
   go_ret;exact⟨cJ Yn,rfl⟩
  ·go_enter func72,ntmps72;go_wp2_with fail
   go_ret;exact⟨cJ Yn,rfl⟩
 ·have e1:(mode == 2)=E:=beq_eq_false_iff_ne.2 h1;have Hr:Hid ((decide (mode=2)&& decide (1<n))=E):=by unfold Hid;simp[h1]
  clear h1;go_enter func72,ntmps72;go_wp2_with fail
  go_ret;exact⟨cJ Hr.out.symm,rfl⟩
end
end
section
open Go Go.RowKit Go.MuLone
open Go.Maps (Keyed)
section
variable {w:af}{τ:Nat->Tag}{aJ i P:Nat}{pb:Nat->Nat}{pw sm:Nat}{sh:Nat->Nat}{iv:Nat->aj}{sv kv:aj}{K:List ah}{L:List KV}{B0:Nat}
def gm.below(h:gm w τ aJ i P pb pw sm sh iv sv kv K L B0)(hB:Below w.heap.size w w'):gm w' τ aJ i P pb pw sm sh iv sv kv K L B0:=
 ⟨h.blk.of_eq (hB.block _ h.blk.lt),h.tag,h.map.of_eq (hB.block _ h.map.lt),h.iD,λq ho=>(h.MH q ho).of_eq (hB.block _ (h.MH q ho).lt),h.cU,λq ho=>aI (h.it q ho) (λk hk=>hB.block k (aQ (h.it q ho) k hk).2),h.cY,aI h.ky (λk hk=>hB.block k (aQ h.ky k hk).2),h.dV,h.lo,h.IZ,h.I0,h.Oi⟩
def gm.frame(h:gm w τ aJ i P pb pw sm sh iv sv kv K L B0)(hB:∀k,B0<=k->k<w.heap.size->w'.heap[k]?=w.heap[k]?):gm w' τ aJ i P pb pw sm sh iv sv kv K L B0:=
 ⟨h.blk.of_eq (hB _ h.lo.1 h.blk.lt),h.tag,h.map.of_eq (hB _ h.lo.2 h.map.lt),h.iD,λq ho=>(h.MH q ho).of_eq (hB _ (h.IZ q ho) (h.MH q ho).lt),h.cU,λq ho=>aI (h.it q ho) (λk hk=>hB k (h.I0 q k ho hk) (aQ (h.it q ho) k hk).2),h.cY,aI h.ky (λk hk=>hB k (h.Oi k hk) (aQ h.ky k hk).2),h.dV,h.lo,h.IZ,h.I0,h.Oi⟩
def UF(P:Nat)(sh:Nat->Nat):Ba P sh []=λ_=>F:=by
 funext kl;cases kl with
 |int k n=>cases k<;>simp[Ba,aK]
 |_=>rfl
def gm.made(w:af)(τ:Nat->Tag)(aJ i P:Nat)(pb:Nat->Nat):
 gm ((w.alloc (.map #[] 0)).alloc (.cells #[fH,gy,.int .i64 ((i:Int)+1),.nilIface,.bool E,.map (Y w.heap.size)] 164))
  (λk=>if k=w.heap.size+1 then(aJ,6,i)else if k=w.heap.size then(aJ,7,i)else τ k) aJ i P pb (w.heap.size+1) w.heap.size (λ_=>0) (λ_=>.slice F 0 0) .nilIface (.slice F 0 0) [] [] w.heap.size:=by
 refine⟨?_,XI,?_,XI,λq ho=>by simp[aK]at ho,λq ho=>by simp[aK]at ho,λq ho=>by simp[aK]at ho,λq k ho=>by simp[aK]at ho,ak3 _ _ _ _,λk hk=>(by cases hk),⟨I,I⟩,λq ho=>by simp[aK]at ho,λq k ho=>by simp[aK]at ho,λk hk=>(by cases hk)⟩
 ·have:=aT.new (w.alloc (.map #[] 0)) #[fH,gy,.int .i64 ((i:Int)+1),.nilIface,.bool E,.map (Y w.heap.size)] 164
  simpa using this
 ·rw[UF]
  exact(aS.made w prog 3).of_eq (zae _ _ _ XI)
def FC:(prog.info? 9).map (λi=>(i.zero,i.size,i.bytes))=Y (Y (.string aj5),1,16):=Yl
def gm.key(h:gm w τ aJ i P pb pw sm sh iv sv kv K L B0){x:ah}(qQ:B0<=w.heap.size)
 (hO:w2.ownsRow 0 9 1 v2 (K.length+1) (K.map aj3++ [.string x])) (hG:(w.alloc o).grownBy w2 kv.ownBlock) (hA:v2.ownBlock=kv.ownBlock\/v2.ownBlock=Y (w.alloc o).heap.size):
 ∃τ',gm w2 τ' aJ i P pb pw sm sh iv sv v2 (K++ [x]) L B0/\Below B0 w w2/\∀k,k<w.heap.size->τ' k=τ k:=by
 have hsz:w.heap.size<w2.heap.size:=by have:=hG.size;simp at this;omega
 have hnb:∀k,v2.ownBlock=Y k->kv.ownBlock=Y k\/w.heap.size<k:=λk hk=>by
  rcases hA with e|e
  ·exact an0 (by rw[<-e];exact hk)
  ·rw[hk]at e;have:=ah9 e;simp at this;exact ak9 I
 have hold:∀{k:Nat} {g:Nat×Nat},k<w.heap.size->τ k=(aJ,g)->g.1≠15->w2.heap[k]?=w.heap[k]? :=fun{k g} hk ht hg=>
  (hG.block k Yn (λe=>by have:=h.dV k e.symm;rw[ht]at this;simp at this;exact hg (by rw[this]))).trans (zae _ _ _ hk)
 have gQ:∀k,k<w.heap.size->(if v2.ownBlock=Y k then(aJ,15,i)else τ k)=τ k:=λk hk=>by
  by_cases e:v2.ownBlock=Y k
  ·rw[if_pos e];rcases hnb k e with e1|e1
   ·rw[h.dV k e1]
   ·omega
  ·rw[if_neg e]
 refine⟨λk=>if v2.ownBlock=Y k then(aJ,15,i)else τ k,⟨h.blk.of_eq (hold h.blk.lt h.tag XI),(gQ _ h.blk.lt).trans h.tag,h.map.of_eq (hold h.map.lt h.iD XI),(gQ _ h.map.lt).trans h.iD,
  λq ho=>(h.MH q ho).of_eq (hold (h.MH q ho).lt (h.cU q ho) XI),λq ho=>(gQ _ (h.MH q ho).lt).trans (h.cU q ho),λq ho=>aI (h.it q ho) (λk hk=>hold (aQ (h.it q ho) k hk).2 (h.cY q k ho hk) XI),
  λq k ho hk=>(gQ k (aQ (h.it q ho) k hk).2).trans (h.cY q k ho hk),by simpa using hO,λk hk=>if_pos hk,h.lo,h.IZ,h.I0,λk hk=>?_⟩,⟨hG.os,hG.tape,hG.output,I,λk hk=>?_⟩,gQ⟩
 ·rcases hnb k hk with e|e
  ·exact h.Oi k e
  ·omega
 ·exact(hG.block k Yn (λe=>by have:=h.Oi k e.symm;omega)).trans (zae _ _ _ I)
def gm.carry(h:gm w τ aJ i P pb pw sm sh iv sv kv K L B0)(sv':aj):gm (w.setCell ⟨pw,3,F⟩ sv') τ aJ i P pb pw sm sh iv sv' kv K L B0:=by
 have hne:∀{k:Nat} {g:Nat×Nat},τ k=(aJ,g)->g.1≠6->(w.setCell ⟨pw,3,F⟩ sv').heap[k]?=w.heap[k]? :=fun{k g} ht hg=>zad _ _ _ _ (λe=>by have e':k=pw:=e;rw[e',h.tag]at ht;simp at ht;exact hg (by rw[<-ht]))
 refine⟨?_,h.tag,h.map.of_eq (hne h.iD XI),h.iD,λq ho=>(h.MH q ho).of_eq (hne (h.cU q ho) XI),h.cU,λq ho=>aI (h.it q ho) (λk hk=>hne (h.cY q k ho hk) XI),h.cY,aI h.ky (λk hk=>hne (h.dV k hk) XI),h.dV,h.lo,h.IZ,h.I0,h.Oi⟩;have:=h.blk.set 3 sv';simpa using this
def Df(b:Nat)(mode:Int)(cm:w.cell? ⟨b,0,F⟩=Y (.int .i64 mode))(cR:aj)(cs:w.cell? ⟨b,1,F⟩=Y cR)(S6:w.ownsRow 0 130 1 cR P ((ab8 P).map (λq=>ptr (pb q))))(Ys:1<=P)(S5:P<=4)(gb go cap:Nat)(h1:1<=L.length)(h8:L.length<=8)(hg:∀x∈L,eD x=Z6)
 (hcell:∀(k:Nat) (x:KV),L[k]?=Y x->w.cell? ⟨gb,go+k*2,F⟩=Y (.string x.1)/\w.cell? ⟨gb,go+k*2+1,F⟩=Y (.string x.2)):
 Calls prog 48 #[ptr b,.int .i64 ((i:Int)+1),.slice (Y ⟨gb,go,F⟩) L.length cap] w λe w'=>∃τ' pw sm sh iv sv kv,e=.returned (ptr pw)/\gm w' τ' aJ i P pb pw sm sh iv sv kv (L.map al0) L w.heap.size/\Wi mode kv (L.map al0) sv/\Below w.heap.size w w'/\∀k,k<w.heap.size->τ' k=τ k:=by
 have kR:=zai w _ cs;simp only at kR;obtain⟨pg,pc,hpv,_,hpc,zz,_⟩:=aZ S6 I;subst hpv;have QI:pg<w.heap.size:=(aQ S6 pg rfl).2;have hpq:∀q,q<P->w.cell? ⟨pg,q,F⟩=Y (.pointer (Y ⟨pb q,0,F⟩)):=λq hq=>by rw[zz q I,ai8,List.getElem?_range hq];rfl
 have hmm:=@run_makeMap prog;obtain⟨si,hsi,sz0,sz1,sz2⟩:=aj4 FC;clear zz;unfold ptr;go_enter func48,ntmps48;go_wp2_with fail
 go_loopw [8,19] (λs8 u wr=>∃(k:Nat) (τ':Nat->Tag) (sh:Nat->Nat) (iv:Nat->aj),k<=L.length/\u=.int .i64 k/\gm wr τ' aJ i P pb (w.heap.size+1) w.heap.size sh iv .nilIface s8 ((L.take k).map al0) (L.take k) w.heap.size/\Below w.heap.size w wr/\Hid (∀k,k<w.heap.size->τ' k=τ k)) (λ_ u _=>L.length-(intOf u).toNat)
 case atStart=>
  refine⟨0,_,_,_,zaj _,rfl,gm.made w τ aJ i P pb,?_,λk hk=>?_⟩
  ·exact((ag2 _ _).alloc (zaf _) _).alloc XI _
  ·have e1:k≠w.heap.size+1:=I
   have e2:k≠w.heap.size:=I
   simp[e1,e2]
 case round=>
  obtain⟨k,τ1,sh1,iv1,hk,rfl,hW,hB,HT⟩:=hrel;by_cases hlt:k<L.length
  ·have hx:L[k]?=Y L[k]:=zag hlt;obtain⟨c1,c2⟩:=hcell k _ hx;have hgb:gb<w.heap.size:=zai w _ c1;have Yp:=(hB.cell (p:=⟨gb,go+k*2,F⟩) hgb).trans c1;have c2':=(hB.cell (p:=⟨gb,go+k*2+1,F⟩) hgb).trans c2;have zv:=gl (hg _ (zam hlt));have HTk:Hid (L.take (k+1)=L.take k++ [L[k]]):=aj9 hlt;generalize L[k]=x at *;obtain⟨kk,vv⟩:=x;simp only at Yp c2' zv;have hbd:=iK P kk I;obtain⟨q,hq⟩:∃q:Nat,partOf P kk=q:=⟨(partOf P kk).toNat,I⟩
   have hqP:q<P:=I
   have QJ:=hpq q hqP;clear hcell c1 c2 hpq hx;go_upto_region 6 with(fail)
   have Mm:Below w.heap.size w (wr.alloc (.cells #[.string kk,.string vv] 70)):=hB.alloc hB.size _;have hBr:Below wr.heap.size wr (wr.alloc (.cells #[.string kk,.string vv] 70)):=(ag2 _ _).alloc (zaf _) _;have b0:(wr.alloc (.cells #[.string kk,.string vv] 70)).cell? ⟨wr.heap.size,0,F⟩=Y (.string kk):=(aT.new wr _ _).cell (o:=0) rfl;have b1:(wr.alloc (.cells #[.string kk,.string vv] 70)).cell? ⟨wr.heap.size,1,F⟩=Y (.string vv):=(aT.new wr _ _).cell (o:=1) rfl;have Yu:wr.heap.size< (wr.alloc (.cells #[.string kk,.string vv] 70)).heap.size:=XI
   generalize wr.alloc (.cells #[.string kk,.string vv] 70)=wa at *;go_cut [11] (λSP wx=>∃ob,SP=.pointer (Y ⟨ob,0,F⟩)/\aT wx ob #[.string kk,.string vv] 70/\Below wa.heap.size wa wx/\wa.heap.size<=ob)
   case first=>
    have vJ:Below wa.heap.size wa wa.drew:=(ag2 _ _).drew;go_region_held3 (λW=>W.cell? ⟨wr.heap.size,0,F⟩=Y (.string kk)/\W.cell? ⟨wr.heap.size,1,F⟩=Y (.string vv)) (first|(simp[*];done)|(refine⟨?_,?_⟩ <;>(rw[zah (w:=w2) (zae w2 _ _ (by have:=vJ.size;omega))];assumption))|(refine⟨?_,?_⟩ <;>(rw[zah (w:=wa.drew) (zae wa.drew _ _ (by have:=vJ.size;omega))];assumption))|(refine⟨?_,?_⟩ <;>(rw[jA (by simp only;omega),jA (by simp only;omega)];assumption))|(go_keep;done)) ((go_at_call 85;refine(B1 _ I).mono ?_;rintro e w2 ⟨rfl,eH⟩;have hnx:Below wa.heap.size wa w2:=(by first|exact vJ.trans (eH.mono vJ.size)|exact(vJ.alloc vJ.size _).trans (eH.mono (Nat.le_trans vJ.size XI)));have q0:=(hnx.cell (p:=⟨wr.heap.size,0,F⟩) Yu).trans b0;have q1:=(hnx.cell (p:=⟨wr.heap.size,1,F⟩) Yu).trans b1;have vJ:=hnx;have alx:wa.heap.size<=w2.heap.size:=hnx.size;have aly:wr.heap.size<w2.heap.size:=Nat.lt_of_lt_of_le Yu hnx.size;first|(have r9:=QE eH hown;clear hown;have hown:=r9;have r0:=hown.cell (o:=0) (v:=.string ⟨#[]⟩) rfl;have r1:=hown.cell (o:=1) (v:=.string ⟨#[]⟩) rfl;have r2:=hown.frozen 0;have r3:=hown.frozen 1)|(have hown:=QD eH;have r0:=hown.cell (o:=0) (v:=.string ⟨#[]⟩) rfl;have r1:=hown.cell (o:=1) (v:=.string ⟨#[]⟩) rfl;have r2:=hown.frozen 0;have r3:=hown.frozen 1)|(have hown:=UB eH;have r0:=hown.cell (o:=0) (v:=.string ⟨#[]⟩) rfl;have r1:=hown.cell (o:=1) (v:=.string ⟨#[]⟩) rfl;have r2:=hown.frozen 0;have r3:=hown.frozen 1)|skip))
    ·go_wp2_with fail
     go_meet
     case rel=>exact⟨w2.heap.size,rfl,aT.new _ _ _,vJ.alloc vJ.size _,vJ.size⟩
    ·go_wp2_with fail
     go_meet
     case rel=>
      exact⟨_,rfl,KU hown kk vv,(vJ.setCell (p:=⟨_,0,F⟩) (by simp only;omega) _).setCell (p:=⟨_,1,F⟩) (by simp only;omega) _,I⟩
    ·go_wp2_with fail
     go_meet
     case rel=>
      exact⟨_,rfl,KU hown kk vv,(vJ.setCell (p:=⟨_,0,F⟩) (by simp only;omega) _).setCell (p:=⟨_,1,F⟩) (by simp only;omega) _,I⟩
   case rest=>
    obtain⟨ob,rfl,Ix,vg,hol⟩:=hcut;have Oc:Below w.heap.size w wc:=Mm.trans (vg.mono Mm.size);have acC:Below wr.heap.size wr wc:=hBr.trans (vg.mono hBr.size);have o0:wc.cell? ⟨ob,0,F⟩=Y (.string kk):=Ix.cell (o:=0) rfl;have UG:=sM (w:=wc) b P (Y ⟨pg,0,F⟩) pc kk I I S5 ((Oc.cell (p:=⟨b,1,F⟩) kR).trans cs);unfold ptr at UG;rw[hq]at UG;clear b0 b1;go_wp2_with fail
    refine UG.mono ?_;rintro e w2 ⟨rfl,eH⟩;clear UG;have uw:Below w.heap.size w w2:=Oc.trans (eH.mono Oc.size);have Yv:aT w2 ob #[.string kk,.string vv] 70:=Ix.of_eq (eH.block _ Ix.lt);have i0:w2.cell? ⟨ob,0,F⟩=Y (.string kk):=Yv.cell (o:=0) rfl;have i1:w2.cell? ⟨ob,1,F⟩=Y (.string vv):=Yv.cell (o:=1) rfl;have s1:w2.cell? ⟨b,1,F⟩=Y (.slice (Y ⟨pg,0,F⟩) P pc):=(uw.cell (p:=⟨b,1,F⟩) kR).trans cs;have p1:w2.cell? ⟨pg,q,F⟩=Y (.pointer (Y ⟨pb q,0,F⟩)):=(uw.cell (p:=⟨pg,q,F⟩) QI).trans QJ;have sO:=hW.below (acC.trans (eH.mono acC.size));have ca:=UE (w:=w2.drew) (sO.below (ag2 _ _).drew) Ys S5 kk vv q hq Yn;unfold ptr at ca;have A8:=uw.size;have agR:=Yv.lt;have agS:Hid (∀q':Nat,aK P (L.take k) q'=Z6->ob≠sh1 q'/\(iv1 q').ownBlock≠Y ob):=λq' ho=>⟨λe=>by have:=(hW.MH q' ho).lt;omega,λe=>by have:=(aQ (hW.it q' ho) ob e).2;omega⟩
    have agT:ob≠w.heap.size:=by have:=hW.map.lt;omega
    have HTq:Hid (L.take k++ [(kk,vv)]=L.take (k+1)):=HTk.out.symm;have HKq:Hid ((L.take k).map al0++ [kk]=(L.take (k+1)).map al0):=by unfold Hid;rw[HTk.out];simp
    clear HTk;go_upto_region 8 with(fail)
    go_cut [12] (λTA wx=>∃τ2 ZN ZO,gm wx τ2 aJ i P pb (w.heap.size+1) w.heap.size ZN ZO .nilIface u8 ((L.take k).map al0) (L.take (k+1)) w.heap.size/\Below w.heap.size w wx/\Hid (∀k,k<w.heap.size->τ2 k=τ k)/\wx.cell? ⟨ob,0,F⟩=Y (.string kk))
    case first=>
     go_region_with ((go_at_call 86;refine ca.mono ?_;rintro e w3 ⟨rfl,τ2,ZN,ZO,wW,lV,wQ,KW⟩))
     all_goals
      have HT3:Hid (∀k,k<w.heap.size->τ2 k=τ k):=λk hk=>(wQ k (by show k<w2.heap.size;omega)).trans (HT.out k hk)
      have j0:w3.cell? ⟨ob,0,F⟩=Y (.string kk):=(zah (w:=w2.drew) (KW ob agR agT agS.out)).trans i0
      clear ca wQ KW
      rw[HTq.out]at wW
      go_wp2_with fail
      go_meet
      case rel=>exact⟨τ2,ZN,ZO,wW,uw.drew.trans lV,HT3,j0⟩
    case rest=>
     obtain⟨τ2,ZN,ZO,wW,lV,HT3,j0⟩:=hcut;rename af=>wd
     have FD:((L.take k).map al0).length=k:=by simp;omega
     obtain⟨av,jU,hkv⟩:=bI wW.ky;have Yw:=wW.ky;have HK:Hid (∀(w4:af) (v4:aj) (o:Obj),w4.ownsRow 0 9 1 v4 (k+1) (((L.take k).map al0).map aj3++ [.string kk])->(wd.alloc o).grownBy w4 u8.ownBlock->(v4.ownBlock=u8.ownBlock\/v4.ownBlock=Y (wd.alloc o).heap.size)->
      ∃τ':Nat->Tag,gm w4 τ' aJ i P pb (w.heap.size+1) w.heap.size ZN ZO .nilIface v4 ((L.take (k+1)).map al0) (L.take (k+1)) w.heap.size/\Below w.heap.size wd w4/\∀k,k<wd.heap.size->τ' k=τ2 k):=λw4 v4 o a1 a2 a3=>by rw[<-HKq.out];exact wW.key lV.size (by rw[FD];exact a1) a2 a3
     rw[FD]at Yw hkv;generalize ((L.take k).map al0).map aj3=xs at *;subst hkv;have rF:=lV.size;go_wp2_with (at_builtin;refine wpList_append_own_at _ rfl (.tmp 45) (.tmp 48) 38 rfl 0 9 si _ 1 16 underlying38 hsi sz0 sz1 sz2 rfl Yo (.slice av k jU) k xs rfl (Yw.alloc _) ⟨_,0,F⟩ 1 1 [.string kk] rfl rfl (cell_one_new _ _ _) (by simp[Value.oneCell']) (by unfold ae0;omega) I (zaj _) ?_;intro v4 w4 KL tJ hN4 wH)
     obtain⟨τ4,Yx,sI,H6⟩:=HK.out w4 v4 _ KL tJ wH;have HT4:Hid (∀k,k<w.heap.size->τ4 k=τ k):=λk hk=>(H6 k I).trans (HT3.out k hk);clear H6;go_wp2_with fail
     go_roundw
     case rel=>exact⟨k+1,τ4,ZN,ZO,I,by go_num,Yx,lV.trans sI,HT4⟩
     case measure=>simp[intOf];omega
  ·have AO:k=L.length:=I
   rw[AO,an6]at hW;have cm':=(hB.cell (p:=⟨b,0,F⟩) kR).trans cm;obtain⟨av,jU,hkv⟩:=bI hW.ky;have FD:(L.map al0).length=L.length:=XI
   rw[FD]at hkv;have hkc:∀(j:Nat) (x:ah),(L.map al0)[j]?=Y x->∃gb,av=Y ⟨gb,0,F⟩/\wr.cell? ⟨gb,j,F⟩=Y (.string x):=λj x hx=>by have hj:=aH hx;obtain⟨g,c,e,_,_,hc,_⟩:=aZ hW.ky I;rw[hkv]at e;injection e with e1 e2 e3;refine⟨g,e1,?_⟩;rw[hc j I,ai8,hx];rfl
   have hkz:∀x∈L.map al0,x.size<=8:=λx hx=>by obtain⟨y,hy,rfl⟩:=List.mem_map.1 hx;exact(gl (hg y hy)).2.1
   have csb:=zA (w:=wr) mode av (L.map al0) jU I hkz hkc;rw[FD]at csb;have hpl:=hW.blk.lt;subst hkv;clear hcell hpq AO hkc hkz;go_wp2_with fail
   refine csb.mono ?_;rintro e w2 ⟨⟨sv,rfl,rD⟩,eH⟩;clear csb;have sO:=hW.below eH;have HF:Hid (gm (w2.setCell ⟨w.heap.size+1,3,F⟩ sv) τ1 aJ i P pb (w.heap.size+1) w.heap.size sh1 iv1 sv (.slice av L.length jU) (L.map al0) L w.heap.size):=sO.carry sv;have d3:w2.cell? ⟨w.heap.size+1,3,F⟩=Y .nilIface:=sO.blk.cell (o:=3) rfl;have f3:=sO.blk.frozen 3;have HI:Hid (Wi mode (.slice av L.length jU) (L.map al0) sv):=rD;have HB:Hid (Below w.heap.size w (w2.setCell ⟨w.heap.size+1,3,F⟩ sv)):=(hB.trans (eH.mono hB.size)).setCell (p:=⟨w.heap.size+1,3,F⟩) XI sv;rcases rD.isIf with rfl|⟨st,sx,rfl⟩
   all_goals
    go_wp2_with fail
    go_ret
    exact⟨τ1,w.heap.size+1,w.heap.size,sh1,iv1,_,_,rfl,HF.out,HI.out,HB.out,HT.out⟩
end
def c8(A:SA)(n pw sm:Nat)(sh:Nat->Nat)(iv:Nat->aj)(sv:aj):SA:=
 {A with pw:=λj=>if j=n then pw else A.pw j,sm:=λj=>if j=n then sm else A.sm j,sh:=λj q=>if j=n then sh q else A.sh j q,iv:=λj q=>if j=n then iv q else A.iv j q,sv:=λj=>if j=n then sv else A.sv j}
def gA(s:MS)(L:List KV):MS:={s with ws:=s.ws++ [jg L]}
section
variable {w:af}{τ:Nat->Tag}{aJ b:Nat}{s:MS}{A:SA}{L:List KV}
def eW(hm:(gA s L).ws[i]?=Y m):(i<s.ws.length/\s.ws[i]?=Y m)\/(i=s.ws.length/\m=jg L):=by
 unfold gA at hm;by_cases e:i<s.ws.length
 ·simp only[ag1 e]at hm;exact an0 ⟨e,hm⟩
 ·simp only[List.getElem?_append_right (Nat.le_of_not_lt e)]at hm;have hi':=aH hm;simp at hi';have:i=s.ws.length:=I
  subst this;simp at hm;exact ak9 ⟨rfl,hm.symm⟩
def qp(hn:n≠(s.ws.length:Int)+1):bL (gA s L) n=bL s n:=by
 unfold bL gA;simp only[ao4,List.length_singleton];by_cases h1:n<1\/(s.ws.length:Int)<n
 ·rw[if_pos h1,if_pos I]
 ·rw[if_neg h1,if_neg I,ag1 I]
def qq:bL (gA s L) ((s.ws.length:Int)+1)=Y (jg L):=
 lG (i:=s.ws.length) (by simp[gA]) rfl
def Dg{pw sm:Nat}{sh:Nat->Nat}{iv:Nat->aj}{sv:aj}:cX (gA s L) (c8 A s.ws.length pw sm sh iv sv)=upd (cX s A) (.int .i64 ((s.ws.length:Int)+1)) (ptr pw):=by
 funext kl;by_cases e:kl=.int .i64 ((s.ws.length:Int)+1)
 ·subst e;rw[upd_same Z5];simp only[cX,qq];rw[show ((s.ws.length:Int)+1-1).toNat=s.ws.length from by omega];simp[c8]
 ·rw[fS e];cases kl with
  |int k n=>
   cases k<;>try rfl
   have hn:n≠(s.ws.length:Int)+1:=λe'=>e (by rw[e']);simp only[cX,qp hn];cases hf:bL s n with
   |none=>rfl
   |some m=>
    obtain⟨h1,h2,_⟩:=fy hf;have:(n-1).toNat≠s.ws.length:=I
    simp only[c8,if_neg this]
  |_=>rfl
def I1{pw sm:Nat}{sh:Nat->Nat}{iv:Nat->aj}{sv:aj}(q:Nat):bP (gA s L) (c8 A s.ws.length pw sm sh iv sv) q=bP s A q:=by
 funext kl;cases kl with
 |int k n=>
  cases k<;>try rfl
  by_cases hn:n=(s.ws.length:Int)+1
  ·subst hn;have:bL s ((s.ws.length:Int)+1)=F:=by unfold bL;rw[if_pos I]
   simp only[bP,qq,this,jg];rfl
  ·simp only[bP,qp hn];cases hf:bL s n with
   |none=>rfl
   |some m=>
    obtain⟨h1,h2,_⟩:=fy hf;have:(n-1).toNat≠s.ws.length:=I
    simp only[c8,if_neg this]
 |_=>rfl
def bB.push(h:bB w τ aJ b s A)(Fw:L.length<=8)(I3:∀x∈L,eD x=Z6)(hlen:s.ws.length<200){pw sm:Nat}{sh:Nat->Nat}{iv:Nat->aj}{sv:aj}
 {kv:aj} (UH:Wi s.mode kv (L.map al0) sv) (hp:gm w' τ' aJ s.ws.length s.parts A.pb pw sm sh iv sv kv (L.map al0) L w.heap.size) (ht:∀k,k<w.heap.size->τ' k=τ k)
 (hold:∀k,k<w.heap.size->k≠b->k≠A.wm->w'.heap[k]?=w.heap[k]?)
 (hb:aT w' b #[.int .i64 s.mode,A.cR,fH,gy,.int .i64 ((s.ws.length:Int)+1),.int .i64 s.rs.length,.map (Y A.wm),.map (Y A.R.rm)] 105)
 (hw:aS w' prog 3 A.wm (upd (cX s A) (.int .i64 ((s.ws.length:Int)+1)) (ptr pw))):
 bB w' τ' aJ b (gA s L) (c8 A s.ws.length pw sm sh iv sv):=by
 have hne:∀{k a c:Nat},τ k=(aJ,a,c)->a≠0->a≠5->k<w.heap.size->w'.heap[k]?=w.heap[k]? :=by
  intro k a c htk h0 h5 hk;refine hold k hk (λe=>?_) (λe=>?_)
  ·rw[e,h.tag]at htk;simp at htk;omega
  ·rw[e,h.jh]at htk;simp at htk;omega
 have aiX:∀q,(jg L).cC q=E:=λ_=>rfl;refine⟨⟨h.ok.p1,h.ok.p4,by simp[gA];omega,λj mj hj=>?_,h.ok.keys,h.ok.opn⟩,⟨λj mj q hj hcm=>?_,λj mj q hj Wj=>?_,λj mj q hj hcm=>?_⟩,?_,?_,by rw[ht b h.blk.lt,h.tag],?_,λk hk=>?_,λq hq=>?_,λq hq=>?_,λq hq=>?_,λq hq=>?_,λq hq=>?_,λq hq=>?_,λq hq=>?_,?_,?_,λj mj hj eJ=>?_,λj mj hj eJ=>?_,λj mj hj eJ=>?_,λj mj hj eJ=>?_,λj mj q hj eJ ho=>?_,λj mj q hj eJ ho=>?_,λj mj q hj eJ ho=>?_,λj mj q k hj eJ ho hk=>?_,h.reads.frame (λk hk h1 KC=>⟨hne (a:=(τ k).2.1) (c:=(τ k).2.2) (by rw[<-h1]) I I hk,ht k hk⟩),λj mj hj=>?_⟩
 ·rcases eW hj with⟨_,e⟩|⟨_,rfl⟩
  ·exact h.ok.items j mj e
  ·exact⟨Fw,I3⟩
 ·rcases eW hj with⟨_,e⟩|⟨_,rfl⟩
  ·exact h.inv.cp j mj q e hcm
  ·cases hcm
 ·rcases eW hj with⟨_,e⟩|⟨_,rfl⟩
  ·exact h.inv.po j mj q e Wj
  ·cases Wj
 ·rcases eW hj with⟨_,e⟩|⟨_,rfl⟩
  ·exact h.inv.cc j mj q e hcm
  ·rfl
 ·refine h.told.ws rfl rfl rfl rfl (λj mj hj=>by
   rcases eW hj with⟨hjl,e⟩|⟨rfl,rfl⟩
   ·have:j≠s.ws.length:=I
    simp only[c8,this,if_false];exact h.told.sv j mj e
   ·simpa[c8]using UH.isIf) (λj mj hj=>?_)
  have hjl:=aH hj;have:j≠s.ws.length:=I
  refine⟨mj,?_,rfl,λ_ hq=>hq,by simp[c8,this]⟩;simp only[gA];rw[ag1 hjl];exact hj
 ·have e:((gA s L).ws.length:Int)=(s.ws.length:Int)+1:=by simp[gA]
  rw[e];exact hb
 ·exact aI h.cR (λk hk=>hne (h.eY k hk) I I (aQ h.cR k hk).2)
 ·rw[ht k (aQ h.cR k hk).2,h.eY k hk]
 ·exact(h.part q hq).of_eq (hne (h.dA q hq) I I (h.part q hq).lt)
 ·show τ' (A.pb q)=_;rw[ht _ (h.part q hq).lt,h.dA q hq]
 ·rw[I1];exact(h.kept q hq).of_eq (hne (h.cQ q hq) I I (h.kept q hq).lt)
 ·show τ' (A.kb q)=_;rw[ht _ (h.kept q hq).lt,h.cQ q hq]
 ·exact(h.uA q hq).of_eq (hne (h.fK q hq) I I (h.uA q hq).lt)
 ·show τ' (A.vb q)=_;rw[ht _ (h.uA q hq).lt,h.fK q hq]
 ·refine oB (h.mh q hq) rfl (λj mj hj eJ=>⟨mj,?_,eJ,rfl⟩) (λj mj hj eJ=>?_)
  ·simp only[gA];rw[ag1 (aH hj)];exact hj
  ·rcases eW hj with⟨_,e⟩|⟨_,rfl⟩
   ·exact⟨mj,e,eJ,rfl⟩
   ·cases eJ
 ·rw[Dg];exact hw
 ·show τ' A.wm=_;rw[ht _ h.sN.lt,h.jh]
 ·rcases eW hj with⟨hjl,e⟩|⟨rfl,rfl⟩
  ·have hb':=h.wr j mj e eJ;have:j≠s.ws.length:=I
   simp only[c8,this,if_false];exact hb'.of_eq (hne (h.cM j mj e eJ) I I hb'.lt)
  ·simpa[c8]using hp.blk
 ·rcases eW hj with⟨hjl,e⟩|⟨rfl,rfl⟩
  ·have hb':=h.wr j mj e eJ;have:j≠s.ws.length:=I
   simp only[c8,this,if_false];rw[ht _ hb'.lt,h.cM j mj e eJ]
  ·simpa[c8]using hp.tag
 ·rcases eW hj with⟨hjl,e⟩|⟨rfl,rfl⟩
  ·have hb':=h.QK j mj e eJ;have hjn:j≠s.ws.length:=I
   have e1:bV (gA s L) (c8 A s.ws.length pw sm sh iv sv) j mj=bV s A j mj:=by
    funext kl;cases kl with
    |int k n=>cases k<;>first|rfl|(simp only[bV,c8,hjn,if_false];rfl)
    |_=>rfl
   rw[e1];simp only[c8,hjn,if_false];exact hb'.of_eq (hne (h.jB j mj e eJ) I I hb'.lt)
  ·have e1:bV (gA s L) (c8 A s.ws.length pw sm sh iv sv) s.ws.length (jg L)=Ba s.parts sh L:=by
    funext kl;cases kl with
    |int k n=>cases k<;>first|rfl|(simp only[bV,c8,if_true];rfl)
    |_=>rfl
   rw[e1];simpa[c8]using hp.map
 ·rcases eW hj with⟨hjl,e⟩|⟨rfl,rfl⟩
  ·have hb':=h.QK j mj e eJ;have:j≠s.ws.length:=I
   simp only[c8,this,if_false];rw[ht _ hb'.lt,h.jB j mj e eJ]
  ·simpa[c8]using hp.iD
 ·rcases eW hj with⟨hjl,e⟩|⟨rfl,rfl⟩
  ·have hb':=h.sh j mj q e eJ ho;have:j≠s.ws.length:=I
   simp only[c8,this,if_false];exact hb'.of_eq (hne (h.cU j mj q e eJ ho) I I hb'.lt)
  ·have:=hp.MH q ho;simpa[c8,bO,jg]using this
 ·rcases eW hj with⟨hjl,e⟩|⟨rfl,rfl⟩
  ·have hb':=h.sh j mj q e eJ ho;have:j≠s.ws.length:=I
   simp only[c8,this,if_false];rw[ht _ hb'.lt,h.cU j mj q e eJ ho]
  ·have:=hp.cU q ho;simpa[c8]using this
 ·rcases eW hj with⟨hjl,e⟩|⟨rfl,rfl⟩
  ·have hr:=h.it j mj q e eJ ho;have:j≠s.ws.length:=I
   simp only[c8,this,if_false];exact aI hr (λk hk=>hne (h.cY j mj q k e eJ ho hk) I I (aQ hr k hk).2)
  ·have:=hp.it q ho;simpa[c8,jg,gA]using this
 ·rcases eW hj with⟨hjl,e⟩|⟨rfl,rfl⟩
  ·have hr:=h.it j mj q e eJ ho;have hjn:j≠s.ws.length:=I
   simp only[c8,hjn,if_false]at hk;rw[ht _ (aQ hr k hk).2,h.cY j mj q k e eJ ho hk]
  ·simp only[c8,if_true]at hk;exact hp.cY q k ho hk
 ·rcases eW hj with⟨hjl,e⟩|⟨rfl,rfl⟩
  ·have:j≠s.ws.length:=I
   simp only[c8,this,if_false];exact(h.L2 j mj e).of λk hk htk=>⟨hne htk I I hk,ht k hk⟩
  ·simpa[c8,jg,gA]using UH.ok hp.ky hp.dV
end
section
variable {w:af}{τ:Nat->Tag}{aJ b:Nat}{s:MS}{A:SA}{L:List KV}
def Dh(hlen:s.ws.length<=200):∀kl,cX s A kl≠F->kl∈jZ:=by
 intro kl h;cases kl with
 |int k n=>
  cases k<;>try exact absurd rfl h
  simp only[cX]at h;cases hf:bL s n with
  |none=>rw[hf]at h;exact absurd rfl h
  |some m=>obtain⟨h1,h2,_⟩:=fy hf;exact qn I I
 |_=>exact absurd rfl h
def CW(w:af)(τ:Nat->Tag)(aJ b:Nat)(r:Int×Int×MS)(e:Ending)(w':af):Prop:=
 ∃τ' A',e=.returned (.tuple #[.int .i64 r.1,.int .i64 r.2.1])/\bB w' τ' aJ b r.2.2 A'/\Stp aJ τ w τ' w'
def lf{s:Nat}(h:Below w.heap.size w w'):Stp s τ w τ w':=⟨h.os,h.tape,h.output,h.size,λ_ _=>rfl,λk hk _=>h.block k hk⟩
def FE(h:eu L=0):1<=L.length/\L.length<=8/\∀x∈L,eD x=Z6:=by
 unfold eu at h;split at h
 ·cases h
 ·exact⟨I,I,zj h⟩
def XU(h:bB w τ aJ b s A)(a:Option aA)(cap:Nat)(hL:L.length<=ae0)(Uz:L.length<=cap)(hcm:cap<=ae0)(hz:kS L)(hI:fO w a L)(hf:∀ib io,a=Y ⟨ib,io,F⟩->(τ ib).1≠aJ):
 Calls prog 26 #[ptr b,.slice a L.length cap] w (CW w τ aJ b (dR s L)):=by
 have cc:=zw a L cap hL Uz hcm hz hI;by_cases hc:eu L=0
 ·obtain⟨h1,h8,hg⟩:=FE hc;rw[hc]at cc;obtain⟨gb,go,rfl,hc0,_⟩:=hI 0 L[0] (zag I);have hgb:gb<w.heap.size:=zai w _ hc0;have zv:=hf gb go rfl;have hcell:∀(k:Nat) (x:KV),L[k]?=Y x->w.cell? ⟨gb,go+k*2,F⟩=Y (.string x.1)/\w.cell? ⟨gb,go+k*2+1,F⟩=Y (.string x.2):=λk x hx=>by obtain⟨TS,TT,e,r⟩:=hI k x hx;cases e;exact r
  have hlen:=h.ok.len;have hp1:=h.ok.p1;have IV:=h.ok.p4;by_cases hfull:200<=s.ws.length
  ·have Hr:Hid (dR s L=(0,6,s)):=by unfold Hid dR;rw[hc];simp[hfull]
   unfold ptr;clear hcell hI hf;go_enter_defers func26,ntmps26;go_wp2_with fail
   refine cc.mono ?_;rintro e w1 ⟨rfl,hB⟩;have hR:=h.below hB;have c2:w1.cell? ⟨b,2,F⟩=Y (.int .i32 0):=hR.blk.cell (o:=2) rfl;have f2:=hR.blk.frozen 2;have jd:=hR.blk.set 2 (.int .i32 1);have c4:(w1.setCell ⟨b,2,F⟩ (.int .i32 1)).cell? ⟨b,4,F⟩=Y (.int .i64 s.ws.length):=jd.cell (o:=4) rfl;have eX:=gB hR.blk (o:=2) rfl (.int .i32 1);unfold fH at eX;clear cc;go_wp2_with fail
   refine(ak6 Tryz.bD ⟨b,2,F⟩ _ c2 f2).mono ?_;rintro e w' ⟨rfl,rfl⟩;go_wp2_with fail
   refine ai2 (f:=38) (args:=#[.pointer (Y ⟨b,2,F⟩)]) XI YU ?_;refine(af1 Tryz.bD ⟨b,2,F⟩ .returning _ (jd.cell (o:=2) rfl) (jd.frozen 2)).mono ?_;rintro e u' w'' ⟨rfl,rfl,rfl⟩;rw[Hr.out];exact⟨_,av8 rfl _ _ _,τ,A,rfl,hR.same eX,(lf hB).trans (eX.pS _ _)⟩
  ·have Hr:Hid (dR s L=((s.ws.length:Int)+1,0,gA s L)):=by unfold Hid dR;rw[hc];simp only[ne_eq,not_true,if_false,if_neg hfull];rfl
   unfold ptr;clear hI hf;go_enter_defers func26,ntmps26;go_wp2_with fail
   refine cc.mono ?_;rintro e w1 ⟨rfl,hB⟩;have hR:=h.below hB;have c2:w1.cell? ⟨b,2,F⟩=Y (.int .i32 0):=hR.blk.cell (o:=2) rfl;have f2:=hR.blk.frozen 2;have jd:=hR.blk.set 2 (.int .i32 1);have c4:(w1.setCell ⟨b,2,F⟩ (.int .i32 1)).cell? ⟨b,4,F⟩=Y (.int .i64 s.ws.length):=jd.cell (o:=4) rfl;have f4:(w1.setCell ⟨b,2,F⟩ (.int .i32 1)).frozen? ⟨b,4,F⟩=E:=jd.frozen 4;have fG:=jd.set 4 (.int .i64 ((s.ws.length:Int)+1));clear cc;go_wp2_with fail
   refine(ak6 Tryz.bD ⟨b,2,F⟩ _ c2 f2).mono ?_;rintro e w' ⟨rfl,rfl⟩;have MG:gb≠b:=λe=>zv (by rw[e,h.tag]);have dY:∀k,k≠b->((w1.setCell ⟨b,2,F⟩ (.int .i32 1)).setCell ⟨b,4,F⟩ (.int .i64 ((s.ws.length:Int)+1))).heap[k]?=w1.heap[k]? :=λk hk=>(zad _ _ _ _ hk).trans (zad _ _ _ _ hk);have Yy:((w1.setCell ⟨b,2,F⟩ (.int .i32 1)).setCell ⟨b,4,F⟩ (.int .i64 ((s.ws.length:Int)+1))).heap.size=w1.heap.size:=by simp[ab1]
   have I4:((w1.setCell ⟨b,2,F⟩ (.int .i32 1)).setCell ⟨b,4,F⟩ (.int .i64 ((s.ws.length:Int)+1))).os=w1.os/\((w1.setCell ⟨b,2,F⟩ (.int .i32 1)).setCell ⟨b,4,F⟩ (.int .i64 ((s.ws.length:Int)+1))).tape=w1.tape/\((w1.setCell ⟨b,2,F⟩ (.int .i32 1)).setCell ⟨b,4,F⟩ (.int .i64 ((s.ws.length:Int)+1))).output=w1.output:=⟨rfl,rfl,rfl⟩
   go_wp2_with fail
   generalize (w1.setCell ⟨b,2,F⟩ (.int .i32 1)).setCell ⟨b,4,F⟩ (.int .i64 ((s.ws.length:Int)+1))=wC at *;have s0:wC.cell? ⟨b,0,F⟩=Y (.int .i64 s.mode):=fG.cell (o:=0) rfl;have s1:wC.cell? ⟨b,1,F⟩=Y A.cR:=fG.cell (o:=1) rfl;have s4:wC.cell? ⟨b,4,F⟩=Y (.int .i64 ((s.ws.length:Int)+1)):=fG.cell (o:=4) rfl;have s5:wC.cell? ⟨b,6,F⟩=Y (.map (Y A.wm)):=fG.cell (o:=6) rfl;have FF:wC.ownsRow 0 130 1 A.cR s.parts ((ab8 s.parts).map (λq=>ptr (A.pb q))):=aI hR.cR (λk hk=>dY k (λe=>by have h1:=h.eY k hk;rw[e,h.tag]at h1;simp at h1));have zB:∀(k:Nat) (x:KV),L[k]?=Y x->wC.cell? ⟨gb,go+k*2,F⟩=Y (.string x.1)/\wC.cell? ⟨gb,go+k*2+1,F⟩=Y (.string x.2):=λk x hx=>
    ⟨(zah (w:=w1) (dY gb MG)).trans ((hB.cell (p:=⟨gb,go+k*2,F⟩) hgb).trans (hcell k x hx).1),(zah (w:=w1) (dY gb MG)).trans ((hB.cell (p:=⟨gb,go+k*2+1,F⟩) hgb).trans (hcell k x hx).2)⟩
   have cn:=Df (w:=wC.drew) (τ:=τ) (aJ:=aJ) (i:=s.ws.length) (P:=s.parts) (pb:=A.pb) (L:=L) b s.mode s0 A.cR s1 FF hp1 IV gb go cap h1 h8 hg zB;unfold ptr at cn;have QL:A.wm≠b:=λe=>by have h1:=h.jh;rw[e,h.tag]at h1;simp at h1
   have hMC:aS wC prog 3 A.wm (cX s A):=hR.sN.of_eq (dY _ QL);have Yz:=fG.lt;have hn1: -9223372036854775808<=(s.ws.length:Int)+1:=I
   have hn2:(s.ws.length:Int)+1<=9223372036854775807:=I
   clear hcell zB FF c4 f4 s0;go_region_held3 (λW=>W.cell? ⟨b,4,F⟩=Y (.int .i64 ((s.ws.length:Int)+1))/\W.cell? ⟨b,6,F⟩=Y (.map (Y A.wm))) (simp[*]) ((go_at_call 48;refine cn.mono ?_;rintro e w2 ⟨τ',pw,sm,sh,iv,sv,kv,rfl,hPW,UH,eH,rE⟩;have k4:=(eH.cell (p:=⟨b,4,F⟩) Yz).trans s4;have k5:=(eH.cell (p:=⟨b,6,F⟩) Yz).trans s5;obtain⟨w3,hup,KS,hTu⟩:=(hMC.of_eq (w':=w2) (eH.block _ hMC.lt)).store (t:=102) (e:=118) eV underlying102 jZ (Dh hlen) qo (ap1 hn1 hn2) (.pointer (Y ⟨pw,0,F⟩));have Di:=rO.fU hTu;have m4:=(zah (w:=w2) (a:=⟨b,4,F⟩) (Di.block b (λe=>QL e.symm))).trans k4;have m5:=(zah (w:=w2) (a:=⟨b,6,F⟩) (Di.block b (λe=>QL e.symm))).trans k5))
   clear cn;go_wp2_with fail
   have xM:aT w3 b _ _:=(fG.of_eq (eH.block b Yz)).of_eq (Di.block b (λe=>QL e.symm));refine ai2 (f:=38) (args:=#[.pointer (Y ⟨b,2,F⟩)]) XI YU ?_;refine(af1 Tryz.bD ⟨b,2,F⟩ .returning _ (xM.cell (o:=2) rfl) (xM.frozen 2)).mono ?_;rintro e u' w'' ⟨rfl,rfl,rfl⟩;rw[Hr.out];have I5:wC.drew.heap.size=w1.heap.size:=Yy;rw[I5]at hPW rE;have E4:w1.heap.size<=w2.heap.size:=by have:=eH.size;rw[I5]at this;exact this
   have TN:=hB.size;have hold:∀k,k<w1.heap.size->k≠b->k≠A.wm->(w3.setCell ⟨b,2,F⟩ (.int .i32 0)).heap[k]?=w1.heap[k]? :=λk hk hkb hkm=>
    (zad _ _ _ _ hkb).trans ((Di.block k hkm).trans ((eH.block k (by rw[I5];exact hk)).trans (dY k hkb)))
   have agW:=hR.sN.lt;have kR:=hR.blk.lt;refine⟨_,av8 rfl _ _ _,τ',_,rfl,hR.push h8 hg I (w':=w3.setCell ⟨b,2,F⟩ (.int .i32 0)) UH (hPW.frame (λk hk wN=>(zad _ _ _ _ (by simp only;omega)).trans (Di.block k I))) rE hold ?_ (KS.of_eq (zad _ _ _ _ QL)),?_⟩
   ·have:=xM.set 2 (.int .i32 0);simpa[fH,gy]using this
   ·refine⟨Di.os.trans (eH.os.trans (I4.1.trans hB.os)),Di.tape.trans (eH.tape.trans (I4.2.1.trans hB.tape)),Di.output.trans (eH.output.trans (I4.2.2.trans hB.output)),?_,λk hk=>rE k I,λk hk hs=>?_⟩
    ·have:=Di.size;simp[ab1];omega
    ·exact(hold k I (λe=>hs (by rw[e,h.tag])) (λe=>hs (by rw[e,h.jh]))).trans (hB.block k hk)
 ·have Hr:Hid (dR s L=(0,eu L,s)):=by unfold Hid dR;simp[hc]
  have hne:(eu L != 0)=Z6:=by rw[bne_iff_ne];exact hc
  generalize eu L=c at *;unfold ptr;clear hI hf;go_enter_defers func26,ntmps26;go_wp2_with fail
  refine cc.mono ?_;rintro e w1 ⟨rfl,hB⟩;clear cc;go_wp2_with fail
  rw[Hr.out];exact⟨_,av8 rfl _ _ _,τ,A,rfl,h.below hB,lf hB⟩
end
end
end Go.Proofs.YteoahlieielcdaaGreat
