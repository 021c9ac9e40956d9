import Derived.WalkSpells
import Derived.WalkLawsBesides
import Derived.Deep.RegionLaw
import Derived.BigQuiet
import Derived.Test.YteoahlieielcdaaGreatChecked
import Derived.Conc.Events
set_option linter.all false
namespace Go.Proofs.YteoahlieielcdaaGreat
variable{w w':World}{b s k n i j:Nat}{c:Array Value}{v z:Value}{xs:List Value}{key x:ByteArray}{kl k':Lit}
section
open Go Go.RowKit
def aT(w:World)(b:Nat)(c:Array Value)(t:TypeId):Prop:=w.heap[b]?=some (.cells c t (0,0))
theorem aT.cell{w:World}{b:Nat}{c:Array Value}{t:TypeId}(h:aT w b c t){o:Nat}{v:Value}(hv:c[o]?=some v):w.cell? ⟨b,o,none⟩=some v:=by unfold aT at h;simp[World.cell?,h,hv]
theorem aT.frozen{w:World}{b:Nat}{c:Array Value}{t:TypeId}(h:aT w b c t)(o:Nat):w.frozen? ⟨b,o,none⟩=false:=by unfold aT at h;simp[World.frozen?,h]
theorem aT.lt{t:TypeId}(h:aT w b c t):b<w.heap.size:=(Array.getElem?_eq_some_iff.1 h).1
theorem aT.of_eq{t:TypeId}(h:aT w b c t)(e:w'.heap[b]?=w.heap[b]?):aT w' b c t:=e.trans h
theorem aT.set{t:TypeId}(h:aT w b c t)(o:Nat)(v:Value):aT (w.setCell ⟨b,o,none⟩ v) b (c.setIfInBounds o v) t:=by unfold aT at h⊢;simp only[World.setCell,Array.getElem?_modify,h];simp
theorem aT.new(w:World)(c:Array Value)(t:TypeId):aT (w.alloc (.cells c t)) w.heap.size c t:=by show (w.heap.push _)[w.heap.size]?=_;simp
abbrev Tag:=Nat×Nat×Nat
structure Stp(s:Nat)(τ:Nat->Tag)(w:World)(τ':Nat->Tag)(w':World):Prop where
 os:w'.os=w.os
 tape:w'.tape=w.tape
 output:w'.output=w.output
 size:w.heap.size<=w'.heap.size
 tag:∀k,k<w.heap.size->τ' k=τ k
 block:∀k,k<w.heap.size->(τ k).1≠s->w'.heap[k]?=w.heap[k]?
theorem Stp.refl(s:Nat)(τ:Nat->Tag)(w:World):Stp s τ w τ w:=⟨rfl,rfl,rfl,Nat.le_refl _,fun _ _=>rfl,fun _ _ _=>rfl⟩
theorem Stp.trans{s:Nat}{τ τ1 τ2:Nat->Tag}{w w1 w2:World}(h:Stp s τ w τ1 w1)(k:Stp s τ1 w1 τ2 w2):Stp s τ w τ2 w2:=
 ⟨k.os.trans h.os,k.tape.trans h.tape,k.output.trans h.output,Nat.le_trans h.size k.size,
   fun i hi=>(k.tag i (Nat.lt_of_lt_of_le hi h.size)).trans (h.tag i hi),
   fun i hi hs=>(k.block i (Nat.lt_of_lt_of_le hi h.size) (by rw[h.tag i hi];exact hs)).trans (h.block i hi hs)⟩
theorem Stp.UM{τ τ':Nat->Tag}(h:Stp s τ w τ' w'){a:Addr}(ha:w.heap.size<=a.block)(v:Value):Stp s τ w τ' (w'.setCell a v):=by refine⟨h.os,h.tape,h.output,by simpa[World.setCell]using h.size,h.tag,fun k hk hs=>?_⟩;rw[Below.heap_setCell _ _ _ _ (by omega)];exact h.block k hk hs
theorem iu{k:IntKind}{a b:Int}(h:a=b):Ending.returned (.int k a)=.returned (.int k b):=by rw[h]
theorem dH{a b:Bool}(h:a=b):Ending.returned (.bool a)=.returned (.bool b):=by rw[h]
end
section
open Go Go.RowKit
theorem lu{P:Program}{ops:Array Oper}{o:Oper}{a:Act}{K:Act->World->Prop}{Q:Exit->Act->World->Prop}{E:Prop}
 (hgd:o.guard=none) (s x:Operand) (t:TypeId)
 (ho:o.op=.call {callee:=.builtin .append,args:=#[s,x],argTypes:=#[t,t]})
 (base:Nat) (e:TypeId) (i:TypeInfo) (z:Value) (size bytes:Nat) (ht:P.underlying t=some (.slice e)) (hi:P.info? e=some i) (hz:i.zero=some z)
 (hsize:i.size=size) (hby:i.bytes=bytes) (hzs:z.cells.size=size) (hsz:0<size)
 (v:Value) (n:Nat) (xs:List Value) (hs:a.eval s=v) (hown:w.ownsRow base e size v n xs)
 (ad:Addr) (m c:Nat) (news:List Value) (hx:a.eval x=.slice (some ad) m c) (hl:news.length=m*size) (hnews:∀j u,news[j]?=some u->w.cell? (ad.add j)=some u) (h1:∀u∈news,u.oneCell'=true)
 (h63:n+m<=maxLen) (hbytes:(n+m)*bytes<=140737488355328) (hbase:base<=w.heap.size)
 (h:∀v' w',w'.ownsRow base e size v' (n+m) (xs++news)->w.grownBy w' v.ownBlock->(v'=.slice none 0 0↔v=.slice none 0 0/\m=0)->(v'.ownBlock=v.ownBlock\/v'.ownBlock=some w.heap.size)->K (a.put o.dst v') w'):
 if Region.wanted o (yielded ops a.tmps)=true then Oper.wp P o a w K Q else E:=by
 have hw:Region.wanted o (yielded ops a.tmps)=true:=by simp[Region.wanted,hgd]
 rw[if_pos hw];obtain⟨v',w',hr,h2,h3,h4,h5⟩:=run_append_own_at (P:=P) w base t o.type e i z size bytes ht hi hz hsize hby hzs hsz v n xs hown ad m c news hl hnews h1 h63 hbytes hbase;unfold Oper.wp execOp;simp only[ho,resolve,invoke,builtin,Sem.run_bind,Sem.run_pure,Result.andThen_ok,List.map_toArray,List.map_cons,List.map_nil,hs,hx,hr];exact h v' w' h2 h3 h4 h5
theorem dJ{base:Nat}{e:TypeId}{size:Nat}(h:w.ownsRow base e size v n xs)(hn:0<n):
 ∃g cap,v=.slice (some ⟨g,0,none⟩) n cap/\n<=cap/\cap<=maxLen/\(∀j,j<n*size->w.cell? ⟨g,j,none⟩=xs[j]?)/\∀j,w.frozen? ⟨g,j,none⟩=false:=by
 have h0:=h;obtain⟨h1,h2⟩:=h;rcases h2 with⟨_,e0⟩|⟨g,cap,cur,rfl,_,hg,hc,hm,hs,ht⟩
 ·omega
 ·exact⟨g,cap,rfl,hc,hm,fun j hj=>h0.cellAt j hj,fun j=>h0.frozenAt j⟩
theorem gH{base:Nat}{e:TypeId}{size:Nat}(h:w.ownsRow base e size v n xs):
 ∃a cap,v=.slice a n cap:=by
 obtain⟨h1,h2⟩:=h;rcases h2 with⟨rfl,rfl⟩|⟨g,cap,cur,rfl,_⟩
 ·exact⟨none,0,rfl⟩
 ·exact⟨_,_,rfl⟩
theorem ak{base:Nat}{e:TypeId}{size:Nat}(h:w.ownsRow base e size v n xs)(hb:∀k,v.ownBlock=some k->w'.heap[k]?=w.heap[k]?):w'.ownsRow base e size v n xs:=by
 obtain⟨h1,h2⟩:=h;refine⟨h1,?_⟩;rcases h2 with h2|⟨g,cap,cur,rfl,hg,hh,r⟩
 ·exact Or.inl h2
 ·exact Or.inr ⟨g,cap,cur,rfl,hg,(hb g rfl).trans hh,r⟩
theorem aR{base:Nat}{e:TypeId}{size:Nat}(h:w.ownsRow base e size v n xs):∀k,v.ownBlock=some k->base<=k/\k<w.heap.size:=h.lt
def ptr(b:Nat):Value:=.pointer (some ⟨b,0,none⟩)
theorem cell_two_new(w:World)(x y:Value)(t:TypeId):∀j u, [x,y][j]?=some u->(w.alloc (.cells #[x,y] t)).cell? ((⟨w.heap.size,0,none⟩:Addr).add j)=some u:=by
 intro j u hj;match j,hj with
 | 0,hj=>simp at hj;subst hj;simp[Addr.add]
 | 1,hj=>simp at hj;subst hj;simp[Addr.add]
theorem aE{α:Type}{l:List α}{x:α}(h:l[i]?=some x):i<l.length:=(List.getElem?_eq_some_iff.1 h).1
theorem jU{α:Type}{l:List α}{y x:α}(h:(l.set i y)[j]?=some x):(i=j/\x=y)\/(i≠j/\l[j]?=some x):=by
 rw[List.getElem?_set]at h;by_cases e:i=j
 ·simp only[e,if_true]at h;split at h
  ·cases h;exact Or.inl ⟨e,rfl⟩
  ·cases h
 ·simp only[e,if_false]at h;exact Or.inr ⟨e,h⟩
theorem str_eq{a b:ByteArray}(h:(a.toList == b.toList)=true):a=b:=by rw[beq_iff_eq,ByteArray.toList_eq,ByteArray.toList_eq]at h;exact WideShapes.bytes_inj h
theorem sY{a b:ByteArray}(h:a=b):(a.toList == b.toList)=true:=by subst h;simp
theorem sX{a b:ByteArray}(h:a≠b):(a.toList == b.toList)=false:=by
 cases hh:(a.toList == b.toList)
 ·rfl
 ·exact absurd (str_eq hh) h
end
section
open Go Go.RowKit
def jf(l:List UInt8):Int:=(l.map (fun c=>(c.toNat:Int))).sum
theorem CM(l:List UInt8)(c:UInt8):jf (l++ [c])=jf l+(c.toNat:Int):=by simp[jf]
theorem H8(l:List UInt8):0<=jf l/\jf l<=255*l.length:=by
 induction l with
 |nil=>simp[jf]
 |cons c r ih=>
  have:=c.toNat_lt;simp[jf]at ih⊢;omega
theorem Bz(s:ByteArray)(k:Nat)(h:k<s.size):s.data.toList.take (k+1)=s.data.toList.take k++ [s[k]]:=by rw[List.take_succ_eq_append_getElem (by simpa using h)];rfl
def partOf(n:Int)(s:ByteArray):Int:=jf s.data.toList % n
theorem eM(n:Int)(s:ByteArray)(hn:0<n):0<=partOf n s/\partOf n s<n:=⟨Int.emod_nonneg _ (by omega),Int.emod_lt_of_pos _ hn⟩
def eY(c n:Int):Int:=(if c<0 then -(c+1)else c)% n
theorem N7(c n:Int)(h:c<0): -(c+1).tmod n=eY c n:=by simp only[eY,if_pos h];rw[<-Int.neg_tmod,Int.tmod_eq_emod_of_nonneg (by omega)]
theorem N8(c n:Int)(h:¬c<0):c % n=eY c n:=by simp only[eY,if_neg h]
theorem td(c n:Int)(hn:0<n):0<=eY c n/\eY c n<n:=⟨Int.emod_nonneg _ (by omega),Int.emod_lt_of_pos _ hn⟩
abbrev KV:=ByteArray×ByteArray
def aY(l:List KV):List Value:=l.flatMap (fun x=> [.string x.1,.string x.2])
def bK(s:ByteArray):Bool:=decide (1<=s.size)&& decide (s.size<=8)
def gj(x:KV):Bool:=bK x.1 && decide (x.2.size<=64)
def aH(l:List KV)(k:ByteArray):Bool:=l.any (fun x=>decide (x.1=k))
structure MW where
 items:List KV
 dL:Nat->Bool
 comm:Nat->Bool
 ed:Bool
structure MR where
 keys:List ByteArray
 asked:Nat->Bool
 found:Nat->Nat
 fin:Bool
structure MS where
 parts:Nat
 mode:Int
 ws:List MW
 rs:List MR
def az(n:Int)(l:List KV)(p:Int):Bool:=l.any (fun x=>decide (partOf n x.1=p))
def cF(ahead:List KV):List KV->Int
 | []=>0
 |x :: r=>if gj x=false then 4 else if aH ahead x.1 then 5 else cF (ahead++ [x]) r
def eC(l:List KV):Int:=if l.length<1\/8<l.length then 3 else cF [] l
def jT(l:List KV):MW:={items:=l,dL:=fun _=>false,comm:=fun _=>false,ed:=false}
def jD(s:MS)(l:List KV):Int×Int×MS:=
 if eC l≠0 then(0,eC l,s)
 else if 200<=s.ws.length then(0,6,s)
 else((s.ws.length:Int)+1,0,{s with ws:=s.ws++ [jT l]})
def bF(s:MS)(n:Int):Option MW:=
 if n<1\/(s.ws.length:Int)<n then none
 else match s.ws[(n-1).toNat]? with
  |some m=>if m.ed then none else some m
  |none=>none
def wY(s:MS)(n:Int)(m:MW):MS:={s with ws:=s.ws.set (n-1).toNat m}
def put(f:Nat->Bool)(p:Nat):Nat->Bool:=fun q=>if q=p then true else f q
def ez(s:MS)(n p:Int):Int×MS:=
 match bF s n with
 |none=>(7,s)
 |some m=>
  if az s.parts m.items p=false then(8,s)
  else if m.dL p.toNat then(10,s)
  else(0,wY s n {m with dL:=put m.dL p.toNat})
def je(n:Nat)(m:MW):Bool:=(List.range n).all (fun p=>!az n m.items p || m.dL p)
def eH(s:MS)(n p:Int):Int×MS:=
 match bF s n with
 |none=>(7,s)
 |some m=>
  if az s.parts m.items p=false then(8,s)
  else if je s.parts m=false then(9,s)
  else if m.comm p.toNat then(10,s)
  else(0,wY s n {m with comm:=put m.comm p.toNat})
def jd(s:MS)(n:Int):Int×MS:=
 match bF s n with
 |none=>(7,s)
 |some m=>
  if m.comm 0 || m.comm 1 || m.comm 2 || m.comm 3 then(9,s)
  else(0,wY s n {m with ed:=true})
def dX(l:List ByteArray)(k:ByteArray):Bool:=l.any (fun y=>decide (y=k))
def bM(l:List ByteArray)(k:ByteArray):Nat:=l.findIdx (fun y=>decide (y=k))
def fI(ahead:List ByteArray):List ByteArray->Int
 | []=>0
 |x :: r=>if bK x=false then 4 else if dX ahead x then 5 else fI (ahead++ [x]) r
def iH(l:List ByteArray):Int:=if l.length<1\/8<l.length then 3 else fI [] l
def cj(l:List MR):Nat:=l.countP (fun r=>!r.fin)
def gq(l:List ByteArray):MR:={keys:=l,asked:=fun _=>false,found:=fun _=>0,fin:=false}
def py(s:MS)(l:List ByteArray):Int×Int×MS:=
 if iH l≠0 then(0,iH l,s)
 else if 50<=cj s.rs then(0,6,s)
 else((s.rs.length:Int)+1,0,{s with rs:=s.rs++ [gq l]})
def fO(rs:List MR)(n:Int):Option MR:=
 if n<1\/(rs.length:Int)<n then none
 else match rs[(n-1).toNat]? with
  |some r=>if r.fin then none else some r
  |none=>none
def gN(s:MS)(n:Int):Option MR:=fO s.rs n
def pJ(n:Int)(ws:List MW)(key:ByteArray):Nat->Nat
 | 0=>0
 |k+1=>match ws[k]? with
  |some m=>if (aH m.items key && m.comm (partOf n key).toNat)=true then k+1 else pJ n ws key k
  |none=>pJ n ws key k
def aU(s:MS)(key:ByteArray):Nat:=pJ s.parts s.ws key s.ws.length
def J4(s:MS)(r:MR)(i:Nat)(key:ByteArray):MR:={r with asked:=put r.asked i,found:=fun j=>if j=i then aU s key else r.found j}
def ZL(s:MS)(n:Int)(r:MR):MS:={s with rs:=s.rs.set (n-1).toNat r}
def lT(s:MS)(n:Int)(key:ByteArray):Int×MS:=
 match gN s n with
 |none=>(7,s)
 |some r=>
  if bM r.keys key<r.keys.length then
   (if r.asked (bM r.keys key)then(10,s)else(0,ZL s n (J4 s r (bM r.keys key) key)))
  else(4,s)
structure MOk(s:MS):Prop where
 p1:1<=s.parts
 p4:s.parts<=4
 len:s.ws.length<=200
 items:∀(i:Nat) (m:MW),s.ws[i]?=some m->m.items.length<=8/\(∀x∈m.items,gj x=true)
 keys:∀(i:Nat) (r:MR),s.rs[i]?=some r->1<=r.keys.length/\r.keys.length<=8/\(∀x∈r.keys,bK x=true)/\r.keys.Nodup
 opn:cj s.rs<=50
theorem nT(l:List KV)(k:Nat)(x:KV)(h:l[k]?=some x):(aY l)[k*2]?=some (.string x.1)/\(aY l)[k*2+1]?=some (.string x.2):=by
 induction l generalizing k with
 |nil=>simp at h
 |cons y r ih=>
  cases k with
  |zero=>simp at h;subst h;simp[aY]
  |succ k=>
   have:=ih k (by simpa using h);have e:aY (y :: r)=.string y.1 :: .string y.2 :: aY r:=rfl;rw[e,show (k+1)*2=k*2+1+1 from by omega];simpa using this
theorem pF(l:List KV):(aY l).length=l.length*2:=by
 induction l with
 |nil=>rfl
 |cons y r ih=>show (aY r).length+1+1=_;simp[ih];omega
theorem gO{x:KV}(h:gj x=true):1<=x.1.size/\x.1.size<=8/\x.2.size<=64:=by simp[gj,bK]at h;omega
theorem dw{n:Int}{l:List KV}{p:Int}(hn:0<n)(h:az n l p=true):0<=p/\p<n:=by simp only[az,List.any_eq_true,decide_eq_true_eq]at h;obtain⟨x,_,hx⟩:=h;have:=eM n x.1 hn;omega
theorem Lr{a r:List KV}{x:KV}(h:gj x=false):cF a (x :: r)=4:=by simp[cF,h]
theorem EX{a r:List KV}{x:KV}(h:gj x=true)(h2:aH a x.1=true):cF a (x :: r)=5:=by simp[cF,h,h2]
theorem ER{a r:List KV}{x:KV}(h:gj x=true)(h2:aH a x.1=false):cF a (x :: r)=cF (a++ [x]) r:=by simp[cF,h,h2]
theorem Ia{r:List KV}:∀{a:List KV},cF a r=0->∀x∈r,gj x=true:=by
 induction r with
 |nil=>intro a _ x hx;cases hx
 |cons y r ih=>
  intro a h x hx;simp only[cF]at h;split at h
  ·cases h
  ·rename_i hg;split at h
   ·cases h
   ·rcases List.mem_cons.1 hx with rfl|hx
    ·simpa using hg
    ·exact ih h x hx
theorem CN{L:List KV}{x:KV}(h:L[k]?=some x):L.drop k=x :: L.drop (k+1):=by obtain⟨hk,rfl⟩:=List.getElem?_eq_some_iff.1 h;exact List.drop_eq_getElem_cons hk
theorem J5{L:List KV}{x:KV}(h:L[k]?=some x):L.take (k+1)=L.take k++ [x]:=by obtain⟨hk,rfl⟩:=List.getElem?_eq_some_iff.1 h;exact List.take_succ_eq_append_getElem hk
theorem tA(l:List KV)(x:KV):aY (l++ [x])=aY l++ [.string x.1,.string x.2]:=by simp[aY]
theorem EY{L:List KV}{x:KV}(hj:j<k)(hx:L[j]?=some x)(h:x.1=key):aH (L.take k) key=true:=by
 simp only[aH,List.any_eq_true,decide_eq_true_eq];refine⟨x,?_,h⟩;have:(L.take k)[j]?=some x:=by rw[List.getElem?_take_of_lt hj];exact hx
 exact List.mem_of_getElem? this
theorem EZ(l:List KV)(x:KV)(k:ByteArray):aH (l++ [x]) k=(aH l k || decide (x.1=k)):=by simp[aH]
def xH(w:World)(a:Option Addr)(L:List KV):Prop:=
 ∀(k:Nat) (x:KV),L[k]?=some x->∃ib io,a=some ⟨ib,io,none⟩/\w.cell? ⟨ib,io+k*2,none⟩=some (.string x.1)/\w.cell? ⟨ib,io+k*2+1,none⟩=some (.string x.2)
def xI(L:List KV):Prop:=∀x∈L,x.1.size<=maxLen/\x.2.size<=maxLen
end
section
open Go Go.RowKit
open Go.Maps (Keyed)
def aL(v:Value):Option (DataW Value×List MemPlace):=some (.held v, [])
def Says(D:DataW Value)(f:Lit->Option Value):Prop:=(∀kl v,f kl=some v->∀z,D.atKey kl z=.held v)/\∀kl,Maps.has D kl=(f kl).isSome
def aK(w:World)(P:Program)(k:TypeId)(b:Nat)(f:Lit->Option Value):Prop:=∃n D,w.ownsMap P k aL b n D/\Says D f
def upd(f:Lit->Option Value)(kl:Lit)(v:Value):Lit->Option Value:=fun k=>if k.sameKey kl=true then some v else f k
def del(f:Lit->Option Value)(kl:Lit):Lit->Option Value:=fun k=>if k.sameKey kl=true then none else f k
section
variable {P:Program}{k:TypeId}{w:World}{b:Nat}{f:Lit->Option Value}
theorem aK.made(w:World)(P:Program)(k:TypeId):aK (w.alloc (.map #[] 0)) P k w.heap.size (fun _=>none):=
 ⟨0,_,World.ownsMap_made w P k aL,⟨fun _ _ h=>(nomatch h),fun _=>rfl⟩⟩
theorem aK.lt(h:aK w P k b f):b<w.heap.size:=by obtain⟨n,D,h,_⟩:=h;exact h.lt
theorem aK.of_eq(h:aK w P k b f)(e:w'.heap[b]?=w.heap[b]?):aK w' P k b f:=by obtain⟨n,D,⟨es,clock,hb,r⟩,hs⟩:=h;exact⟨n,D,⟨es,clock,e.trans hb,r⟩,hs⟩
theorem aK.congr(h:aK w P k b f){g:Lit->Option Value}(e:∀kl,f kl=g kl):aK w P k b g:=by have:f=g:=funext e;rw[<-this];exact h
theorem mP(hk:WideAt.IsKeyLit kl):kl.sameKey kl=true:=by
 cases kl<;>simp_all [Lit.sameKey,WideAt.IsKeyLit]
theorem upd_same(hk:WideAt.IsKeyLit kl)(f:Lit->Option Value)(v:Value):upd f kl v kl=some v:=by simp[upd,mP hk]
theorem fN(hk:k'≠kl)(f:Lit->Option Value)(v:Value):upd f kl v k'=f k':=by simp[upd,Maps.sameKey_ne hk]
theorem mQ(hk:WideAt.IsKeyLit kl)(f:Lit->Option Value):del f kl kl=none:=by simp[del,mP hk]
theorem kS(hk:k'≠kl)(f:Lit->Option Value):del f kl k'=f k':=by simp[del,Maps.sameKey_ne hk]
theorem Says.put{D:DataW Value}(h:Says D f)(hm:Maps.IsMap D){kl:Lit}(hk:WideAt.IsKeyLit kl)(v:Value):Says (D.put kl (.held v)) (upd f kl v):=by
 refine⟨fun k' v' hv z=>?_,fun k'=>?_⟩
 ·by_cases e:k'=kl
  ·subst e;rw[upd_same hk]at hv;cases hv;exact Maps.atKey_put_same hm hk _ _
  ·rw[fN e]at hv;rw[Maps.atKey_put_other e];exact h.1 k' v' hv z
 ·by_cases e:k'=kl
  ·subst e;rw[Maps.has_put_same hm hk,upd_same hk];rfl
  ·rw[Maps.has_put_other e,fN e];exact h.2 k'
theorem Says.del{D:DataW Value}(h:Says D f){kl:Lit}(hk:WideAt.IsKeyLit kl):Says (D.del kl) (del f kl):=by
 refine⟨fun k' v' hv z=>?_,fun k'=>?_⟩
 ·by_cases e:k'=kl
  ·subst e;rw[mQ hk]at hv;cases hv
  ·rw[kS e]at hv;rw[Maps.atKey_del_other e];exact h.1 k' v' hv z
 ·by_cases e:k'=kl
  ·subst e;rw[Maps.has_del_same,mQ hk];rfl
  ·rw[Maps.has_del_other e,kS e];exact h.2 k'
theorem aK.look_ok(h:aK w P k b f){t e:TypeId}(K:Keyed P k)(ht:P.underlying t=some (.map k e)){z:Value}(hz:(zeroValue e).run P w=.ok z w){key:Value}{kl:Lit}(hkey:keyOf P k key=some kl):
 (Instr.lookup t (.map (some b)) key true).run P w=.ok (.tuple #[(f kl).getD z,.bool (f kl).isSome]) w:=by
 obtain⟨n,D,h,hs⟩:=h;obtain⟨v,ps,hrun,hv⟩:=h.look_ok K ht hz (zd:=.held z) (zp:= []) rfl hkey;rw[hrun,hs.2 kl];have:v=(f kl).getD z:=by
  simp only[aL,Option.some.injEq,Prod.mk.injEq]at hv;cases hf:f kl with
  |none=>
   have h0:=hs.2 kl;rw[hf]at h0;rw[Maps.atKey_of_not_has h0]at hv;have:=hv.1;injection this
  |some u=>
   rw[hs.1 kl u hf]at hv;have:=hv.1;injection this
 rw[this]
theorem aK.look(h:aK w P k b f){t e:TypeId}(K:Keyed P k)(ht:P.underlying t=some (.map k e))(hz:(zeroValue e).run P w=.ok z w){key:Value}(hkey:keyOf P k key=some kl):
 (Instr.lookup t (.map (some b)) key false).run P w=.ok ((f kl).getD z) w:=by
 obtain⟨n,D,h,hs⟩:=h;obtain⟨v,ps,hrun,hv⟩:=h.lookup K ht hz (zd:=.held z) (zp:= []) rfl hkey;rw[hrun];have:v=(f kl).getD z:=by
  simp only[aL,Option.some.injEq,Prod.mk.injEq]at hv;cases hf:f kl with
  |none=>
   have h0:=hs.2 kl;rw[hf]at h0;rw[Maps.atKey_of_not_has h0]at hv;have:=hv.1;injection this
  |some u=>
   rw[hs.1 kl u hf]at hv;have:=hv.1;injection this
 rw[this]
theorem jG{α:Type}:∀(l L:List α),l.Pairwise (fun a b=>a≠b)->(∀x∈l,x∈L)->l.length<=L.length
 | [],_,_,_=>Nat.zero_le _
 |x :: r,L,hp,hs=>by
  obtain⟨hx,hr⟩:=List.pairwise_cons.1 hp;obtain⟨A,B,rfl⟩:=List.append_of_mem (hs x (List.mem_cons_self ..));have:=jG r (A++B) hr (fun y hy=>by
   have h1:=hs y (List.mem_cons_of_mem _ hy);simp only[List.mem_append,List.mem_cons]at h1⊢;rcases h1 with h1|h1|h1
   ·exact Or.inl h1
   ·exact absurd h1.symm (hx y hy)
   ·exact Or.inr h1)
  simp at this⊢;omega
theorem tight{D:DataW Value}(h:w.ownsMap P k aL b n D)(K:Keyed P k)(hs:Says D f){L:List Lit}(hL:∀kl,f kl≠none->kl∈L):w.ownsMap P k aL b L.length D:=by
 have ht:=h.entries K;obtain⟨es,clock,hb,F,hn,hD⟩:=h;refine⟨es,clock,hb,F,?_,hD⟩;obtain⟨es',hD',hp,hks⟩:=ht;have e1:es.size=es'.length:=by rw[hD']at hD;injection hD with hD;rw[hD,length_sorted];simp
 rw[e1,<-List.length_map (f:=Prod.fst)];refine jG _ _ (List.pairwise_map.2 hp) (fun kl tu=>hL kl (fun e=>?_));have h2:=hs.2 kl;rw[e]at h2;obtain⟨p,rR,rfl⟩:=List.mem_map.1 tu;have hk:=hks p rR;have:Maps.has D p.1=true:=by rw[hD',Maps.has_eq,List.any_eq_true];exact⟨p,rR,mP hk⟩
 rw[this]at h2;cases h2
theorem aK.store(h:aK w P k b f){t e:TypeId}(K:Keyed P k)(ht:P.underlying t=some (.map k e))(L:List Lit)(hL:∀kl,f kl≠none->kl∈L)(hn:L.length<maxLen){key:Value}{kl:Lit}(hkey:keyOf P k key=some kl)(v:Value):
 ∃w',(Instr.mapUpdate t (.map (some b)) key v).run P w=.ok () w'/\aK w' P k b (upd f kl v)/\w.mapTurned w' b:=by obtain⟨n,D,h,hs⟩:=h;obtain⟨w',hrun,h',ht'⟩:=(tight h K hs hL).store K ht hn (d:=.held v) (ps:= []) hkey rfl;exact⟨w',hrun,⟨_,_,h',hs.put h.isMap (K.key hkey) v⟩,ht'⟩
theorem aK.drop(h:aK w P k b f){t e:TypeId}(K:Keyed P k)(ht:P.underlying t=some (.map k e)){key:Value}{kl:Lit}(hkey:keyOf P k key=some kl)(ty:TypeId):
 ∃w',(Builtin.delete_ #[t,k] ty #[.map (some b),key]).run P w=.ok (.tuple #[]) w'/\aK w' P k b (del f kl)/\w.mapTurned w' b:=by obtain⟨n,D,h,hs⟩:=h;obtain⟨w',hrun,h',ht'⟩:=h.drop K ht hkey ty;exact⟨w',hrun,⟨_,_,h',hs.del (K.key hkey)⟩,ht'⟩
theorem EW(h:w.mapTurned w' b):w'.heap.size=w.heap.size:=by obtain⟨es,clock,es',clock',hb,rfl⟩:=h;simp[ChangeMaps.setBlock]
theorem CL(h:w.mapTurned w' b){k:Nat}(hk:k≠b):w'.heap[k]?=w.heap[k]? :=by obtain⟨es,clock,es',clock',hb,rfl⟩:=h;exact ChangeMaps.heap_setBlock_other hb _ hk
end
section
variable {P:Program}(w:World){ops:Array Oper}{rest:List Oper}{o:Oper}{a:Act}{Q:Exit->Act->World->Prop}
theorem bZ(hg:o.guard=none)(m x:Operand)(t:TypeId)(hop:o.op=Op.lookup t m x true)
 (k e:TypeId) (K:Keyed P k) (ht:P.underlying t=some (.map k e)) {z:Value} (hz:(zeroValue e).run P w=.ok z w) (b:Nat) (f:Lit->Option Value)
 (hm:a.eval m=.map (some b)) (hown:aK w P k b f) (key:Value) (kl:Lit) (hx:a.eval x=key) (hkey:keyOf P k key=some kl) (fv:Option Value) (hf:f kl=fv)
 (hK:wpList P ops Q rest (a.put o.dst (.tuple #[fv.getD z,.bool fv.isSome])) w):
 wpList P ops Q (o :: rest) a w:=by refine wpList_plain hg fun K' hK'=>?_;have hrun:=hown.look_ok K ht hz hkey;rw[hf]at hrun;unfold Oper.wp;simp[execOp,hop,hm,hx,hrun,Result.andThen];exact hK' _ _ hK
theorem kH(hg:o.guard=none)(m x:Operand)(t:TypeId)(hop:o.op=Op.lookup t m x false)
 (k e:TypeId) (K:Keyed P k) (ht:P.underlying t=some (.map k e)) {z:Value} (hz:(zeroValue e).run P w=.ok z w) (b:Nat) (f:Lit->Option Value)
 (hm:a.eval m=.map (some b)) (hown:aK w P k b f) (key:Value) (kl:Lit) (hx:a.eval x=key) (hkey:keyOf P k key=some kl) (fv:Option Value) (hf:f kl=fv)
 (hK:wpList P ops Q rest (a.put o.dst (fv.getD z)) w):
 wpList P ops Q (o :: rest) a w:=by refine wpList_plain hg fun K' hK'=>?_;have hrun:=hown.look K ht hz hkey;rw[hf]at hrun;unfold Oper.wp;simp[execOp,hop,hm,hx,hrun,Result.andThen];exact hK' _ _ hK
theorem pG(hg:o.guard=none)(m x v:Operand)(t:TypeId)(hop:o.op=Op.mapUpdate t m x v)
 (k e:TypeId) (K:Keyed P k) (ht:P.underlying t=some (.map k e)) (b:Nat) (f:Lit->Option Value)
 (hm:a.eval m=.map (some b)) (hown:aK w P k b f) (L:List Lit) (hL:∀kl,f kl≠none->kl∈L) (hn:L.length<maxLen) (key val:Value) (kl:Lit) (hx:a.eval x=key) (hv:a.eval v=val) (hkey:keyOf P k key=some kl)
 (hK:∀w',aK w' P k b (upd f kl val)->w.mapTurned w' b->wpList P ops Q rest (a.put o.dst undef) w'):
 wpList P ops Q (o :: rest) a w:=by refine wpList_plain hg fun K' hK'=>?_;obtain⟨w',hrun,r1,r2⟩:=hown.store K ht L hL hn hkey val;unfold Oper.wp;simp[execOp,hop,hm,hx,hv,hrun,Result.andThen];exact hK' _ _ (hK w' r1 r2)
theorem pI(hg:o.guard=none)(m x:Operand)(t k:TypeId)(hop:o.op=Op.call {callee:=Callee.builtin Builtin.delete,args:=#[m,x],argTypes:=#[t,k]})
 (e:TypeId) (K:Keyed P k) (ht:P.underlying t=some (.map k e)) (b:Nat) (f:Lit->Option Value)
 (hm:a.eval m=.map (some b)) (hown:aK w P k b f) (key:Value) (kl:Lit) (hx:a.eval x=key) (hkey:keyOf P k key=some kl)
 (hK:∀w',aK w' P k b (del f kl)->w.mapTurned w' b->wpList P ops Q rest (a.put o.dst (.tuple #[])) w'):
 wpList P ops Q (o :: rest) a w:=by refine wpList_plain hg fun K' hK'=>?_;obtain⟨w',hrun,r1,r2⟩:=hown.drop K ht hkey o.type;unfold Oper.wp;simp[execOp,hop,resolve,invoke,builtin,hm,hx,hrun,Result.andThen];exact hK' _ _ (hK w' r1 r2)
end
end
section
open Go Go.RowKit
section
variable {w:World}{τ:Nat->Tag}{aD b:Nat}{s:MS}
theorem dG(h:bK x=true):1<=x.size/\x.size<=8:=by simpa[bK]using h
end
end
section
open Go
def Km(v w:World)(n:Nat):Prop:=∀k,k<n->∀q,v.tape (v.drawn+k) q=w.tape (w.drawn+k) q
section
variable {Sb:Nat->Prop}{v w:World}
end
end
section
open Go
inductive NM{α:Type}:Sem α->Prop
 |pure {a:α}:NM (.pure a)
 |load {m:Mode} {a:Addr} {k:Value->Sem α}:(∀v,NM (k v))->NM (.load m a k)
 |store {m:Mode} {a:Addr} {v:Value} {k:Sem α}:NM k->NM (.store m a v k)
 |new {o:Obj} {k:Nat->Sem α}:(∀r,NM (k r))->NM (.new o k)
 |shape {r:Nat} {k:Option (TypeId×Nat)->Sem α}:(∀s,NM (k s))->NM (.shape r k)
 |freeze {a:Addr} {n:Nat} {k:Sem α}:NM k->NM (.freeze a n k)
 |frozen {a:Addr} {k:Bool->Sem α}:(∀b,NM (k b))->NM (.frozen a k)
 |getObj {r:Nat} {k:Obj->Sem α}:(∀o,NM (k o))->NM (.getObj r k)
 |setObj {r:Nat} {o:Obj} {k:Sem α}:NM k->NM (.setObj r o k)
 |choose {q:Question} {k:Nat->Sem α}:(∀n,NM (k n))->NM (.choose q k)
 |sys {c:Sys} {k:SysRet->Sem α}:(∀r,NM (k r))->NM (.sys c k)
 |program {k:Program->Sem α}:(∀p,NM (k p))->NM (.program k)
 |mark {m:Mark} {k:Sem α}:m≠.disable->m≠.enable->NM k->NM (.mark m k)
 |halt {h:Halt}:NM (.halt h)
theorem NM.bind{α β:Type}{s:Sem α}{f:α->Sem β}(h:NM s)(hf:∀a,NM (f a)):NM (s >>= f):=by
 show NM (s.bind f);induction h with
 |pure=>exact hf _
 |load _ ih=>exact .load fun v=>ih v
 |store _ ih=>exact .store ih
 |new _ ih=>exact .new fun r=>ih r
 |shape _ ih=>exact .shape fun s=>ih s
 |freeze _ ih=>exact .freeze ih
 |frozen _ ih=>exact .frozen fun b=>ih b
 |getObj _ ih=>exact .getObj fun o=>ih o
 |setObj _ ih=>exact .setObj ih
 |choose _ ih=>exact .choose fun n=>ih n
 |sys _ ih=>exact .sys fun n=>ih n
 |program _ ih=>exact .program fun p=>ih p
 |mark h1 h2 _ ih=>exact .mark h1 h2 ih
 |halt=>exact .halt
theorem NM.pure'{α:Type}(a:α):NM (Pure.pure a:Sem α):=.pure
theorem xR(a:Addr)(m:Mode):NM (load a m):=.load fun _=>.pure
theorem lO(a:Addr)(v:Value)(m:Mode):NM (store a v m):=.store .pure
theorem nB(o:Obj):NM (newObj o):=.new fun _=>.pure
theorem fT(r:Nat):NM (shape r):=.shape fun _=>.pure
theorem nA(a:Addr):NM (frozen a):=.frozen fun _=>.pure
theorem gD(r:Nat):NM (getObj r):=.getObj fun _=>.pure
theorem dD(q:Question):NM (choose q):=.choose fun _=>.pure
theorem QH(c:Sys):NM (sys c):=.sys fun _=>.pure
theorem dR:NM program:=.program fun _=>.pure
theorem aB{α:Type}(s:String):NM (stuck s:Sem α):=.halt
theorem cJ{α:Type}(u:Unsupported):NM (unsupported u:Sem α):=.halt
theorem Gp{α:Type}(v:Value):NM (goPanic v:Sem α):=.halt
end
section
open Go
theorem bg{α:Type}{c:Prop}[Decidable c]{s s':Sem α}(h:NM s)(h':NM s'):NM (if c then s else s'):=by split;exact h;exact h'
theorem qI(r:Nat):NM (viewAt r):=by unfold viewAt;(repeat' (first|(with_reducible first|exact NM.pure' _|exact fT ..|exact gD ..|refine NM.bind ?_ (fun _=>?_)|refine bg ?_ ?_)|dsimp only|split|intro _))
theorem Cm(a:Addr):NM (noView a):=by unfold noView;(repeat' (first|(with_reducible first|exact NM.pure' _|exact cJ ..|exact qI ..|refine NM.bind ?_ (fun _=>?_)|refine bg ?_ ?_)|dsimp only|split|intro _))
theorem D1(a:Addr):NM (stringish a):=by unfold stringish;(repeat' (first|(with_reducible first|exact NM.pure' _|exact fT ..|exact nA ..|refine NM.bind ?_ (fun _=>?_)|refine bg ?_ ?_)|dsimp only|split|intro _))
theorem Gu(a b:Addr):NM (mayBeOne a b):=by unfold mayBeOne;(repeat' (first|(with_reducible first|exact NM.pure' _|exact fT ..|exact D1 ..|refine NM.bind ?_ (fun _=>?_))|dsimp only|split|intro _))
theorem Gv(a b:Addr):NM (sameAddr a b):=by unfold sameAddr;(repeat' (first|(with_reducible first|exact NM.pure' _|exact nA ..|exact dD ..|exact cJ ..|exact Cm ..|exact Gu ..|refine NM.bind ?_ (fun _=>?_)|refine bg ?_ ?_)|dsimp only|split|intro _))
theorem z7(a b:Option Addr):NM (samePointer a b):=by unfold samePointer;(repeat' (first|(with_reducible first|exact NM.pure' _|exact Gv ..)|dsimp only|split|intro _))
theorem fZ(t:TypeId):NM (typeInfo t):=by unfold typeInfo;(repeat' (first|(with_reducible first|exact NM.pure' _|exact dR ..|exact aB ..|refine NM.bind ?_ (fun _=>?_))|dsimp only|split|intro _))
theorem aJ(t:TypeId):NM (underlying t):=by unfold underlying;(repeat' (first|(with_reducible first|exact NM.pure' _|exact dR ..|exact aB ..|refine NM.bind ?_ (fun _=>?_))|dsimp only|split|intro _))
theorem kX(t:TypeId)(c:Array Value):NM (newRow t c):=by unfold newRow;(repeat' (first|(with_reducible first|exact NM.pure' _|exact nB ..|refine NM.bind ?_ (fun _=>?_))|dsimp only|split|intro _))
theorem vH(t:TypeId)(v:Value):NM (newVar t v):=by unfold newVar;(repeat' (first|with_reducible exact kX ..|dsimp only|split|intro _))
theorem Cn(t:TypeId):NM (elemOf t):=by unfold elemOf;(repeat' (first|(with_reducible first|exact NM.pure' _|exact aB ..|exact aJ ..|refine NM.bind ?_ (fun _=>?_))|dsimp only|split|intro _))
theorem bO{α:Type}(e:RuntimeError):NM (runtimePanic e:Sem α):=by unfold runtimePanic;(repeat' (first|(with_reducible first|exact dR ..|exact Gp ..|exact vH ..|exact Cn ..|refine NM.bind ?_ (fun _=>?_))|dsimp only|split|intro _))
theorem oC(v:Value):NM (asIntOf v):=by unfold asIntOf;(repeat' (first|(with_reducible first|exact NM.pure' _|exact aB ..|exact cJ ..)|dsimp only|split|intro _))
theorem j3(v:Value):NM (asInt v):=by unfold asInt;(repeat' (first|(with_reducible first|exact NM.pure' _|exact oC ..|refine NM.bind ?_ (fun _=>?_))|dsimp only|split|intro _))
theorem iD(v:Value):NM (asAddr v):=by unfold asAddr;(repeat' (first|(with_reducible first|exact NM.pure' _|exact aB ..|exact bO ..)|dsimp only|split|intro _))
end
end Go.Proofs.YteoahlieielcdaaGreat
