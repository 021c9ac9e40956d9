import Derived.WalkSpells
import Derived.WalkLawsBesides
import Derived.Deep.RegionLaw
import Derived.BigQuiet
import Derived.Test.YteoahlieielcdaaGreatChecked
import Derived.Test.YteoahlieielcdaaGreatLocks
import Derived.Deep.RegionHeld3
import Derived.Lib.BufferWrite
import Derived.Deep.DeepCutAuto
set_option linter.all false
set_option maxHeartbeats 4000000
set_option maxRecDepth 100000
namespace Go.Proofs.YteoahlieielcdaaGreat
open Go.Proofs.Tryz
abbrev zac:=@RowKit.Below.heap_setCell
abbrev zad:=@RowKit.Below.heap_alloc
abbrev zae:=@Nat.le_refl
abbrev zaf:=@Nat.lt_of_lt_of_le
abbrev zag:=@List.getElem?_eq_getElem
abbrev zah:=@World.cell?_of_block
abbrev zai:=@Array.getElem?_eq_some_iff
abbrev zaj:=@World.block_lt_of_cell?
abbrev zak:=@Nat.zero_le
abbrev zal:=@List.mem_of_getElem?
abbrev zam:=@Array.ext_getElem?
abbrev zan:=@Array.length_toList
abbrev zao:=@Int.eq_ofNat_of_zero_le
abbrev zap:=@List.any_eq_true
abbrev zaq:=@List.drop_eq_getElem_cons
abbrev zar:=@List.getElem_mem
abbrev zas:=@List.length_map
abbrev zat:=@List.mem_map
abbrev zau:=@List.mem_range
abbrev zav:=@List.take_length
abbrev zaw:=@List.take_of_length_le
abbrev zax:=@List.take_succ_eq_append_getElem
variable{w w' w3 X w2:af}{b k i j aO B0:Nat}{c:Array aj}{s x kk:ah}{a:Act}{P:aB}{ops:Array Oper}{o:Obj}{K L r:List ah}{Q:Exit->Act->af->Prop}{v z kv v2 ks':aj}{n:Int}{xs:List aj}{p M:Nat->Prop}{g f:Lit->Option aj}{kl k':Lit}{l:List UInt8}
section
open Go Go.RowKit
def bg(w:af)(b:Nat)(c:Array aj)(t:az):Prop:=w.heap[b]?=some (.cells c t (0,0))
def bg.cell{w:af}{b:Nat}{c:Array aj}{t:az}(h:bg w b c t){o:Nat}{v:aj}(hv:c[o]?=some v):w.cell? ⟨b,o,none⟩=some v:=by unfold bg at h;simp[World.cell?,h,hv]
def bg.frozen{w:af}{b:Nat}{c:Array aj}{t:az}(h:bg w b c t)(o:Nat):w.frozen? ⟨b,o,none⟩=false:=by unfold bg at h;simp[World.frozen?,h]
def bg.lt{t:az}(h:bg w b c t):b<w.heap.size:=(zai.1 h).1
def bg.of_eq{t:az}(h:bg w b c t)(e:w'.heap[b]?=w.heap[b]?):bg w' b c t:=e.trans h
def bg.set{t:az}(h:bg w b c t)(o:Nat)(v:aj):bg (w.setCell ⟨b,o,none⟩ v) b (c.setIfInBounds o v) t:=by unfold bg at h⊢;simp only[World.setCell,Array.getElem?_modify,h];simp
def bg.new(w:af)(c:Array aj)(t:az):bg (w.alloc (.cells c t)) w.heap.size c t:=by show (w.heap.push _)[w.heap.size]?=_;simp
abbrev Tag:=Nat×Nat×Nat
structure Stp(s:Nat)(τ:Nat->Tag)(w:af)(τ':Nat->Tag)(w':af):Prop where
 os:w'.os=w.os
 tape:w'.tape=w.tape
 output:w'.output=w.output
 size:w.heap.size<=w'.heap.size
 tag:∀k,k<w.heap.size->τ' k=τ k
 block:∀k,k<w.heap.size->(τ k).1≠s->w'.heap[k]?=w.heap[k]?
def Stp.refl(s:Nat)(τ:Nat->Tag)(w:af):Stp s τ w τ w:=⟨rfl,rfl,rfl,zae _,fun _ _=>rfl,fun _ _ _=>rfl⟩
def Stp.trans{s:Nat}{τ τ1 τ2:Nat->Tag}{w w1 w2:af}(h:Stp s τ w τ1 w1)(k:Stp s τ1 w1 τ2 w2):Stp s τ w τ2 w2:=
 ⟨k.os.trans h.os,k.tape.trans h.tape,k.output.trans h.output,Nat.le_trans h.size k.size,
   fun i hi=>(k.tag i (zaf hi h.size)).trans (h.tag i hi),
   fun i hi hs=>(k.block i (zaf hi h.size) (by rw[h.tag i hi];exact hs)).trans (h.block i hi hs)⟩
def Stp.Wn{s:Nat}{τ τ':Nat->Tag}(h:Stp s τ w τ' w'){a:aA}(ha:w.heap.size<=a.block)(v:aj):Stp s τ w τ' (w'.setCell a v):=by refine⟨h.os,h.tape,h.output,by simpa[World.setCell]using h.size,h.tag,fun k hk hs=>?_⟩;rw[zac _ _ _ _ (by omega)];exact h.block k hk hs
def gX{k:IntKind}{a b:Int}(h:a=b):Ending.returned (.int k a)=.returned (.int k b):=by rw[h]
def cL{a b:Bool}(h:a=b):Ending.returned (.bool a)=.returned (.bool b):=by rw[h]
end
section
open Go Go.RowKit
def iD{o:Oper}{K:Act->af->Prop}{E:Prop}
 (hgd:o.guard=none) (s x:aD) (t:az)
 (ho:o.op=.call {callee:=.builtin .append,args:=#[s,x],argTypes:=#[t,t]})
 (base:Nat) (e:az) (i:TypeInfo) (z:aj) (size bytes:Nat) (ht:P.underlying t=some (.slice e)) (hi:P.info? e=some i) (hz:i.zero=some z)
 (hsize:i.size=size) (hby:i.bytes=bytes) (hzs:z.cells.size=size) (hsz:0<size)
 (v:aj) (n:Nat) (xs:List aj) (hs:a.eval s=v) (hown:w.ownsRow base e size v n xs)
 (ad:aA) (m c:Nat) (news:List aj) (hx:a.eval x=.slice (some ad) m c) (hl:news.length=m*size) (hnews:∀j u,news[j]?=some u->w.cell? (ad.add j)=some u) (h1:∀u∈news,u.oneCell'=true)
 (h63:n+m<=maxLen) (hbytes:(n+m)*bytes<=140737488355328) (hbase:base<=w.heap.size)
 (h:∀v' w',w'.ownsRow base e size v' (n+m) (xs++news)->w.grownBy w' v.ownBlock->(v'=.slice none 0 0↔v=.slice none 0 0/\m=0)->(v'.ownBlock=v.ownBlock\/v'.ownBlock=some w.heap.size)->K (a.put o.dst v') w'):
 if Region.wanted o (yielded ops a.tmps)=true then Oper.wp P o a w K Q else E:=by
 have hw:Region.wanted o (yielded ops a.tmps)=true:=by simp[Region.wanted,hgd]
 rw[if_pos hw];obtain⟨v',w',hr,h2,h3,h4,h5⟩:=run_append_own_at (P:=P) w base t o.type e i z size bytes ht hi hz hsize hby hzs hsz v n xs hown ad m c news hl hnews h1 h63 hbytes hbase;unfold Oper.wp execOp;simp only[ho,resolve,invoke,builtin,Sem.run_bind,Sem.run_pure,Result.andThen_ok,List.map_toArray,List.map_cons,List.map_nil,hs,hx,hr];exact h v' w' h2 h3 h4 h5
def cJ{base:Nat}{e:az}{size:Nat}{n:Nat}(h:w.ownsRow base e size v n xs)(hn:0<n):
 ∃g cap,v=.slice (some ⟨g,0,none⟩) n cap/\n<=cap/\cap<=maxLen/\(∀j,j<n*size->w.cell? ⟨g,j,none⟩=xs[j]?)/\∀j,w.frozen? ⟨g,j,none⟩=false:=by
 have h0:=h;obtain⟨h1,h2⟩:=h;rcases h2 with⟨_,e0⟩|⟨g,cap,cur,rfl,_,hg,hc,hm,hs,ht⟩
 ·omega
 ·exact⟨g,cap,rfl,hc,hm,fun j hj=>h0.cellAt j hj,fun j=>h0.frozenAt j⟩
def cy{base:Nat}{e:az}{size:Nat}{n:Nat}(h:w.ownsRow base e size v n xs):
 ∃a cap,v=.slice a n cap:=by
 obtain⟨h1,h2⟩:=h;rcases h2 with⟨rfl,rfl⟩|⟨g,cap,cur,rfl,_⟩
 ·exact⟨none,0,rfl⟩
 ·exact⟨_,_,rfl⟩
def aH{base:Nat}{e:az}{size:Nat}{n:Nat}(h:w.ownsRow base e size v n xs)(hb:∀k,v.ownBlock=some k->w'.heap[k]?=w.heap[k]?):w'.ownsRow base e size v n xs:=by
 obtain⟨h1,h2⟩:=h;refine⟨h1,?_⟩;rcases h2 with h2|⟨g,cap,cur,rfl,hg,hh,r⟩
 ·exact Or.inl h2
 ·exact Or.inr ⟨g,cap,cur,rfl,hg,(hb g rfl).trans hh,r⟩
def aQ{base:Nat}{e:az}{size:Nat}{n:Nat}(h:w.ownsRow base e size v n xs):∀k,v.ownBlock=some k->base<=k/\k<w.heap.size:=h.lt
def ptr(b:Nat):aj:=.pointer (some ⟨b,0,none⟩)
def cell_two_new(w:af)(x y:aj)(t:az):∀j u, [x,y][j]?=some u->(w.alloc (.cells #[x,y] t)).cell? ((⟨w.heap.size,0,none⟩:aA).add j)=some u:=by
 intro j u hj;match j,hj with
 | 0,hj=>simp at hj;subst hj;simp[Addr.add]
 | 1,hj=>simp at hj;subst hj;simp[Addr.add]
def aM{α:Type}{l:List α}{x:α}(h:l[i]?=some x):i<l.length:=(List.getElem?_eq_some_iff.1 h).1
def jO{α:Type}{l:List α}{y x:α}(h:(l.set i y)[j]?=some x):(i=j/\x=y)\/(i≠j/\l[j]?=some x):=by
 rw[List.getElem?_set]at h;by_cases e:i=j
 ·simp only[e,if_true]at h;split at h
  ·cases h;exact Or.inl ⟨e,rfl⟩
  ·cases h
 ·simp only[e,if_false]at h;exact Or.inr ⟨e,h⟩
def str_eq{a b:ah}(h:(a.toList == b.toList)=true):a=b:=by rw[beq_iff_eq,ByteArray.toList_eq,ByteArray.toList_eq]at h;exact WideShapes.bytes_inj h
def pS{a b:ah}(h:a=b):(a.toList == b.toList)=true:=by subst h;simp
def pU{a b:ah}(h:a≠b):(a.toList == b.toList)=false:=by
 cases hh:(a.toList == b.toList)
 ·rfl
 ·exact absurd (str_eq hh) h
end
section
open Go Go.RowKit
def iW(l:List UInt8):Int:=(l.map (fun c=>(c.toNat:Int))).sum
def Ch(l:List UInt8)(c:UInt8):iW (l++ [c])=iW l+(c.toNat:Int):=by simp[iW]
def GX(l:List UInt8):0<=iW l/\iW l<=255*l.length:=by
 induction l with
 |nil=>simp[iW]
 |cons c r ih=>
  have:=c.toNat_lt;simp[iW]at ih⊢;omega
def AP(s:ah)(k:Nat)(h:k<s.size):s.data.toList.take (k+1)=s.data.toList.take k++ [s[k]]:=by rw[zax (by simpa using h)];rfl
def partOf(n:Int)(s:ah):Int:=iW s.data.toList % n
def dW(n:Int)(s:ah)(hn:0<n):0<=partOf n s/\partOf n s<n:=⟨Int.emod_nonneg _ (by omega),Int.emod_lt_of_pos _ hn⟩
def fC(c n:Int):Int:=(if c<0 then -(c+1)else c)% n
def OX(c n:Int)(h:c<0): -(c+1).tmod n=fC c n:=by simp only[fC,if_pos h];rw[<-Int.neg_tmod,Int.tmod_eq_emod_of_nonneg (by omega)]
def OY(c n:Int)(h:¬c<0):c % n=fC c n:=by simp only[fC,if_neg h]
def BW(c n:Int)(hn:0<n):0<=fC c n/\fC c n<n:=⟨Int.emod_nonneg _ (by omega),Int.emod_lt_of_pos _ hn⟩
abbrev KV:=ByteArray×ByteArray
def bn(l:List KV):List aj:=l.flatMap (fun x=> [.string x.1,.string x.2])
def bK(s:ah):Bool:=decide (1<=s.size)&& decide (s.size<=8)
def fU(x:KV):Bool:=bK x.1 && decide (x.2.size<=64)
def aP(l:List KV)(k:ah):Bool:=l.any (fun x=>decide (x.1=k))
structure MW where
 items:List KV
 dH:Nat->Bool
 comm:Nat->Bool
 dP:Bool
structure MR where
 keys:List ah
 asked:Nat->Bool
 found:Nat->Nat
 fin:Bool
structure MS where
 parts:Nat
 mode:Int
 ws:List MW
 rs:List MR
def aJ(n:Int)(l:List KV)(p:Int):Bool:=l.any (fun x=>decide (partOf n x.1=p))
def cH(ahead:List KV):List KV->Int
 | []=>0
 |x :: r=>if fU x=false then 4 else if aP ahead x.1 then 5 else cH (ahead++ [x]) r
def ez(l:List KV):Int:=if l.length<1\/8<l.length then 3 else cH [] l
def jk(l:List KV):MW:={items:=l,dH:=fun _=>false,comm:=fun _=>false,dP:=false}
def jA(s:MS)(l:List KV):Int×Int×MS:=
 if ez l≠0 then(0,ez l,s)
 else if 200<=s.ws.length then(0,6,s)
 else((s.ws.length:Int)+1,0,{s with ws:=s.ws++ [jk l]})
def bI(s:MS)(n:Int):Option MW:=
 if n<1\/(s.ws.length:Int)<n then none
 else match s.ws[(n-1).toNat]? with
  |some m=>if m.dP then none else some m
  |none=>none
def uq(s:MS)(n:Int)(m:MW):MS:={s with ws:=s.ws.set (n-1).toNat m}
def put(f:Nat->Bool)(p:Nat):Nat->Bool:=fun q=>if q=p then true else f q
def dI(s:MS)(n p:Int):Int×MS:=
 match bI s n with
 |none=>(7,s)
 |some m=>
  if aJ s.parts m.items p=false then(8,s)
  else if m.dH p.toNat then(10,s)
  else(0,uq s n {m with dH:=put m.dH p.toNat})
def fo(n:Nat)(m:MW):Bool:=(List.range n).all (fun p=>!aJ n m.items p || m.dH p)
def eE(s:MS)(n p:Int):Int×MS:=
 match bI s n with
 |none=>(7,s)
 |some m=>
  if aJ s.parts m.items p=false then(8,s)
  else if fo s.parts m=false then(9,s)
  else if m.comm p.toNat then(10,s)
  else(0,uq s n {m with comm:=put m.comm p.toNat})
def iV(s:MS)(n:Int):Int×MS:=
 match bI s n with
 |none=>(7,s)
 |some m=>
  if m.comm 0 || m.comm 1 || m.comm 2 || m.comm 3 then(9,s)
  else(0,uq s n {m with dP:=true})
def cg(l:List ah)(k:ah):Bool:=l.any (fun y=>decide (y=k))
def bH(l:List ah)(k:ah):Nat:=l.findIdx (fun y=>decide (y=k))
def fy(ahead:List ah):List ah->Int
 | []=>0
 |x :: r=>if bK x=false then 4 else if cg ahead x then 5 else fy (ahead++ [x]) r
def gY(l:List ah):Int:=if l.length<1\/8<l.length then 3 else fy [] l
def bq(l:List MR):Nat:=l.countP (fun r=>!r.fin)
def eY(l:List ah):MR:={keys:=l,asked:=fun _=>false,found:=fun _=>0,fin:=false}
def oH(s:MS)(l:List ah):Int×Int×MS:=
 if gY l≠0 then(0,gY l,s)
 else if 50<=bq s.rs then(0,6,s)
 else((s.rs.length:Int)+1,0,{s with rs:=s.rs++ [eY l]})
def ed(rs:List MR)(n:Int):Option MR:=
 if n<1\/(rs.length:Int)<n then none
 else match rs[(n-1).toNat]? with
  |some r=>if r.fin then none else some r
  |none=>none
def fP(s:MS)(n:Int):Option MR:=ed s.rs n
def oD(n:Int)(ws:List MW)(key:ah):Nat->Nat
 | 0=>0
 |k+1=>match ws[k]? with
  |some m=>if (aP m.items key && m.comm (partOf n key).toNat)=true then k+1 else oD n ws key k
  |none=>oD n ws key k
def aY(s:MS)(key:ah):Nat:=oD s.parts s.ws key s.ws.length
def w9(s:MS)(r:MR)(i:Nat)(key:ah):MR:={r with asked:=put r.asked i,found:=fun j=>if j=i then aY s key else r.found j}
def V8(s:MS)(n:Int)(r:MR):MS:={s with rs:=s.rs.set (n-1).toNat r}
def kE(s:MS)(n:Int)(key:ah):Int×MS:=
 match fP s n with
 |none=>(7,s)
 |some r=>
  if bH r.keys key<r.keys.length then
   (if r.asked (bH r.keys key)then(10,s)else(0,V8 s n (w9 s r (bH r.keys key) key)))
  else(4,s)
structure MOk(s:MS):Prop where
 p1:1<=s.parts
 p4:s.parts<=4
 len:s.ws.length<=200
 items:∀(i:Nat) (m:MW),s.ws[i]?=some m->m.items.length<=8/\(∀x∈m.items,fU x=true)
 keys:∀(i:Nat) (r:MR),s.rs[i]?=some r->1<=r.keys.length/\r.keys.length<=8/\(∀x∈r.keys,bK x=true)/\r.keys.Nodup
 opn:bq s.rs<=50
def nB(l:List KV)(k:Nat)(x:KV)(h:l[k]?=some x):(bn l)[k*2]?=some (.string x.1)/\(bn l)[k*2+1]?=some (.string x.2):=by
 induction l generalizing k with
 |nil=>simp at h
 |cons y r ih=>
  cases k with
  |zero=>simp at h;subst h;simp[bn]
  |succ k=>
   have:=ih k (by simpa using h);have e:bn (y :: r)=.string y.1 :: .string y.2 :: bn r:=rfl;rw[e,show (k+1)*2=k*2+1+1 from by omega];simpa using this
def oV(l:List KV):(bn l).length=l.length*2:=by
 induction l with
 |nil=>rfl
 |cons y r ih=>show (bn r).length+1+1=_;simp[ih];omega
def gN{x:KV}(h:fU x=true):1<=x.1.size/\x.1.size<=8/\x.2.size<=64:=by simp[fU,bK]at h;omega
def dF{l:List KV}{p:Int}(hn:0<n)(h:aJ n l p=true):0<=p/\p<n:=by simp only[aJ,List.any_eq_true,decide_eq_true_eq]at h;obtain⟨x,_,hx⟩:=h;have:=dW n x.1 hn;omega
def Lg{a r:List KV}{x:KV}(h:fU x=false):cH a (x :: r)=4:=by simp[cH,h]
def Ez{a r:List KV}{x:KV}(h:fU x=true)(h2:aP a x.1=true):cH a (x :: r)=5:=by simp[cH,h,h2]
def Eu{a r:List KV}{x:KV}(h:fU x=true)(h2:aP a x.1=false):cH a (x :: r)=cH (a++ [x]) r:=by simp[cH,h,h2]
def GY{r:List KV}:∀{a:List KV},cH a r=0->∀x∈r,fU x=true:=by
 induction r with
 |nil=>intro a _ x hx;cases hx
 |cons y r ih=>
  intro a h x hx;simp only[cH]at h;split at h
  ·cases h
  ·rename_i hg;split at h
   ·cases h
   ·rcases List.mem_cons.1 hx with rfl|hx
    ·simpa using hg
    ·exact ih h x hx
def Ci{L:List KV}{x:KV}(h:L[k]?=some x):L.drop k=x :: L.drop (k+1):=by obtain⟨hk,rfl⟩:=List.getElem?_eq_some_iff.1 h;exact zaq hk
def JA{L:List KV}{x:KV}(h:L[k]?=some x):L.take (k+1)=L.take k++ [x]:=by obtain⟨hk,rfl⟩:=List.getElem?_eq_some_iff.1 h;exact zax hk
def sZ(l:List KV)(x:KV):bn (l++ [x])=bn l++ [.string x.1,.string x.2]:=by simp[bn]
def EA{L:List KV}{x:KV}{key:ah}(hj:j<k)(hx:L[j]?=some x)(h:x.1=key):aP (L.take k) key=true:=by
 simp only[aP,List.any_eq_true,decide_eq_true_eq];refine⟨x,?_,h⟩;have:(L.take k)[j]?=some x:=by rw[List.getElem?_take_of_lt hj];exact hx
 exact zal this
def EB(l:List KV)(x:KV)(k:ah):aP (l++ [x]) k=(aP l k || decide (x.1=k)):=by simp[aP]
def wT(w:af)(a:Option aA)(L:List KV):Prop:=
 ∀(k:Nat) (x:KV),L[k]?=some x->∃ib io,a=some ⟨ib,io,none⟩/\w.cell? ⟨ib,io+k*2,none⟩=some (.string x.1)/\w.cell? ⟨ib,io+k*2+1,none⟩=some (.string x.2)
def wU(L:List KV):Prop:=∀x∈L,x.1.size<=maxLen/\x.2.size<=maxLen
end
section
open Go Go.RowKit
open Go.Maps (Keyed)
def aV(v:aj):Option (DataW aj×List MemPlace):=some (.held v, [])
def Says(D:DataW aj)(f:Lit->Option aj):Prop:=(∀kl v,f kl=some v->∀z,D.atKey kl z=.held v)/\∀kl,Maps.has D kl=(f kl).isSome
def aS(w:af)(P:aB)(k:az)(b:Nat)(f:Lit->Option aj):Prop:=∃n D,w.ownsMap P k aV b n D/\Says D f
def upd(f:Lit->Option aj)(kl:Lit)(v:aj):Lit->Option aj:=fun k=>if k.sameKey kl=true then some v else f k
def del(f:Lit->Option aj)(kl:Lit):Lit->Option aj:=fun k=>if k.sameKey kl=true then none else f k
section
variable {P:aB}{k:az}{w:af}{b:Nat}{f:Lit->Option aj}
def aS.made(w:af)(P:aB)(k:az):aS (w.alloc (.map #[] 0)) P k w.heap.size (fun _=>none):=
 ⟨0,_,World.ownsMap_made w P k aV,⟨fun _ _ h=>(nomatch h),fun _=>rfl⟩⟩
def aS.lt(h:aS w P k b f):b<w.heap.size:=by obtain⟨n,D,h,_⟩:=h;exact h.lt
def aS.of_eq(h:aS w P k b f)(e:w'.heap[b]?=w.heap[b]?):aS w' P k b f:=by obtain⟨n,D,⟨es,clock,hb,r⟩,hs⟩:=h;exact⟨n,D,⟨es,clock,e.trans hb,r⟩,hs⟩
def aS.congr(h:aS w P k b f)(e:∀kl,f kl=g kl):aS w P k b g:=by have:f=g:=funext e;rw[<-this];exact h
def mG(hk:WideAt.IsKeyLit kl):kl.sameKey kl=true:=by
 cases kl<;>simp_all [Lit.sameKey,WideAt.IsKeyLit]
def upd_same(hk:WideAt.IsKeyLit kl)(f:Lit->Option aj)(v:aj):upd f kl v kl=some v:=by simp[upd,mG hk]
def fI(hk:k'≠kl)(f:Lit->Option aj)(v:aj):upd f kl v k'=f k':=by simp[upd,Maps.sameKey_ne hk]
def mH(hk:WideAt.IsKeyLit kl)(f:Lit->Option aj):del f kl kl=none:=by simp[del,mG hk]
def kq(hk:k'≠kl)(f:Lit->Option aj):del f kl k'=f k':=by simp[del,Maps.sameKey_ne hk]
def Says.put{D:DataW aj}(h:Says D f)(hm:Maps.IsMap D){kl:Lit}(hk:WideAt.IsKeyLit kl)(v:aj):Says (D.put kl (.held v)) (upd f kl v):=by
 refine⟨fun k' v' hv z=>?_,fun k'=>?_⟩
 ·by_cases e:k'=kl
  ·subst e;rw[upd_same hk]at hv;cases hv;exact Maps.atKey_put_same hm hk _ _
  ·rw[fI e]at hv;rw[Maps.atKey_put_other e];exact h.1 k' v' hv z
 ·by_cases e:k'=kl
  ·subst e;rw[Maps.has_put_same hm hk,upd_same hk];rfl
  ·rw[Maps.has_put_other e,fI e];exact h.2 k'
def Says.del{D:DataW aj}(h:Says D f){kl:Lit}(hk:WideAt.IsKeyLit kl):Says (D.del kl) (del f kl):=by
 refine⟨fun k' v' hv z=>?_,fun k'=>?_⟩
 ·by_cases e:k'=kl
  ·subst e;rw[mH hk]at hv;cases hv
  ·rw[kq e]at hv;rw[Maps.atKey_del_other e];exact h.1 k' v' hv z
 ·by_cases e:k'=kl
  ·subst e;rw[Maps.has_del_same,mH hk];rfl
  ·rw[Maps.has_del_other e,kq e];exact h.2 k'
def aS.look_ok(h:aS w P k b f){t e:az}(K:Keyed P k)(ht:P.underlying t=some (.map k e)){z:aj}(hz:(zeroValue e).run P w=.ok z w){key:aj}{kl:Lit}(hkey:keyOf P k key=some kl):
 (Instr.lookup t (.map (some b)) key true).run P w=.ok (.tuple #[(f kl).getD z,.bool (f kl).isSome]) w:=by
 obtain⟨n,D,h,hs⟩:=h;obtain⟨v,ps,hrun,hv⟩:=h.look_ok K ht hz (zd:=.held z) (zp:= []) rfl hkey;rw[hrun,hs.2 kl];have:v=(f kl).getD z:=by
  simp only[aV,Option.some.injEq,Prod.mk.injEq]at hv;cases hf:f kl with
  |none=>
   have h0:=hs.2 kl;rw[hf]at h0;rw[Maps.atKey_of_not_has h0]at hv;have:=hv.1;injection this
  |some u=>
   rw[hs.1 kl u hf]at hv;have:=hv.1;injection this
 rw[this]
def aS.look(h:aS w P k b f){t e:az}(K:Keyed P k)(ht:P.underlying t=some (.map k e))(hz:(zeroValue e).run P w=.ok z w){key:aj}(hkey:keyOf P k key=some kl):
 (Instr.lookup t (.map (some b)) key false).run P w=.ok ((f kl).getD z) w:=by
 obtain⟨n,D,h,hs⟩:=h;obtain⟨v,ps,hrun,hv⟩:=h.lookup K ht hz (zd:=.held z) (zp:= []) rfl hkey;rw[hrun];have:v=(f kl).getD z:=by
  simp only[aV,Option.some.injEq,Prod.mk.injEq]at hv;cases hf:f kl with
  |none=>
   have h0:=hs.2 kl;rw[hf]at h0;rw[Maps.atKey_of_not_has h0]at hv;have:=hv.1;injection this
  |some u=>
   rw[hs.1 kl u hf]at hv;have:=hv.1;injection this
 rw[this]
def jE{α:Type}:∀(l L:List α),l.Pairwise (fun a b=>a≠b)->(∀x∈l,x∈L)->l.length<=L.length
 | [],_,_,_=>zak _
 |x :: r,L,hp,hs=>by
  obtain⟨hx,hr⟩:=List.pairwise_cons.1 hp;obtain⟨A,B,rfl⟩:=List.append_of_mem (hs x (List.mem_cons_self ..));have:=jE r (A++B) hr (fun y hy=>by
   have h1:=hs y (List.mem_cons_of_mem _ hy);simp only[List.mem_append,List.mem_cons]at h1⊢;rcases h1 with h1|h1|h1
   ·exact Or.inl h1
   ·exact absurd h1.symm (hx y hy)
   ·exact Or.inr h1)
  simp at this⊢;omega
def tight{D:DataW aj}{n:Nat}(h:w.ownsMap P k aV b n D)(K:Keyed P k)(hs:Says D f){L:List Lit}(hL:∀kl,f kl≠none->kl∈L):w.ownsMap P k aV b L.length D:=by
 have ht:=h.entries K;obtain⟨es,clock,hb,F,hn,hD⟩:=h;refine⟨es,clock,hb,F,?_,hD⟩;obtain⟨es',hD',hp,hks⟩:=ht;have e1:es.size=es'.length:=by rw[hD']at hD;injection hD with hD;rw[hD,length_sorted];simp
 rw[e1,<-zas (f:=Prod.fst)];refine jE _ _ (List.pairwise_map.2 hp) (fun kl ot=>hL kl (fun e=>?_));have h2:=hs.2 kl;rw[e]at h2;obtain⟨p,ru,rfl⟩:=zat.1 ot;have hk:=hks p ru;have:Maps.has D p.1=true:=by rw[hD',Maps.has_eq,zap];exact⟨p,ru,mG hk⟩
 rw[this]at h2;cases h2
def aS.store(h:aS w P k b f){t e:az}(K:Keyed P k)(ht:P.underlying t=some (.map k e))(L:List Lit)(hL:∀kl,f kl≠none->kl∈L)(hn:L.length<maxLen){key:aj}{kl:Lit}(hkey:keyOf P k key=some kl)(v:aj):
 ∃w',(Instr.mapUpdate t (.map (some b)) key v).run P w=.ok () w'/\aS w' P k b (upd f kl v)/\w.mapTurned w' b:=by obtain⟨n,D,h,hs⟩:=h;obtain⟨w',hrun,h',ht'⟩:=(tight h K hs hL).store K ht hn (d:=.held v) (ps:= []) hkey rfl;exact⟨w',hrun,⟨_,_,h',hs.put h.isMap (K.key hkey) v⟩,ht'⟩
def aS.drop(h:aS w P k b f){t e:az}(K:Keyed P k)(ht:P.underlying t=some (.map k e)){key:aj}{kl:Lit}(hkey:keyOf P k key=some kl)(ty:az):
 ∃w',(Builtin.delete_ #[t,k] ty #[.map (some b),key]).run P w=.ok (.tuple #[]) w'/\aS w' P k b (del f kl)/\w.mapTurned w' b:=by obtain⟨n,D,h,hs⟩:=h;obtain⟨w',hrun,h',ht'⟩:=h.drop K ht hkey ty;exact⟨w',hrun,⟨_,_,h',hs.del (K.key hkey)⟩,ht'⟩
def Ey(h:w.mapTurned w' b):w'.heap.size=w.heap.size:=by obtain⟨es,clock,es',clock',hb,rfl⟩:=h;simp[ChangeMaps.setBlock]
def Cg(h:w.mapTurned w' b){k:Nat}(hk:k≠b):w'.heap[k]?=w.heap[k]? :=by obtain⟨es,clock,es',clock',hb,rfl⟩:=h;exact ChangeMaps.heap_setBlock_other hb _ hk
end
section
variable {P:aB}(w:af){ops:Array Oper}{rest:List Oper}{o:Oper}{a:Act}{Q:Exit->Act->af->Prop}
def bZ(hg:o.guard=none)(m x:aD)(t:az)(hop:o.op=Op.lookup t m x true)
 (k e:az) (K:Keyed P k) (ht:P.underlying t=some (.map k e)) {z:aj} (hz:(zeroValue e).run P w=.ok z w) (b:Nat) (f:Lit->Option aj)
 (hm:a.eval m=.map (some b)) (hown:aS w P k b f) (key:aj) (kl:Lit) (hx:a.eval x=key) (hkey:keyOf P k key=some kl) (fv:Option aj) (hf:f kl=fv)
 (hK:wpList P ops Q rest (a.put o.dst (.tuple #[fv.getD z,.bool fv.isSome])) w):
 wpList P ops Q (o :: rest) a w:=by refine wpList_plain hg fun K' hK'=>?_;have hrun:=hown.look_ok K ht hz hkey;rw[hf]at hrun;unfold Oper.wp;simp[execOp,hop,hm,hx,hrun,Result.andThen];exact hK' _ _ hK
def nD(hg:o.guard=none)(m x:aD)(t:az)(hop:o.op=Op.lookup t m x false)
 (k e:az) (K:Keyed P k) (ht:P.underlying t=some (.map k e)) {z:aj} (hz:(zeroValue e).run P w=.ok z w) (b:Nat) (f:Lit->Option aj)
 (hm:a.eval m=.map (some b)) (hown:aS w P k b f) (key:aj) (kl:Lit) (hx:a.eval x=key) (hkey:keyOf P k key=some kl) (fv:Option aj) (hf:f kl=fv)
 (hK:wpList P ops Q rest (a.put o.dst (fv.getD z)) w):
 wpList P ops Q (o :: rest) a w:=by refine wpList_plain hg fun K' hK'=>?_;have hrun:=hown.look K ht hz hkey;rw[hf]at hrun;unfold Oper.wp;simp[execOp,hop,hm,hx,hrun,Result.andThen];exact hK' _ _ hK
def oW(hg:o.guard=none)(m x v:aD)(t:az)(hop:o.op=Op.mapUpdate t m x v)
 (k e:az) (K:Keyed P k) (ht:P.underlying t=some (.map k e)) (b:Nat) (f:Lit->Option aj)
 (hm:a.eval m=.map (some b)) (hown:aS w P k b f) (L:List Lit) (hL:∀kl,f kl≠none->kl∈L) (hn:L.length<maxLen) (key val:aj) (kl:Lit) (hx:a.eval x=key) (hv:a.eval v=val) (hkey:keyOf P k key=some kl)
 (hK:∀w',aS w' P k b (upd f kl val)->w.mapTurned w' b->wpList P ops Q rest (a.put o.dst undef) w'):
 wpList P ops Q (o :: rest) a w:=by refine wpList_plain hg fun K' hK'=>?_;obtain⟨w',hrun,r1,r2⟩:=hown.store K ht L hL hn hkey val;unfold Oper.wp;simp[execOp,hop,hm,hx,hv,hrun,Result.andThen];exact hK' _ _ (hK w' r1 r2)
def oX(hg:o.guard=none)(m x:aD)(t k:az)(hop:o.op=Op.call {callee:=Callee.builtin Builtin.delete,args:=#[m,x],argTypes:=#[t,k]})
 (e:az) (K:Keyed P k) (ht:P.underlying t=some (.map k e)) (b:Nat) (f:Lit->Option aj)
 (hm:a.eval m=.map (some b)) (hown:aS w P k b f) (key:aj) (kl:Lit) (hx:a.eval x=key) (hkey:keyOf P k key=some kl)
 (hK:∀w',aS w' P k b (del f kl)->w.mapTurned w' b->wpList P ops Q rest (a.put o.dst (.tuple #[])) w'):
 wpList P ops Q (o :: rest) a w:=by refine wpList_plain hg fun K' hK'=>?_;obtain⟨w',hrun,r1,r2⟩:=hown.drop K ht hkey o.type;unfold Oper.wp;simp[execOp,hop,resolve,invoke,builtin,hm,hx,hrun,Result.andThen];exact hK' _ _ (hK w' r1 r2)
end
end
section
open Go Go.RowKit
def uH(s:ah)(w:af)(hs:s.size<=maxLen):
 Calls prog 49 #[.string s] w fun e w'=>e=.returned (.bool (bK s))/\w'=w:=by
 unfold maxLen at hs;by_cases h1:1<=s.size
 ·go_enter func49,ntmps49;go_wp2;go_ret;exact⟨cL (by rw[Bool.eq_iff_iff];simp[bK];omega),rfl⟩
 ·go_enter func49,ntmps49;go_wp2;go_ret;exact⟨cL (by rw[Bool.eq_iff_iff];simp[bK];omega),rfl⟩
def oL(m:Int):Bool:=decide (1<=m)&& decide (m<=3)
def yc(m:Int)(w:af):
 Calls prog 66 #[.int .i64 m] w fun e w'=>e=.returned (.bool (oL m))/\w'=w:=by
 by_cases h1:m=1
 ·subst h1;go_enter func66,ntmps66;go_wp2;go_ret;exact⟨cL rfl,rfl⟩
 ·have g1:(m == 1)=false:=beq_eq_false_iff_ne.2 h1;by_cases h2:m=2
  ·subst h2;go_enter func66,ntmps66;go_wp2;go_ret;exact⟨cL rfl,rfl⟩
  ·have g2:(m == 2)=false:=beq_eq_false_iff_ne.2 h2;go_enter func66,ntmps66;go_wp2;go_ret;exact⟨cL (by rw[Bool.eq_iff_iff];simp[oL];omega),rfl⟩
def yd(w:af)(src dst e:az)(s:ah)(hs:P.underlying src=some .string)(hd:P.underlying dst=some (.slice e))(he:P.underlying e=some (.int .u8)):
 ∃cap W,(convert src dst (.string s)).run P w=.ok (.slice (some ⟨w.heap.size,0,none⟩) s.size cap) W/\Below w.heap.size w W/\(∀j (hj:j<s.size),W.cell? ⟨w.heap.size,j,none⟩=some (.int .u8 (s[j].toNat:Int))):=by
 refine⟨_,_,run_bytes_of_string w src dst e s hs hd he,((Below.refl _ _).drew.alloc (zae _) _),fun j hj=>?_⟩;have h:=bytesRow_at s (grownCap w s.size 0 e) j hj;have hh:∀(o:Obj),(w.drew.alloc o).heap[w.heap.size]?=some o:=fun o=>by show (w.heap.push o)[w.heap.size]?=_;simp
 simp only[World.cell?,hh,Option.isSome_none,Bool.false_eq_true,if_false];exact h
def rD(b:Nat)(n:Nat)(a:Option aA)(cap:Nat)(s:ah)(w:af)(hs:s.size<=1000)(hn:0<n)(hn':n<=4)(hp:w.cell? ⟨b,1,none⟩=some (.slice a n cap)):
 Calls prog 50 #[ptr b,.string s] w fun e w'=>e=.returned (.int .i64 (partOf n s))/\Below w.heap.size w w':=by
 obtain⟨cb,W,hcv,hB,hcell⟩:=yd (P:=prog) w 9 116 5 s underlying9 underlying116 underlying5;have ru:W.cell? ⟨b,1,none⟩=some (.slice a n cap):=(hB.cell (p:=⟨b,1,none⟩) (zaj w _ hp)).trans hp;unfold ptr;go_enter func50,ntmps50;go_wp2;go_loop [5,11] (fun m i=>∃k:Nat,k<=s.size/\i=.int .i64 k/\m=.int .i64 (iW (s.data.toList.take k))) (fun _ i=>s.size-(intOf i).toNat)
 case atStart=>exact⟨0,zak _,rfl,rfl⟩
 case round=>
  obtain⟨k,hk,rfl,rfl⟩:=hrel;have hd:=GX (s.data.toList.take k);have hl:(s.data.toList.take k).length<=k:=List.length_take_le _ _;by_cases hlt:k<s.size
  ·have HS:Hid (iW (s.data.toList.take (k+1))=iW (s.data.toList.take k)+(s[k].toNat:Int)):=by rw[AP s k hlt];exact Ch _ _
   have ck:=hcell k hlt;have hb:=s[k].toNat_lt;generalize s[k]=c at *;clear hcell;go_wp2;go_round
   case rel=>exact⟨k+1,by omega,by go_num,by rw[HS.out]⟩
   case measure=>simp[intOf];omega
  ·clear hcell;go_wp2;go_ret;exact⟨gX (by rw[zaw (by simp;omega)];rfl),hB⟩
end
section
open Go Go.RowKit
open Go.Maps (Keyed)
def bl(n:Int)(l:List KV)(q:Int):List KV:=l.filter (fun x=>decide (partOf n x.1=q))
def bL(m:MW)(q:Nat):Int:=if m.comm q then 2 else if m.dH q then 1 else 0
def fY:aj:=.slice none 0 0
def eN:aj:=.int .i32 0
def fV:aj:=.int .u32 0
structure SB where
 rm:Nat
 pr:Nat->Nat
 qm:Nat->Nat
 qb:Nat->Nat->Nat
 no:Nat->Bool
 ks:Nat->aj
 hv:Nat->Nat->Bool
 tv:Nat->Nat->ah
 ts:Nat->Nat->aj
def dK(rs:List MR)(B:SB):Lit->Option aj
 |.int .i64 n=>match ed rs n with
  |some _=>some (ptr (B.pr (n-1).toNat))
  |none=>none
 |_=>none
def Hp(keys:List ah)(l:List UInt8):Nat:=keys.findIdx (fun x=>decide (x.data.toList=l))
def cW(B:SB)(i:Nat)(r:MR):Lit->Option aj
 |.string l=>if Hp r.keys l<r.keys.length then some (ptr (B.qb i (Hp r.keys l)))else none
 |_=>none
structure RdS(w:af)(τ:Nat->Tag)(aO:Nat)(n:Nat)(pb:Nat->Nat)(rs:List MR)(B:SB):Prop where
 rC:aS w prog 3 B.rm (dK rs B)
 iq:τ B.rm=(aO,10,0)
 rd:∀(i:Nat) (r:MR),rs[i]?=some r->r.fin=false->bg w (B.pr i) #[eN,fV,.bool (B.no i),B.ks i,.map (some (B.qm i))] 137
 iI:∀(i:Nat) (r:MR),rs[i]?=some r->r.fin=false->τ (B.pr i)=(aO,11,i)
 vV:∀(i:Nat) (r:MR),rs[i]?=some r->r.fin=false->aS w prog 9 (B.qm i) (cW B i r)
 mI:∀(i:Nat) (r:MR),rs[i]?=some r->r.fin=false->τ (B.qm i)=(aO,12,i)
 q:∀(i:Nat) (r:MR) (j:Nat) (x:ah),rs[i]?=some r->r.fin=false->r.keys[j]?=some x->bg w (B.qb i j) #[ptr (pb (partOf n x).toNat),.bool (r.asked j),.int .i64 (r.found j),.bool (B.hv i j),.string (B.tv i j),B.ts i j] 146
 lu:∀(i:Nat) (r:MR) (j:Nat) (x:ah),rs[i]?=some r->r.fin=false->r.keys[j]?=some x->τ (B.qb i j)=(aO,13,i*8+j)
 ky:∀(i:Nat) (r:MR),rs[i]?=some r->r.fin=false->w.ownsRow 0 9 1 (B.ks i) r.keys.length (r.keys.map Value.string)
 dJ:∀(i:Nat) (r:MR) (k:Nat),rs[i]?=some r->r.fin=false->(B.ks i).ownBlock=some k->τ k=(aO,14,i)
def RdS.frame{τ τ':Nat->Tag}{n:Nat}{pb:Nat->Nat}{rs:List MR}{B:SB}(h:RdS w τ aO n pb rs B)
 (hf:∀k,k<w.heap.size->(τ k).1=aO->10<=(τ k).2.1->w'.heap[k]?=w.heap[k]? /\τ' k=τ k):RdS w' τ' aO n pb rs B:=by
 have mK:∀{k:Nat} {c:Array aj} {t:az} {g g':Nat},10<=g->bg w k c t->τ k=(aO,g,g')->bg w' k c t/\τ' k=(aO,g,g'):=by intro k c t g g' hg hb ht;obtain⟨e1,e2⟩:=hf k hb.lt (by rw[ht]) (by rw[ht];exact hg);exact⟨hb.of_eq e1,e2.trans ht⟩
 have hmap:∀{k:Nat} {t:az} {f:Lit->Option aj} {g g':Nat},10<=g->aS w prog t k f->τ k=(aO,g,g')->aS w' prog t k f/\τ' k=(aO,g,g'):=by intro k t f g g' hg hb ht;obtain⟨e1,e2⟩:=hf k hb.lt (by rw[ht]) (by rw[ht];exact hg);exact⟨hb.of_eq e1,e2.trans ht⟩
 exact⟨(hmap (by omega) h.rC h.iq).1,(hmap (by omega) h.rC h.iq).2,
  fun i r a c=>(mK (by omega) (h.rd i r a c) (h.iI i r a c)).1,fun i r a c=>(mK (by omega) (h.rd i r a c) (h.iI i r a c)).2,
  fun i r a c=>(hmap (by omega) (h.vV i r a c) (h.mI i r a c)).1,fun i r a c=>(hmap (by omega) (h.vV i r a c) (h.mI i r a c)).2,
  fun i r j x a c e=>(mK (by omega) (h.q i r j x a c e) (h.lu i r j x a c e)).1,fun i r j x a c e=>(mK (by omega) (h.q i r j x a c e) (h.lu i r j x a c e)).2,
  fun i r a c=>aH (h.ky i r a c) (fun k hk=>(hf k (aQ (h.ky i r a c) k hk).2 (by rw[h.dJ i r k a c hk]) (by rw[h.dJ i r k a c hk];simp)).1),
  fun i r k a c hk=>by rw[(hf k (aQ (h.ky i r a c) k hk).2 (by rw[h.dJ i r k a c hk]) (by rw[h.dJ i r k a c hk];simp)).2,h.dJ i r k a c hk]⟩
structure SA where
 cG:aj
 pb:Nat->Nat
 kb:Nat->Nat
 vb:Nat->Nat
 wm:Nat
 pw:Nat->Nat
 sm:Nat->Nat
 sh:Nat->Nat->Nat
 iv:Nat->Nat->aj
 sv:Nat->aj
 vis:Nat->List UInt8->Nat
 R:SB
def cQ(s:MS)(A:SA):Lit->Option aj
 |.int .i64 n=>match bI s n with
  |some _=>some (ptr (A.pw (n-1).toNat))
  |none=>none
 |_=>none
def bM(s:MS)(A:SA)(q:Nat):Lit->Option aj
 |.int .i64 n=>match bI s n with
  |some m=>if m.dH q then some (.agg #[A.iv (n-1).toNat q,A.sv (n-1).toNat])else none
  |none=>none
 |_=>none
def bQ(s:MS)(A:SA)(i:Nat)(m:MW):Lit->Option aj
 |.int .i64 q=>if aJ s.parts m.items q=true then some (ptr (A.sh i q.toNat))else none
 |_=>none
def Cy(A:SA)(q:Nat):Lit->Option aj
 |.string l=>if A.vis q l=0 then none else some (.int .i64 (A.vis q l))
 |_=>none
structure JI(s:MS)(q:Nat)(v:List UInt8->Nat):Prop where
 seen:∀l,v l≠0->∃m,s.ws[v l-1]?=some m/\m.comm q=true/\∃x∈m.items,x.1.data.toList=l/\partOf s.parts x.1=q
 top:∀(i:Nat) (m:MW) (x:KV),s.ws[i]?=some m->m.comm q=true->x∈m.items->partOf s.parts x.1=q->i+1<=v x.1.data.toList
structure ahk(s:MS):Prop where
 cp:∀(i:Nat) (m:MW) (q:Nat),s.ws[i]?=some m->m.comm q=true->m.dH q=true
 po:∀(i:Nat) (m:MW) (q:Nat),s.ws[i]?=some m->m.dH q=true->aJ s.parts m.items q=true
 cc:∀(i:Nat) (m:MW) (q:Nat),s.ws[i]?=some m->m.dP=true->m.comm q=false
def zO(v:aj):Prop:=v=.nilIface\/∃t x,v=.iface t x
def fO(l:List KV)(k:ah):Option ah:=(l.find? (fun x=>decide (x.1=k))).map (fun x=>x.2)
structure yy(s:MS)(A:SA):Prop where
 sv:∀(i:Nat) (m:MW),s.ws[i]?=some m->zO (A.sv i)
 no:∀(i:Nat) (r:MR),s.rs[i]?=some r->r.fin=false->A.R.no i=(decide (s.mode=2)&& decide (1<r.keys.length))
 un:∀(i:Nat) (r:MR) (j:Nat),s.rs[i]?=some r->r.asked j=false->r.found j=0
 hv:∀(i:Nat) (r:MR) (j:Nat) (x:ah),s.rs[i]?=some r->r.fin=false->r.keys[j]?=some x->A.R.hv i j=(!A.R.no i && decide (r.found j≠0))
 tv:∀(i:Nat) (r:MR) (j:Nat) (x:ah),s.rs[i]?=some r->r.fin=false->r.keys[j]?=some x->A.R.hv i j=true->∃m,s.ws[r.found j-1]?=some m/\fO m.items x=some (A.R.tv i j)/\A.R.ts i j=A.sv (r.found j-1)
 t0:∀(i:Nat) (r:MR) (j:Nat) (x:ah),s.rs[i]?=some r->r.fin=false->r.keys[j]?=some x->A.R.hv i j=false->A.R.tv i j=⟨#[]⟩/\A.R.ts i j=.nilIface
 fm:∀(i:Nat) (r:MR) (j:Nat) (x:ah),s.rs[i]?=some r->r.fin=false->r.keys[j]?=some x->r.found j≠0->∃m,s.ws[r.found j-1]?=some m/\aP m.items x=true/\m.comm (partOf s.parts x).toNat=true
def yy.ws{s s':MS}{A A':SA}(h:yy s A)(hrs:s'.rs=s.rs)(hmode:s'.mode=s.mode)(X4:s'.parts=s.parts)(hR:A'.R=A.R)(zG:∀(i:Nat) (m:MW),s'.ws[i]?=some m->zO (A'.sv i))
 (hw:∀(i:Nat) (m:MW),s.ws[i]?=some m->∃m',s'.ws[i]?=some m'/\m'.items=m.items/\(∀q,m.comm q=true->m'.comm q=true)/\A'.sv i=A.sv i):yy s' A':=by
 refine⟨zG,fun i r a c=>?_,fun i r j a=>?_,fun i r j x a c e=>?_,fun i r j x a c e f=>?_,fun i r j x a c e f=>?_,fun i r j x a c e f=>?_⟩;all_goals rw[hrs]at a
 ·rw[hR,hmode];exact h.no i r a c
 ·exact h.un i r j a
 ·rw[hR];exact h.hv i r j x a c e
 ·rw[hR]at f⊢;obtain⟨m,hm,h1,h2⟩:=h.tv i r j x a c e f;obtain⟨m',hm',e1,_,e3⟩:=hw _ m hm;exact⟨m',hm',by rw[e1];exact h1,by rw[e3];exact h2⟩
 ·rw[hR]at f⊢;exact h.t0 i r j x a c e f
 ·obtain⟨m,hm,h1,h2⟩:=h.fm i r j x a c e f;obtain⟨m',hm',e1,e2,_⟩:=hw _ m hm;exact⟨m',hm',by rw[e1];exact h1,by rw[X4];exact e2 _ h2⟩
def jK(l:List UInt8):Int:=l.foldl (fun h b=>IntKind.u64.wrap (IntKind.u64.wrap (h*31)+(b.toNat:Int))) 0
def jg(s:ah):Int:=IntKind.u64.wrap (2 ^(jK s.data.toList % 64).toNat)
def UQ(m n:Int):Int:=IntKind.u64.wrap ((BitVec.ofInt IntKind.u64.bits m |||BitVec.ofInt IntKind.u64.bits n).toNat:Int)
def lX(K:List ah):Int:=K.foldl (fun m x=>UQ m (jg x)) 0
inductive EU(w:af)(τ:Nat->Tag)(aO i:Nat)(K:List ah):Int->aj->Prop
 |keys (v:aj):w.ownsRow 0 9 1 v K.length (K.map Value.string)->(∀k,v.ownBlock=some k->τ k=(aO,15,i))->EU w τ aO i K 1 (.iface 225 v)
 |mask:EU w τ aO i K 3 (.iface 226 (.int .u64 (lX K)))
 |none {mode:Int}:mode≠1->mode≠3->EU w τ aO i K mode .nilIface
def EU.of{τ τ':Nat->Tag}{mode:Int}{sv:aj}(h:EU w τ aO i K mode sv)(hf:∀k,k<w.heap.size->τ k=(aO,15,i)->w'.heap[k]?=w.heap[k]? /\τ' k=τ k):EU w' τ' aO i K mode sv:=by
 cases h with
 |keys v h1 h2=>exact .keys v (aH h1 (fun k hk=>(hf k (aQ h1 k hk).2 (h2 k hk)).1)) (fun k hk=>by rw[(hf k (aQ h1 k hk).2 (h2 k hk)).2,h2 k hk])
 |mask=>exact .mask
 |none h1 h3=>exact .none h1 h3
def Vh(mode:Int)(kv:aj)(K:List ah)(sv:aj):Prop:=(mode=1/\sv=.iface 225 kv)\/(mode=3/\sv=.iface 226 (.int .u64 (lX K)))\/(mode≠1/\mode≠3/\sv=.nilIface)
def Vh.isIf{mode:Int}{sv:aj}(h:Vh mode kv K sv):zO sv:=by
 rcases h with⟨_,rfl⟩|⟨_,rfl⟩|⟨_,_,rfl⟩
 ·exact .inr ⟨_,_,rfl⟩
 ·exact .inr ⟨_,_,rfl⟩
 ·exact .inl rfl
def Vh.ok{τ:Nat->Tag}{mode:Int}{sv:aj}(h:Vh mode kv K sv)(h1:w.ownsRow 0 9 1 kv K.length (K.map Value.string))(h2:∀k,kv.ownBlock=some k->τ k=(aO,15,i)):EU w τ aO i K mode sv:=by
 rcases h with⟨rfl,rfl⟩|⟨rfl,rfl⟩|⟨e1,e3,rfl⟩
 ·exact .keys kv h1 h2
 ·exact .mask
 ·exact .none e1 e3
structure a9(w:af)(τ:Nat->Tag)(aO b:Nat)(s:MS)(A:SA):Prop where
 ok:MOk s
 inv:ahk s
 told:yy s A
 blk:bg w b #[.int .i64 s.mode,A.cG,eN,fV,.int .i64 s.ws.length,.int .i64 s.rs.length,.map (some A.wm),.map (some A.R.rm)] 105
 tag:τ b=(aO,0,0)
 cG:w.ownsRow 0 130 1 A.cG s.parts ((List.range s.parts).map (fun q=>ptr (A.pb q)))
 eF:∀k,A.cG.ownBlock=some k->τ k=(aO,1,0)
 part:∀q,q<s.parts->bg w (A.pb q) #[eN,fV,.map (some (A.kb q)),.map (some (A.vb q))] 202
 dh:∀q,q<s.parts->τ (A.pb q)=(aO,2,q)
 kept:∀q,q<s.parts->aS w prog 3 (A.kb q) (bM s A q)
 cF:∀q,q<s.parts->τ (A.kb q)=(aO,3,q)
 tB:∀q,q<s.parts->aS w prog 9 (A.vb q) (Cy A q)
 eV:∀q,q<s.parts->τ (A.vb q)=(aO,4,q)
 lB:∀q,q<s.parts->JI s q (A.vis q)
 rE:aS w prog 3 A.wm (cQ s A)
 iJ:τ A.wm=(aO,5,0)
 wr:∀(i:Nat) (m:MW),s.ws[i]?=some m->m.dP=false->bg w (A.pw i) #[eN,fV,.int .i64 ((i:Int)+1),A.sv i,.bool false,.map (some (A.sm i))] 164
 fj:∀(i:Nat) (m:MW),s.ws[i]?=some m->m.dP=false->τ (A.pw i)=(aO,6,i)
 PG:∀(i:Nat) (m:MW),s.ws[i]?=some m->m.dP=false->aS w prog 3 (A.sm i) (bQ s A i m)
 iX:∀(i:Nat) (m:MW),s.ws[i]?=some m->m.dP=false->τ (A.sm i)=(aO,7,i)
 sh:∀(i:Nat) (m:MW) (q:Nat),s.ws[i]?=some m->m.dP=false->aJ s.parts m.items q=true->bg w (A.sh i q) #[ptr (A.pb q),.int .i64 (bL m q),if m.dH q then fY else A.iv i q] 174
 cM:∀(i:Nat) (m:MW) (q:Nat),s.ws[i]?=some m->m.dP=false->aJ s.parts m.items q=true->τ (A.sh i q)=(aO,8,i*4+q)
 it:∀(i:Nat) (m:MW) (q:Nat),s.ws[i]?=some m->m.dP=false->aJ s.parts m.items q=true->w.ownsRow 0 70 2 (A.iv i q) (bl s.parts m.items q).length (bn (bl s.parts m.items q))
 eZ:∀(i:Nat) (m:MW) (q:Nat) (k:Nat),s.ws[i]?=some m->m.dP=false->aJ s.parts m.items q=true->(A.iv i q).ownBlock=some k->τ k=(aO,9,i*4+q)
 reads:RdS w τ aO s.parts A.pb s.rs A.R
 KY:∀(i:Nat) (m:MW),s.ws[i]?=some m->EU w τ aO i (m.items.map Prod.fst) s.mode (A.sv i)
section
variable {w:af}{τ:Nat->Tag}{aO b:Nat}{s:MS}{A:SA}
def a9.frame(h:a9 w τ aO b s A){w':af}{τ':Nat->Tag}(hf:∀k,k<w.heap.size->(τ k).1=aO->w'.heap[k]?=w.heap[k]? /\τ' k=τ k):a9 w' τ' aO b s A:=by
 have mK:∀{k:Nat} {c:Array aj} {t:az} {g:Nat×Nat},bg w k c t->τ k=(aO,g)->bg w' k c t/\τ' k=(aO,g):=by intro k c t g hb ht;obtain⟨e1,e2⟩:=hf k hb.lt (by rw[ht]);exact⟨hb.of_eq e1,e2.trans ht⟩
 have hmap:∀{k:Nat} {t:az} {f:Lit->Option aj} {g:Nat×Nat},aS w prog t k f->τ k=(aO,g)->aS w' prog t k f/\τ' k=(aO,g):=by intro k t f g hb ht;obtain⟨e1,e2⟩:=hf k hb.lt (by rw[ht]);exact⟨hb.of_eq e1,e2.trans ht⟩
 have hrow:∀{e:az} {sz:Nat} {v:aj} {n:Nat} {xs:List aj} {g:Nat×Nat},w.ownsRow 0 e sz v n xs->(∀k,v.ownBlock=some k->τ k=(aO,g))->w'.ownsRow 0 e sz v n xs/\∀k,v.ownBlock=some k->τ' k=(aO,g):=by intro e sz v n xs g ho hv;refine⟨aH ho (fun k hk=>(hf k (aQ ho k hk).2 (by rw[hv k hk])).1),fun k hk=>?_⟩;rw[(hf k (aQ ho k hk).2 (by rw[hv k hk])).2,hv k hk]
 exact⟨h.ok,h.inv,h.told,(mK h.blk h.tag).1,(mK h.blk h.tag).2,(hrow h.cG h.eF).1,(hrow h.cG h.eF).2,
  fun q hq=>(mK (h.part q hq) (h.dh q hq)).1,fun q hq=>(mK (h.part q hq) (h.dh q hq)).2,
  fun q hq=>(hmap (h.kept q hq) (h.cF q hq)).1,fun q hq=>(hmap (h.kept q hq) (h.cF q hq)).2,
  fun q hq=>(hmap (h.tB q hq) (h.eV q hq)).1,fun q hq=>(hmap (h.tB q hq) (h.eV q hq)).2,h.lB,
  (hmap h.rE h.iJ).1,(hmap h.rE h.iJ).2,
  fun i m a c=>(mK (h.wr i m a c) (h.fj i m a c)).1,fun i m a c=>(mK (h.wr i m a c) (h.fj i m a c)).2,
  fun i m a c=>(hmap (h.PG i m a c) (h.iX i m a c)).1,fun i m a c=>(hmap (h.PG i m a c) (h.iX i m a c)).2,
  fun i m q a c o=>(mK (h.sh i m q a c o) (h.cM i m q a c o)).1,fun i m q a c o=>(mK (h.sh i m q a c o) (h.cM i m q a c o)).2,
  fun i m q a c o=>(hrow (h.it i m q a c o) (fun k=>h.eZ i m q k a c o)).1,fun i m q k a c o=>(hrow (h.it i m q a c o) (fun k=>h.eZ i m q k a c o)).2 k,h.reads.frame (fun k hk h1 _=>hf k hk h1),
  fun i m a=>(h.KY i m a).of fun k hk ht=>hf k hk (by rw[ht])⟩
structure vX(w w':af):Prop where
 heap:w'.heap=w.heap
 os:w'.os=w.os
 tape:w'.tape=w.tape
 output:w'.output=w.output
def vX.ou(h:vX w w')(s:Nat)(τ:Nat->Tag):Stp s τ w τ w':=⟨h.os,h.tape,h.output,by rw[h.heap];exact zae _,fun _ _=>rfl,fun k _ _=>by rw[h.heap]⟩
def a9.same(h:a9 w τ aO b s A)(hs:vX w w'):a9 w' τ aO b s A:=h.frame (fun k _ _=>⟨by rw[hs.heap],rfl⟩)
def a9.below(h:a9 w τ aO b s A)(hb:Below w.heap.size w w'):a9 w' τ aO b s A:=h.frame (fun k hk _=>⟨hb.block k hk,rfl⟩)
def fX{o:Nat}{t:az}(h:bg w b c t)(hc:c[o]?=some eN)(v:aj):vX w ((w.setCell ⟨b,o,none⟩ v).setCell ⟨b,o,none⟩ eN):=by
 refine⟨?_,rfl,rfl,rfl⟩;apply zam;intro i;by_cases e:i=b
 ·subst e;have h1:((w.setCell ⟨i,o,none⟩ v).setCell ⟨i,o,none⟩ eN).heap[i]?=some (.cells ((c.setIfInBounds o v).setIfInBounds o eN) t (0,0)):=(h.set o v).set o eN;have h2:w.heap[i]?=some (.cells c t (0,0)):=h;rw[h1,h2];obtain⟨ho,hv⟩:=zai.1 hc;congr 2;apply zam;intro j;by_cases e:o=j
  ·subst e;simp[ho,hv]
  ·simp[e]
 ·rw[zac _ _ _ _ e,zac _ _ _ _ e]
end
end
section
open Go Go.RowKit Go.MuLone
open Go.Maps (Keyed)
def eB:Keyed prog 3:=Maps.int_keyed underlying3
def fT:Keyed prog 9:=Maps.string_keyed underlying9
def XS(h: -9223372036854775808<=n)(h':n<=9223372036854775807):(Lit.int .i64 n).wf=true:=WalkArith.wf_i64 ⟨h,h'⟩
def keyOf_int(h: -9223372036854775808<=n)(h':n<=9223372036854775807):keyOf prog 3 (.int .i64 n)=some (.int .i64 n):=Maps.keyOf_int_mk underlying3 (XS h h')
def fG(h:s.size<=maxLen):keyOf prog 9 (.string s)=some (.string s.data.toList):=WideMaps.keyOf_string_mk underlying9 h
def PN(w:af):(zeroValue 118).run prog w=.ok (.pointer none) w:=by kernel_rfl
def uI(w:af):(zeroValue 168).run prog w=.ok (.pointer none) w:=by kernel_rfl
def mJ(w:af):(zeroValue 214).run prog w=.ok (.agg #[.slice none 0 0,.nilIface]) w:=by kernel_rfl
def yx(x y:aj)(w:af):(Instr.field 214 (.agg #[x,y]) 0).run prog w=.ok x w:=by kernel_rfl
def XT(x y:aj)(w:af):(Instr.field 214 (.agg #[x,y]) 1).run prog w=.ok y w:=by kernel_rfl
def Cz(w:af):(zeroValue 3).run prog w=.ok (.int .i64 0) w:=by kernel_rfl
section
variable {w:af}{τ:Nat->Tag}{aO b:Nat}{s:MS}{A:SA}
def a9.abZ(h:a9 w τ aO b s A):∃a cap,A.cG=.slice a s.parts cap/\w.cell? ⟨b,1,none⟩=some (.slice a s.parts cap):=by obtain⟨a,cap,hv⟩:=cy h.cG;exact⟨a,cap,hv,by rw[<-hv];exact h.blk.cell (o:=1) rfl⟩
def Jg(h:a9 w τ aO b s A)(k:ah)(hk:k.size<=maxLen):
 Calls prog 27 #[ptr b,.string k] w fun e w'=>e=.returned (.tuple #[.int .i64 (if bK k then partOf s.parts k else 0),.int .i64 (if bK k then 0 else 4)])/\Below w.heap.size w w':=by
 have c:=uH k w hk;have FX:=h.ok.p4;have hp1:=h.ok.p1;unfold ptr;cases hg:bK k with
 |true=>
  have hsz:1<=k.size/\k.size<=8:=by simpa[bK]using hg
  obtain⟨a,cap,_,cP⟩:=h.abZ;have cp:=rD b s.parts a cap k w (by omega) (by omega) (by omega) cP;unfold ptr at cp;rw[hg]at c;clear hg;go_enter func27,ntmps27;go_wp2_with fail
  refine c.mono ?_;rintro e w' ⟨rfl,rfl⟩;go_wp2_with fail
  refine cp.mono ?_;rintro e w' ⟨rfl,hB⟩;go_wp2_with fail
  go_ret2
  exact⟨rfl,hB⟩
 |false=>
  rw[hg]at c;clear hg;go_enter func27,ntmps27;go_wp2_with fail
  refine c.mono ?_;rintro e w' ⟨rfl,rfl⟩;go_wp2_with fail
  go_ret2
  exact⟨rfl,Below.refl _ _⟩
def eJ(s:MS)(A:SA)(n:Int):aj×Bool:=match bI s n with
 |some _=>(ptr (A.pw (n-1).toNat),true)
 |none=>(.pointer none,false)
def yf(h:a9 w τ aO b s A)(n:Int)(hn: -9223372036854775808<=n)(hn':n<=9223372036854775807):
 Calls prog 51 #[ptr b,.int .i64 n] w fun e w'=>e=.returned (.tuple #[(eJ s A n).1,.bool (eJ s A n).2])/\vX w w':=by
 have c2:w.cell? ⟨b,2,none⟩=some (.int .i32 0):=h.blk.cell (o:=2) rfl;have c5:w.cell? ⟨b,6,none⟩=some (.map (some A.wm)):=h.blk.cell (o:=6) rfl;have f2:=h.blk.frozen 2;have hM:∀v,aS (w.setCell ⟨b,2,none⟩ v) prog 3 A.wm (cQ s A):=fun v=>h.rE.of_eq (zac _ _ _ _ (fun e=>by have:=h.iJ;rw[e,h.tag]at this;simp at this));have eD:=fX h.blk (o:=2) rfl (.int .i32 1);unfold eN at eD;obtain⟨fv,aL,hval⟩:∃fv,cQ s A (.int .i64 n)=fv/\(eJ s A n).1=fv.getD (.pointer none)/\(eJ s A n).2=fv.isSome:=by refine⟨_,rfl,?_⟩;unfold cQ eJ;cases hf:bI s n<;>simp only[hf]<;>exact⟨rfl,rfl⟩
 rw[hval.1,hval.2];unfold ptr;go_enter_defers func51,ntmps51;go_wp2_with (first|(go_at_call 37;refine(lock_free Tryz.bA ⟨b,2,none⟩ _ c2 f2).mono ?_;rintro e w' ⟨rfl,rfl⟩)|(at_lookup;refine bZ _ rfl _ _ 102 rfl 3 118 eB underlying102 (PN _) A.wm (cQ s A) rfl (hM _) _ (.int .i64 n) rfl (keyOf_int hn hn') fv aL ?_))
 refine leaves_cons (f:=38) (args:=#[.pointer (some ⟨b,2,none⟩)]) (by simp) (by simp[go_sem]) ?_;refine(unlock_deferred Tryz.bA ⟨b,2,none⟩ .returning _ ?_ ?_).mono ?_
 ·exact World.cell?_setCell_same w ⟨b,2,none⟩ (.int .i32 1) c2
 ·simp[f2]
 rintro e u' w'' ⟨rfl,rfl,rfl⟩;exact⟨_,results_tmp2 rfl _ _ _,rfl,eD⟩
def eK(s:MS)(A:SA)(i:Nat)(m:MW)(p:Int):aj×Int:=if aJ s.parts m.items p=true then(ptr (A.sh i p.toNat),0)else(.pointer none,8)
def A9{v':aj}{a b:Int}(h:(v,a)=(v',b)):Ending.returned (.tuple #[v,.int .i64 a])=.returned (.tuple #[v',.int .i64 b]):=by cases h;rfl
def vD(pw sm:Nat)(i:Nat)(m:MW)(p:Int)(w:af)(hp: -9223372036854775808<=p)(ru:p<=9223372036854775807)(c3:w.cell? ⟨pw,4,none⟩=some (.bool false))(c4:w.cell? ⟨pw,5,none⟩=some (.map (some sm)))(hM:aS w prog 3 sm (bQ s A i m)):
 Calls prog 88 #[ptr pw,.int .i64 p] w fun e w'=>e=.returned (.tuple #[(eK s A i m p).1,.int .i64 (eK s A i m p).2])/\w'=w:=by
 unfold ptr;cases ho:aJ s.parts m.items p with
 |true=>
  have aL:bQ s A i m (.int .i64 p)=some (.pointer (some ⟨A.sh i p.toNat,0,none⟩)):=by simp only[bQ,ho,if_true];rfl
  have Hr:Hid (eK s A i m p=(.pointer (some ⟨A.sh i p.toNat,0,none⟩),0)):=by unfold Hid eK;rw[ho];rfl
  clear ho;go_enter func88,ntmps88;go_wp2_with (at_lookup;refine bZ _ rfl _ _ 162 rfl 3 168 eB underlying162 (uI _) sm (bQ s A i m) rfl hM _ (.int .i64 p) rfl (keyOf_int hp ru) _ aL ?_)
  go_ret2
  exact⟨A9 Hr.out.symm,rfl⟩
 |false=>
  have aL:bQ s A i m (.int .i64 p)=none:=by simp[bQ,ho]
  have Hr:Hid (eK s A i m p=(.pointer none,8)):=by unfold Hid eK;rw[ho];rfl
  clear ho;go_enter func88,ntmps88;go_wp2_with (at_lookup;refine bZ _ rfl _ _ 162 rfl 3 168 eB underlying162 (uI _) sm (bQ s A i m) rfl hM _ (.int .i64 p) rfl (keyOf_int hp ru) _ aL ?_)
  go_ret2
  exact⟨A9 Hr.out.symm,rfl⟩
end
end
section
open Go Go.RowKit Go.MuLone
open Go.Maps (Keyed)
structure qC(w w':af)(b:Nat):Prop where
 os:w'.os=w.os
 tape:w'.tape=w.tape
 output:w'.output=w.output
 size:w'.heap.size=w.heap.size
 block:∀k,k≠b->w'.heap[k]?=w.heap[k]?
def qC.fK(h:w.mapTurned w' b):qC w w' b:=⟨h.grown.os,h.grown.tape,h.grown.output,Ey h,fun _ hk=>Cg h hk⟩
def qC.locked{w1:af}{o kb:Nat}{t:az}(hb:bg w b c t)(hc:c[o]?=some eN)(v:aj)(h:qC (w.setCell ⟨b,o,none⟩ v) w1 kb)(hne:b≠kb):qC w (w1.setCell ⟨b,o,none⟩ eN) kb:=by
 refine⟨h.os,h.tape,h.output,by simpa[World.setCell]using h.size,fun k hk=>?_⟩;by_cases e:k=b
 ·subst e;have h1:bg (w1.setCell ⟨k,o,none⟩ eN) k ((c.setIfInBounds o v).setIfInBounds o eN) t:=((hb.set o v).of_eq (h.block k hne)).set o eN;have h2:bg ((w.setCell ⟨k,o,none⟩ v).setCell ⟨k,o,none⟩ eN) k ((c.setIfInBounds o v).setIfInBounds o eN) t:=(hb.set o v).set o eN;have h3:=(fX hb hc v).heap;rw[show (w1.setCell ⟨k,o,none⟩ eN).heap[k]?=_ from h1,<-show ((w.setCell ⟨k,o,none⟩ v).setCell ⟨k,o,none⟩ eN).heap[k]?=_ from h2,h3]
 ·rw[zac _ _ _ _ e,h.block k hk,zac _ _ _ _ e]
def eM{o:Nat}{t:az}(hb:bg w b c t)(hc:c[o]?=some eN)(h3:∀k,p k->w3.heap[k]?=(w.setCell ⟨b,o,none⟩ v).heap[k]?)(k:Nat)(hk:p k):
 (w3.setCell ⟨b,o,none⟩ eN).heap[k]?=w.heap[k]? :=by
 by_cases e:k=b
 ·subst e;have h1:bg (w3.setCell ⟨k,o,none⟩ eN) k ((c.setIfInBounds o v).setIfInBounds o eN) t:=((hb.set o v).of_eq (h3 k hk)).set o eN;have h2:bg ((w.setCell ⟨k,o,none⟩ v).setCell ⟨k,o,none⟩ eN) k ((c.setIfInBounds o v).setIfInBounds o eN) t:=(hb.set o v).set o eN;have h4:=(fX hb hc v).heap;rw[show (w3.setCell ⟨k,o,none⟩ eN).heap[k]?=_ from h1,<-show ((w.setCell ⟨k,o,none⟩ v).setCell ⟨k,o,none⟩ eN).heap[k]?=_ from h2,h4]
 ·rw[zac _ _ _ _ e,h3 k hk,zac _ _ _ _ e]
def dm{t t':az}(h:bg w b c t)(hm:aS w P t' k f):b≠k:=by rintro rfl;obtain⟨n,D,⟨es,clock,hb,_⟩,_⟩:=hm;have:w.heap[b]?=some (.cells c t (0,0)):=h;rw[this]at hb;cases hb
section
variable {w:af}
def Qa(pb kb vb:Nat)(f:Lit->Option aj)(hb:bg w pb #[eN,fV,.map (some kb),.map (some vb)] 202)(hM:aS w prog 3 kb f)(L:List Lit)(hL:∀kl,f kl≠none->kl∈L)(hn:L.length<maxLen)
 (n:Int) (h1: -9223372036854775808<=n) (h2:n<=9223372036854775807) (iv sv:aj) (hiv:∃a l c,iv=.slice a l c) (zG:zO sv):
 Calls prog 91 #[ptr pb,.int .i64 n,iv,sv] w fun e w'=>e=.returned (.tuple #[])/\aS w' prog 3 kb (upd f (.int .i64 n) (.agg #[iv,sv]))/\qC w w' kb:=by
 have c0:w.cell? ⟨pb,0,none⟩=some (.int .i32 0):=hb.cell (o:=0) rfl;have c2:w.cell? ⟨pb,2,none⟩=some (.map (some kb)):=hb.cell (o:=2) rfl;have f0:=hb.frozen 0;have hne:=dm hb hM;have nZ:∀v,aS (w.setCell ⟨pb,0,none⟩ v) prog 3 kb f:=fun v=>hM.of_eq (zac _ _ _ _ (fun e=>hne e.symm));obtain⟨ia,il,ic,rfl⟩:=hiv;unfold ptr;rcases zG with rfl|⟨st,sx,rfl⟩
 all_goals
  go_enter_defers func91,ntmps91
  go_wp2_with (first|(go_at_call 37;refine(lock_free Tryz.bA ⟨pb,0,none⟩ _ c0 f0).mono ?_;rintro e w' ⟨rfl,rfl⟩)|(at_mapUpdate;refine oW _ rfl _ _ _ 199 rfl 3 214 eB underlying199 kb f rfl (nZ _) L hL hn _ _ (.int .i64 n) rfl rfl (keyOf_int h1 h2) ?_;intro w1 sC hT))
  have hB:=qC.fK hT
  have iz:bg w1 pb _ 202:=(hb.set 0 (.int .i32 1)).of_eq (hB.block pb hne)
  refine leaves_cons (f:=38) (args:=#[.pointer (some ⟨pb,0,none⟩)]) (by simp) (by simp[go_sem]) ?_
  refine(unlock_deferred Tryz.bA ⟨pb,0,none⟩ .returning _ (iz.cell (o:=0) rfl) (iz.frozen 0)).mono ?_
  rintro e u' w'' ⟨rfl,rfl,rfl⟩
  exact⟨_,results_none rfl _ _ _,rfl,sC.of_eq (zac _ _ _ _ (fun e=>hne e.symm)),qC.locked hb rfl _ hB hne⟩
def ab6(pb kb vb:Nat)(f:Lit->Option aj)(hb:bg w pb #[eN,fV,.map (some kb),.map (some vb)] 202)(hM:aS w prog 3 kb f)
 (n:Int) (h1: -9223372036854775808<=n) (h2:n<=9223372036854775807):
 Calls prog 92 #[ptr pb,.int .i64 n] w fun e w'=>e=.returned (.tuple #[])/\aS w' prog 3 kb (del f (.int .i64 n))/\qC w w' kb:=by
 have c0:w.cell? ⟨pb,0,none⟩=some (.int .i32 0):=hb.cell (o:=0) rfl;have c2:w.cell? ⟨pb,2,none⟩=some (.map (some kb)):=hb.cell (o:=2) rfl;have f0:=hb.frozen 0;have hne:=dm hb hM;have nZ:∀v,aS (w.setCell ⟨pb,0,none⟩ v) prog 3 kb f:=fun v=>hM.of_eq (zac _ _ _ _ (fun e=>hne e.symm));unfold ptr;go_enter_defers func92,ntmps92;go_wp2_with (first|(go_at_call 37;refine(lock_free Tryz.bA ⟨pb,0,none⟩ _ c0 f0).mono ?_;rintro e w' ⟨rfl,rfl⟩)|(at_delete;refine oX _ rfl _ _ 199 3 rfl 214 eB underlying199 kb f rfl (nZ _) _ (.int .i64 n) rfl (keyOf_int h1 h2) ?_;intro w1 sC hT))
 have hB:=qC.fK hT;have iz:bg w1 pb _ 202:=(hb.set 0 (.int .i32 1)).of_eq (hB.block pb hne);refine leaves_cons (f:=38) (args:=#[.pointer (some ⟨pb,0,none⟩)]) (by simp) (by simp[go_sem]) ?_;refine(unlock_deferred Tryz.bA ⟨pb,0,none⟩ .returning _ (iz.cell (o:=0) rfl) (iz.frozen 0)).mono ?_;rintro e u' w'' ⟨rfl,rfl,rfl⟩;exact⟨_,results_none rfl _ _ _,rfl,sC.of_eq (zac _ _ _ _ (fun e=>hne e.symm)),qC.locked hb rfl _ hB hne⟩
end
end
section
open Go Go.RowKit
open Go.Maps (Keyed)
section
variable {w:af}{τ:Nat->Tag}{aO b:Nat}{s:MS}{A:SA}
def setAt(s:MS)(i:Nat)(m:MW):MS:={s with ws:=s.ws.set i m}
def JJ(s:MS)(n:Int)(m:MW):uq s n m=setAt s (n-1).toNat m:=rfl
def Vn{s:MS}(h:bI s n=none):n<1\/(s.ws.length:Int)<n\/(1<=n/\n<=s.ws.length/\∃m,s.ws[(n-1).toNat]?=some m/\m.dP=true):=by
 unfold bI at h;split at h
 ·omega
 ·rename_i hb;have hlt:(n-1).toNat<s.ws.length:=by omega
  rw[zag hlt]at h;simp only at h;refine Or.inr (Or.inr ⟨by omega,by omega,_,zag hlt,?_⟩);cases hc:s.ws[(n-1).toNat].dP
  ·rw[hc]at h;simp at h
  ·rfl
def eI{s:MS}{m:MW}(h:bI s n=some m):1<=n/\n<=s.ws.length/\s.ws[(n-1).toNat]?=some m/\m.dP=false:=by
 unfold bI at h;split at h
 ·cases h
 ·rename_i hb;have hlt:(n-1).toNat<s.ws.length:=by omega
  rw[zag hlt]at h;simp only at h;split at h
  ·cases h
  ·rename_i hc;cases h;exact⟨by omega,by omega,zag hlt,by simpa using hc⟩
def jJ{s:MS}{m:MW}(hm:s.ws[i]?=some m)(hc:m.dP=false):bI s ((i:Int)+1)=some m:=by have hi:=aM hm;unfold bI;rw[if_neg (by omega),show ((i:Int)+1-1).toNat=i from by omega,hm];simp[hc]
def kP{s:MS}{m:MW}(hi:i<s.ws.length)(hc:m.dP=false):bI (setAt s i m) ((i:Int)+1)=some m:=
 jJ (by simp[setAt,hi]) hc
def gm{s:MS}{m:MW}(hn:n≠(i:Int)+1):bI (setAt s i m) n=bI s n:=by
 unfold bI setAt;simp only[List.length_set];split
 ·rfl
 ·rw[List.getElem?_set_ne (by omega)]
def jG{s:MS}{m m':MW}(h:(setAt s i m').ws[j]?=some m):(i=j/\m=m')\/(i≠j/\s.ws[j]?=some m):=jO h
def EV{m m':MW}(hm:s.ws[i]?=some m)(hc:m.dP=false)(zR:m'.dP=false):cQ (setAt s i m') A=cQ s A:=by
 funext kl;cases kl with
 |int k n=>
  cases k<;>try rfl
  simp only[cQ];by_cases e:n=(i:Int)+1
  ·rw[e,kP (aM hm) zR,jJ hm hc]
  ·rw[gm e]
 |_=>rfl
def a9.uq(h:a9 w τ aO b s A){m m':MW}(hm:s.ws[i]?=some m)(hc:m.dP=false)(hit:m'.items=m.items)(zR:m'.dP=false)
 (ahl:∀q,m.comm q=true->m'.comm q=true) (Y1:∀q,m'.comm q=true->m'.dH q=true) (hpo:∀q:Nat,m'.dH q=true->aJ s.parts m.items q=true) {w':af} {LD:Nat->List UInt8->Nat}
 (hsame:∀k,k<w.heap.size->(∀q,q<s.parts->k≠A.kb q/\k≠A.vb q/\(aJ s.parts m.items q=true->k≠A.sh i q))->w'.heap[k]?=w.heap[k]?)
 (hk:∀q,q<s.parts->aS w' prog 3 (A.kb q) (bM (setAt s i m') A q))
 (hv:∀q,q<s.parts->aS w' prog 9 (A.vb q) (Cy {A with vis:=LD} q)) (hvo:∀q,q<s.parts->JI (setAt s i m') q (LD q))
 (hs:∀q:Nat,aJ s.parts m.items q=true->bg w' (A.sh i q) #[ptr (A.pb q),.int .i64 (bL m' q),if m'.dH q then fY else A.iv i q] 174):
 a9 w' τ aO b (setAt s i m') {A with vis:=LD}:=by
 have hi:=aM hm;have hbd:∀q:Nat,aJ s.parts m.items q=true->q<s.parts:=fun q ho=>by have:=(dF (by have:=h.ok.p1;omega) ho).2;omega
 have hne:∀{k a c:Nat},τ k=(aO,a,c)->a≠3->a≠4->(a=8->∀q,q<s.parts->c≠i*4+q)->k<w.heap.size->w'.heap[k]?=w.heap[k]? :=by
  intro k a c ht h3 h4 h8 ot;refine hsame k ot (fun q hq=>⟨fun e=>?_,fun e=>?_,fun ho e=>?_⟩)
  ·have:=h.cF q hq;rw[<-e,ht]at this;simp at this;omega
  ·have:=h.eV q hq;rw[<-e,ht]at this;simp at this;omega
  ·have:=h.cM i m q hm hc ho;rw[<-e,ht]at this;simp at this;exact h8 this.1 q hq this.2
 have FX:=h.ok.p4;have ahm:∀{j:Nat} {mj mj':MW},mj'.items=mj.items->bQ (setAt s i m') A j mj'=bQ s A j mj:=by
  intro j mj mj' e;funext kl;cases kl with
  |int k n=>cases k<;>first|rfl|(simp only[bQ,e];rfl)
  |_=>rfl
 have dL:∀{j:Nat} {mj:MW},(setAt s i m').ws[j]?=some mj->∃mo,s.ws[j]?=some mo/\mj.items=mo.items/\(mj.dP=false->mo.dP=false)/\(i≠j->mj=mo):=by
  intro j mj hj;rcases jG hj with⟨rfl,rfl⟩|⟨e,hj'⟩
  ·exact⟨m,hm,hit,fun _=>hc,fun e=>absurd rfl e⟩
  ·exact⟨mj,hj',rfl,id,fun _=>rfl⟩
 refine⟨⟨h.ok.p1,h.ok.p4,by simpa[setAt]using h.ok.len,fun j mj hj=>?_,h.ok.keys,h.ok.opn⟩,⟨fun j mj q hj=>?_,fun j mj q hj=>?_,fun j mj q hj=>?_⟩,?_,?_,h.tag,?_,h.eF,fun q hq=>?_,h.dh,hk,h.cF,hv,h.eV,hvo,?_,h.iJ,fun j mj hj dZ=>?_,fun j mj hj dZ=>?_,fun j mj hj dZ=>?_,fun j mj hj dZ=>?_,fun j mj q hj dZ ho=>?_,fun j mj q hj dZ ho=>?_,fun j mj q hj dZ ho=>?_,fun j mj q k hj dZ ho=>?_,h.reads.frame (fun k hk h1 Jr=>⟨hne (a:=(τ k).2.1) (c:=(τ k).2.2) (by rw[<-h1]) (by omega) (by omega) (by omega) hk,rfl⟩),fun j mj hj=>?_⟩
 ·obtain⟨mo,ho,e,_⟩:=dL hj;rw[e];exact h.ok.items j mo ho
 ·intro hcm;rcases jG hj with⟨rfl,rfl⟩|⟨_,hj'⟩
  ·exact Y1 q hcm
  ·exact h.inv.cp j mj q hj' hcm
 ·intro Vi;rcases jG hj with⟨rfl,rfl⟩|⟨_,hj'⟩
  ·rw[hit];exact hpo q Vi
  ·exact h.inv.po j mj q hj' Vi
 ·intro hcm;rcases jG hj with⟨rfl,rfl⟩|⟨_,hj'⟩
  ·rw[zR]at hcm;cases hcm
  ·exact h.inv.cc j mj q hj' hcm
 ·refine h.told.ws rfl rfl rfl rfl (fun j mj hj=>by obtain⟨mo,ho,_⟩:=dL hj;exact h.told.sv j mo ho) (fun j mj hj=>?_);by_cases e:i=j
  ·subst e;rw[hm]at hj;cases hj;exact⟨m',by simp[setAt,hi],hit,ahl,rfl⟩
  ·exact⟨mj,by simp only[setAt];rw[List.getElem?_set_ne e];exact hj,rfl,fun _ hq=>hq,rfl⟩
 ·have:=h.blk.of_eq (hne h.tag (by omega) (by omega) (by omega) h.blk.lt);simpa[setAt]using this
 ·exact aH h.cG (fun k hk=>hne (h.eF k hk) (by omega) (by omega) (by omega) (aQ h.cG k hk).2)
 ·exact(h.part q hq).of_eq (hne (h.dh q hq) (by omega) (by omega) (by omega) (h.part q hq).lt)
 ·have:cQ (setAt s i m') {A with vis:=LD}=cQ s A:=EV (A:=A) hm hc zR;rw[this];exact h.rE.of_eq (hne h.iJ (by omega) (by omega) (by omega) h.rE.lt)
 ·obtain⟨mo,ho,_,ec,_⟩:=dL hj;have hb:=h.wr j mo ho (ec dZ);exact hb.of_eq (hne (h.fj j mo ho (ec dZ)) (by omega) (by omega) (by omega) hb.lt)
 ·obtain⟨mo,ho,_,ec,_⟩:=dL hj;exact h.fj j mo ho (ec dZ)
 ·obtain⟨mo,ho,e,ec,_⟩:=dL hj;have:bQ (setAt s i m') {A with vis:=LD} j mj=bQ s A j mo:=ahm e;rw[this];have hb:=h.PG j mo ho (ec dZ);exact hb.of_eq (hne (h.iX j mo ho (ec dZ)) (by omega) (by omega) (by omega) hb.lt)
 ·obtain⟨mo,ho,_,ec,_⟩:=dL hj;exact h.iX j mo ho (ec dZ)
 ·obtain⟨mo,hmo,e,ec,en⟩:=dL hj;rw[e]at ho;by_cases M0:i=j
  ·subst M0;rw[hm]at hmo;cases hmo;rcases jG hj with⟨_,rfl⟩|⟨e',_⟩
   ·exact hs q ho
   ·exact absurd rfl e'
  ·rw[en M0];rw[en M0]at dZ;have hb:=h.sh j mo q hmo dZ ho;refine hb.of_eq (hne (h.cM j mo q hmo dZ ho) (by omega) (by omega) (fun _ q' fA e'=>?_) hb.lt);have hq1:=(dF (n:=(s.parts:Int)) (by have:=h.ok.p1;omega) ho).2;omega
 ·obtain⟨mo,hmo,e,ec,_⟩:=dL hj;rw[e]at ho;exact h.cM j mo q hmo (ec dZ) ho
 ·obtain⟨mo,hmo,e,ec,_⟩:=dL hj;rw[e]at ho;rw[e];have hr:=h.it j mo q hmo (ec dZ) ho;exact aH hr (fun k hk=>hne (h.eZ j mo q k hmo (ec dZ) ho hk) (by omega) (by omega) (by omega) (aQ hr k hk).2)
 ·obtain⟨mo,hmo,e,ec,_⟩:=dL hj;rw[e]at ho;exact h.eZ j mo q k hmo (ec dZ) ho
 ·obtain⟨mo,hmo,e,_,_⟩:=dL hj;rw[e];exact(h.KY j mo hmo).of fun k hk ht=>⟨hne ht (by omega) (by omega) (by omega) hk,rfl⟩
end
end
section
open Go Go.RowKit Go.MuLone
open Go.Maps (Keyed)
def jF:List Lit:=(List.range 201).map (fun(i:Nat)=>Lit.int .i64 (i:Int))
def o9(h:0<=n)(h':n<=200):Lit.int .i64 n∈jF:=by unfold jF;refine zat.2 ⟨n.toNat,zau.2 (by omega),?_⟩;rw[Int.toNat_of_nonneg h]
def pe:jF.length<maxLen:=by unfold jF maxLen;simp
section
variable {w:af}{τ:Nat->Tag}{aO b:Nat}{s:MS}{A:SA}
def Hu(hlen:s.ws.length<=200)(q:Nat):∀kl,bM s A q kl≠none->kl∈jF:=by
 intro kl h;cases kl with
 |int k n=>
  cases k<;>try exact absurd rfl h
  simp only[bM]at h;cases hf:bI s n with
  |none=>rw[hf]at h;exact absurd rfl h
  |some m=>obtain⟨h1,h2,_⟩:=eI hf;exact o9 (by omega) (by omega)
 |_=>exact absurd rfl h
def oa(w:af)(τ:Nat->Tag)(aO b:Nat)(r:Int×MS)(e:Ending)(w':af):Prop:=
 ∃A',e=.returned (.int .i64 r.1)/\a9 w' τ aO b r.2 A'/\Stp aO τ w τ w'
def Hv{m:MW}(hm:s.ws[i]?=some m)(hc:m.dP=false)(q q':Nat):
 bM (setAt s i {m with dH:=put m.dH q}) A q'=if q'=q then upd (bM s A q) (.int .i64 ((i:Int)+1)) (.agg #[A.iv i q,A.sv i])else bM s A q':=by
 have hi:=aM hm;funext kl;cases kl with
 |int k n=>
  by_cases ek:k=.i64
  ·subst ek;by_cases e:n=(i:Int)+1
   ·subst e;have h1:bI (setAt s i {m with dH:=put m.dH q}) ((i:Int)+1)=some {m with dH:=put m.dH q}:=kP hi hc;by_cases eq:q'=q
    ·subst eq;simp only[if_true];rw[upd_same (by trivial)];simp only[bM,h1,put,if_true];rw[show ((i:Int)+1-1).toNat=i from by omega]
    ·simp only[if_neg eq,bM,h1,jJ hm hc,put]
   ·have h1:bI (setAt s i {m with dH:=put m.dH q}) n=bI s n:=gm e;by_cases eq:q'=q
    ·subst eq;simp only[if_true];rw[fI (by intro e';injection e';omega)];simp only[bM,h1]
    ·simp only[if_neg eq,bM,h1]
  ·have hno:∀(s:MS) (q:Nat),bM s A q (.int k n)=none:=fun s q=>by cases k<;>first|rfl|exact absurd rfl ek
   by_cases eq:q'=q
   ·subst eq;simp only[if_true];rw[fI (by intro e';injection e' with e1 e2;exact ek e1),hno,hno]
   ·rw[if_neg eq,hno,hno]
 |_=>
  by_cases eq:q'=q
  ·subst eq;simp only[if_true];rw[fI (by intro e';cases e')];rfl
  ·rw[if_neg eq];rfl
def nG{s s':MS}{q:Nat}{v:List UInt8->Nat}(h:JI s q v)(hp:s'.parts=s.parts)
 (h1:∀(i:Nat) (m:MW),s.ws[i]?=some m->m.comm q=true->∃m',s'.ws[i]?=some m'/\m'.comm q=true/\m'.items=m.items)
 (h2:∀(i:Nat) (m':MW),s'.ws[i]?=some m'->m'.comm q=true->∃m,s.ws[i]?=some m/\m.comm q=true/\m'.items=m.items):JI s' q v:=by
 refine⟨fun l hl=>?_,fun i m' x hm hc hx hq=>?_⟩
 ·obtain⟨m,hm,hc,x,hx,e⟩:=h.seen l hl;obtain⟨m',hm',zR,hi⟩:=h1 _ m hm hc;exact⟨m',hm',zR,x,by rw[hi];exact hx,by rw[hp];exact e⟩
 ·obtain⟨m,hm0,hc0,hi⟩:=h2 i m' hm hc;exact h.top i m x hm0 hc0 (by rw[<-hi];exact hx) (by rw[<-hp];exact hq)
def a9.dH(h:a9 w τ aO b s A){i:Nat}{m:MW}(hm:s.ws[i]?=some m)(hc:m.dP=false){q:Nat}(ho:aJ s.parts m.items q=true)(hnp:m.dH q=false){w':af}
 (hsame:∀k,k≠A.kb q->k≠A.sh i q->w'.heap[k]?=w.heap[k]?)
 (hk:aS w' prog 3 (A.kb q) (upd (bM s A q) (.int .i64 ((i:Int)+1)) (.agg #[A.iv i q,A.sv i])))
 (hs:bg w' (A.sh i q) #[ptr (A.pb q),.int .i64 1,fY] 174):
 a9 w' τ aO b (setAt s i {m with dH:=put m.dH q}) A:=by
 have hp1:=h.ok.p1;have hq:q<s.parts:=by have:=(dF (by omega) ho).2;omega
 have X0:m.comm q=false:=by
  cases Dx:m.comm q
  ·rfl
  ·rw[h.inv.cp i m q hm Dx]at hnp;cases hnp
 have hkn:∀q',q'<s.parts->q'≠q->A.kb q'≠A.kb q:=fun q' fA hne e=>by have h1:=h.cF q' fA;rw[e,h.cF q hq]at h1;simp at h1;omega
 have hks:∀q',q'<s.parts->A.kb q'≠A.sh i q:=fun q' fA e=>by have h1:=h.cF q' fA;rw[e,h.cM i m q hm hc ho]at h1;simp at h1
 have hvk:∀q',q'<s.parts->A.vb q'≠A.kb q/\A.vb q'≠A.sh i q:=fun q' fA=>⟨fun e=>by
  have h1:=h.eV q' fA;rw[e,h.cF q hq]at h1;simp at h1,fun e=>by have h1:=h.eV q' fA;rw[e,h.cM i m q hm hc ho]at h1;simp at h1⟩
 refine h.uq (m':={m with dH:=put m.dH q}) (LD:=A.vis) hm hc rfl hc (fun _ hq=>hq) (fun q' fA=>?_) (fun q' fA=>?_) (fun k _ hne=>?_) (fun q' fA=>?_) (fun q' fA=>?_) (fun q' fA=>?_) (fun q' ho'=>?_)
 ·show put m.dH q q'=true;unfold put;split
  ·rfl
  ·exact h.inv.cp i m q' hm fA
 ·have BJ:put m.dH q q'=true:=fA;unfold put at BJ;split at BJ
  ·rename_i e;rw[e];exact ho
  ·exact h.inv.po i m q' hm BJ
 ·exact hsame k (hne q hq).1 ((hne q hq).2.2 ho)
 ·rw[Hv hm hc];split
  ·rename_i e;subst e;exact hk
  ·rename_i e;exact(h.kept q' fA).of_eq (hsame _ (hkn q' fA e) (hks q' fA))
 ·exact(h.tB q' fA).of_eq (hsame _ (hvk q' fA).1 (hvk q' fA).2)
 ·refine nG (h.lB q' fA) rfl (fun j mj hj dZ=>?_) (fun j mj hj dZ=>?_)
  ·by_cases e:i=j
   ·subst e;rw[hm]at hj;cases hj;exact⟨{m with dH:=put m.dH q},by simp[setAt,aM hm],dZ,rfl⟩
   ·exact⟨mj,by simp[setAt,e,hj],dZ,rfl⟩
  ·rcases jG hj with⟨rfl,rfl⟩|⟨_,hj'⟩
   ·exact⟨m,hm,dZ,rfl⟩
   ·exact⟨mj,hj',dZ,rfl⟩
 ·by_cases e:q'=q
  ·subst e;simpa[bL,put,X0]using hs
  ·have hb:=h.sh i m q' hm hc ho';have BJ:q'<s.parts:=by have:=(dF (by omega) ho').2;omega
   have:bg w' (A.sh i q') _ _:=hb.of_eq (hsame _ (fun e'=>by
    have h1:=h.cM i m q' hm hc ho';rw[e',h.cF q hq]at h1;simp at h1) (fun e'=>by have h1:=h.cM i m q' hm hc ho';rw[e',h.cM i m q hm hc ho]at h1;simp at h1;omega))
   simpa[bL,put,e]using this
def EP(h:a9 w τ aO b s A)(n:Int)(m:MW)(hf:bI s n=some m)(p:Int)(hp: -9223372036854775808<=p)(ru:p<=9223372036854775807):
 Calls prog 53 #[ptr (A.pw (n-1).toNat),.int .i64 p] w (oa w τ aO b (dI s n p)):=by
 obtain⟨h1,h2,hm,hc⟩:=eI hf;have hlen:=h.ok.len;have hp1:=h.ok.p1;have FX:=h.ok.p4;obtain⟨i,hi⟩:∃i:Nat,n=(i:Int)+1:=⟨(n-1).toNat,by omega⟩
 subst hi;rw[show ((i:Int)+1-1).toNat=i from by omega]at hm⊢;have hW:=h.wr i m hm hc;have c0:w.cell? ⟨A.pw i,0,none⟩=some (.int .i32 0):=hW.cell (o:=0) rfl;have f0:=hW.frozen 0;have eD:=fX hW (o:=0) rfl (.int .i32 1);have LF:A.sm i≠A.pw i:=fun e=>by have h1:=h.iX i m hm hc;rw[e,h.fj i m hm hc]at h1;simp at h1
 have lC:=hW.set 0 (.int .i32 1);have d3:(w.setCell ⟨A.pw i,0,none⟩ (.int .i32 1)).cell? ⟨A.pw i,4,none⟩=some (.bool false):=lC.cell (o:=4) rfl;have d4:(w.setCell ⟨A.pw i,0,none⟩ (.int .i32 1)).cell? ⟨A.pw i,5,none⟩=some (.map (some (A.sm i))):=lC.cell (o:=5) rfl;have nZ:aS (w.setCell ⟨A.pw i,0,none⟩ (.int .i32 1)) prog 3 (A.sm i) (bQ s A i m):=(h.PG i m hm hc).of_eq (zac _ _ _ _ LF);have cs:=vD (s:=s) (A:=A) (A.pw i) (A.sm i) i m p _ hp ru d3 d4 nZ;cases ho:aJ s.parts m.items p with
 |false=>
  have Hr:Hid (dI s ((i:Int)+1) p=(8,s)):=by unfold Hid dI;rw[hf];simp[ho]
  have hv:eK s A i m p=(.pointer none,8):=by unfold eK;rw[ho];rfl
  rw[hv]at cs;unfold ptr at cs⊢;unfold eN at eD;clear ho hv hf;go_enter_defers func53,ntmps53;go_wp2_with fail
  refine(lock_free Tryz.bA ⟨A.pw i,0,none⟩ _ c0 f0).mono ?_;rintro e w' ⟨rfl,rfl⟩;go_wp2_with fail
  refine cs.mono ?_;rintro e w' ⟨rfl,rfl⟩;go_wp2_with fail
  refine leaves_cons (f:=38) (args:=#[.pointer (some ⟨A.pw i,0,none⟩)]) (by simp) (by simp[go_sem]) ?_;refine(unlock_deferred Tryz.bA ⟨A.pw i,0,none⟩ .returning _ (lC.cell (o:=0) rfl) (lC.frozen 0)).mono ?_;rintro e u' w'' ⟨rfl,rfl,rfl⟩;rw[Hr.out];exact⟨_,results_tmp rfl _ _ _,A,rfl,h.same eD,eD.ou _ _⟩
 |true=>
  obtain⟨hb0,iz⟩:=dF (by omega) ho;obtain⟨q,rfl⟩:=zao hb0;have hq:q<s.parts:=by omega
  have hv:eK s A i m q=(.pointer (some ⟨A.sh i q,0,none⟩),0):=by unfold eK;rw[ho];rfl
  rw[hv]at cs;have hS:=h.sh i m q hm hc ho;have qD:A.sh i q≠A.pw i:=fun e=>by have h1:=h.cM i m q hm hc ho;rw[e,h.fj i m hm hc]at h1;simp at h1
  have qp:bg (w.setCell ⟨A.pw i,0,none⟩ (.int .i32 1)) (A.sh i q) _ _:=hS.of_eq (zac _ _ _ _ qD);cases hpq:m.dH q with
  |true=>
   have Hr:Hid (dI s ((i:Int)+1) q=(10,s)):=by unfold Hid dI;rw[hf];simp[ho,hpq]
   have hst:(bL m q != 0)=true:=by unfold bL;rw[hpq];cases m.comm q<;>rfl
   have e1:(w.setCell ⟨A.pw i,0,none⟩ (.int .i32 1)).cell? ⟨A.sh i q,1,none⟩=some (.int .i64 (bL m q)):=qp.cell (o:=1) rfl;unfold ptr at cs⊢;unfold eN at eD;clear ho hv hf hpq;go_enter_defers func53,ntmps53;go_wp2_with fail
   refine(lock_free Tryz.bA ⟨A.pw i,0,none⟩ _ c0 f0).mono ?_;rintro e w' ⟨rfl,rfl⟩;go_wp2_with fail
   refine cs.mono ?_;rintro e w' ⟨rfl,rfl⟩;go_wp2_with fail
   refine leaves_cons (f:=38) (args:=#[.pointer (some ⟨A.pw i,0,none⟩)]) (by simp) (by simp[go_sem]) ?_;refine(unlock_deferred Tryz.bA ⟨A.pw i,0,none⟩ .returning _ (lC.cell (o:=0) rfl) (lC.frozen 0)).mono ?_;rintro e u' w'' ⟨rfl,rfl,rfl⟩;rw[Hr.out];exact⟨_,results_tmp rfl _ _ _,A,rfl,h.same eD,eD.ou _ _⟩
  |false=>
   have Hr:Hid (dI s ((i:Int)+1) q=(0,setAt s i {m with dH:=put m.dH q})):=by unfold Hid dI;rw[hf];simp only[ho,hpq,JJ,Int.toNat_natCast];rw[show ((i:Int)+1-1).toNat=i from by omega];rfl
   have hst:bL m q=0:=by
    unfold bL;rw[hpq];cases Dx:m.comm q
    ·rfl
    ·rw[h.inv.cp i m q hm Dx]at hpq;cases hpq
   rw[hst,hpq]at hS qp;have hWb:=hW;have ag3:=hpq;generalize hW:w.setCell ⟨A.pw i,0,none⟩ (.int .i32 1)=w1 at *;have e0:w1.cell? ⟨A.sh i q,0,none⟩=some (.pointer (some ⟨A.pb q,0,none⟩)):=qp.cell (o:=0) rfl;have e1:w1.cell? ⟨A.sh i q,1,none⟩=some (.int .i64 0):=qp.cell (o:=1) rfl;have e2:w1.cell? ⟨A.sh i q,2,none⟩=some (A.iv i q):=qp.cell (o:=2) rfl;have d2:w1.cell? ⟨A.pw i,2,none⟩=some (.int .i64 ((i:Int)+1)):=lC.cell (o:=2) rfl;have d9:w1.cell? ⟨A.pw i,3,none⟩=some (A.sv i):=lC.cell (o:=3) rfl;have ag4:=h.told.sv i m hm;have ag5:∃a l c,A.iv i q=.slice a l c:=by obtain⟨a,cap,e⟩:=cy (h.it i m q hm hc ho);exact⟨a,_,cap,e⟩
   have BQ:=h.cF q hq;have hks:A.sh i q≠A.kb q:=fun e=>by have h1:=h.cM i m q hm hc ho;rw[e,BQ]at h1;simp at h1
   have xM:A.pw i≠A.kb q:=fun e=>by have h1:=h.fj i m hm hc;rw[e,BQ]at h1;simp at h1
   have hpw:A.pb q≠A.pw i:=fun e=>by have h1:=h.dh q hq;rw[e,h.fj i m hm hc]at h1;simp at h1
   have Ru:bg w1 (A.pb q) _ _:=(h.part q hq).of_eq (by rw[<-hW];exact zac _ _ _ _ hpw);have hKM:aS w1 prog 3 (A.kb q) (bM s A q):=(h.kept q hq).of_eq (by rw[<-hW];exact zac _ _ _ _ (fun e=>xM e.symm));have hn1: -9223372036854775808<=(i:Int)+1:=by omega
   have hn2:(i:Int)+1<=9223372036854775807:=by omega
   unfold ptr at cs⊢;clear hv hf hpq hst;go_enter_defers func53,ntmps53;go_wp2_with fail
   refine(lock_free Tryz.bA ⟨A.pw i,0,none⟩ _ c0 f0).mono ?_;rintro e w' ⟨rfl,rfl⟩;rw[hW];go_wp2_with fail
   refine cs.mono ?_;rintro e w' ⟨rfl,rfl⟩;go_wp2_with fail
   go_region_held3 (fun W=>W.cell? ⟨A.sh i q,0,none⟩=some (.pointer (some ⟨A.pb q,0,none⟩))/\W.cell? ⟨A.sh i q,2,none⟩=some (A.iv i q)/\W.cell? ⟨A.pw i,2,none⟩=some (.int .i64 ((i:Int)+1))/\W.cell? ⟨A.pw i,3,none⟩=some (A.sv i)) (simp[*]) ((go_at_call 91;refine(Qa (A.pb q) (A.kb q) (A.vb q) (bM s A q) (by exact Ru) (by exact hKM) jF (Hu hlen q) pe _ hn1 hn2 _ _ ag5 ag4).mono ?_;rintro e w2 ⟨rfl,sC,dQ⟩;have gI:=qp.of_eq (dQ.block _ hks);have rF:=lC.of_eq (dQ.block _ xM);have k0:=gI.cell (o:=0) (v:=.pointer (some ⟨A.pb q,0,none⟩)) rfl;have k2:=gI.cell (o:=2) (v:=A.iv i q) rfl;have k1:=rF.cell (o:=2) (v:=.int .i64 ((i:Int)+1)) rfl;have k9:=rF.cell (o:=3) (v:=A.sv i) rfl))
   have k3:=gI.cell (o:=1) (v:=.int .i64 0) rfl;have f1:=gI.frozen 1;have f2:=gI.frozen 2;go_wp2_with fail
   have Ve:=(gI.set 1 (.int .i64 1)).set 2 (.slice none 0 0);have vC:bg ((w2.setCell ⟨A.sh i q,1,none⟩ (.int .i64 1)).setCell ⟨A.sh i q,2,none⟩ (.slice none 0 0)) (A.pw i) _ _:=rF.of_eq ((zac _ _ _ _ (fun e=>qD e.symm)).trans (zac _ _ _ _ (fun e=>qD e.symm)));refine leaves_cons (f:=38) (args:=#[.pointer (some ⟨A.pw i,0,none⟩)]) (by simp) (by simp[go_sem]) ?_;refine(unlock_deferred Tryz.bA ⟨A.pw i,0,none⟩ .returning _ (vC.cell (o:=0) rfl) (vC.frozen 0)).mono ?_;rintro e u' w'' ⟨rfl,rfl,rfl⟩;rw[Hr.out];have hall:∀k,(k≠A.kb q/\k≠A.sh i q)->(((w2.setCell ⟨A.sh i q,1,none⟩ (.int .i64 1)).setCell ⟨A.sh i q,2,none⟩ (.slice none 0 0)).setCell ⟨A.pw i,0,none⟩ eN).heap[k]?=w.heap[k]? :=
    eM hWb rfl (v:=.int .i32 1) (fun k hk=>by rw[zac _ _ _ _ hk.2,zac _ _ _ _ hk.2,hW];exact dQ.block k hk.1)
   refine⟨_,results_tmp rfl _ _ _,A,rfl,?_,?_⟩
   ·exact h.dH hm hc ho ag3 (fun k h1 h2=>hall k ⟨h1,h2⟩) (sC.of_eq ((zac _ _ _ _ (fun e=>xM e.symm)).trans ((zac _ _ _ _ (fun e=>hks e.symm)).trans (zac _ _ _ _ (fun e=>hks e.symm)))))
     (Ve.of_eq (zac _ _ _ _ qD))
   ·refine⟨dQ.os.trans (by rw[<-hW];rfl),dQ.tape.trans (by rw[<-hW];rfl),dQ.output.trans (by rw[<-hW];rfl),?_,fun _ _=>rfl,fun k _ hk=>hall k ⟨fun e=>hk (by rw[e,BQ]),fun e=>hk (by rw[e,h.cM i m q hm hc ho])⟩⟩;have:=dQ.size;rw[show w'.drew.heap.size=w.heap.size from by rw[<-hW];simp[World.setCell]]at this;simp[World.setCell,this]
def xp(h:a9 w τ aO b s A)(n p:Int)(hn: -9223372036854775808<=n)(hn':n<=9223372036854775807)(hp: -9223372036854775808<=p)(ru:p<=9223372036854775807):
 Calls prog 29 #[ptr b,.int .i64 n,.int .i64 p] w (oa w τ aO b (dI s n p)):=by
 have c:=yf h n hn hn';cases hf:bI s n with
 |none=>
  have Hr:Hid (dI s n p=(7,s)):=by unfold Hid dI;rw[hf]
  have hv:eJ s A n=(.pointer none,false):=by unfold eJ;rw[hf]
  rw[hv]at c;unfold ptr at c⊢;clear hf hv;go_enter func29,ntmps29;go_wp2_with fail
  refine c.mono ?_;rintro e w1 ⟨rfl,hS⟩;go_wp2_with fail
  go_ret;rw[Hr.out];exact⟨A,rfl,h.same hS,hS.ou _ _⟩
 |some m=>
  have hv:eJ s A n=(ptr (A.pw (n-1).toNat),true):=by unfold eJ;rw[hf]
  rw[hv]at c;have c2:∀w1,vX w w1->Calls prog 53 #[ptr (A.pw (n-1).toNat),.int .i64 p] w1 (oa w1 τ aO b (dI s n p)):=fun w1 hS=>EP (h.same hS) n m hf p hp ru;generalize (n-1).toNat=j at c c2;unfold ptr at c c2⊢;clear hf hv;go_enter func29,ntmps29;go_wp2_with fail
  refine c.mono ?_;rintro e w1 ⟨rfl,hS⟩;have c3:=c2 w1 hS;clear c c2;go_wp2_with fail
  refine c3.mono ?_;rintro e w2 ⟨A',rfl,hR,hT⟩;go_wp2_with fail
  go_ret;exact⟨A',rfl,hR,(hS.ou _ _).trans hT⟩
end
end
section
open Go Go.RowKit Go.MuLone
open Go.Maps (Keyed)
def tE(w:af){rest:List Oper}{o:Oper}(hg:o.guard=none)(it:aD)(hop:o.op=Op.next it false)(k:az)(K:Keyed P k)(hk:P.underlying k=some (.int .i64))
 (b r n:Nat) (D:DataW aj) (f:Lit->Option aj) (hs:Says D f) (g:Int->Nat) (p:Int->Prop) (hf:∀x u,f (.int .i64 x)=some u->u=.pointer (some ⟨g x,0,none⟩)/\p x) (left:Lit->Bool) (cnt:Nat)
 (hit:a.eval it=.pointer (some ⟨r,0,none⟩)) (h:w.ranges P k aV b r n D left cnt)
 (hDone:(∀kl,left kl=false)->wpList P ops Q rest (a.put o.dst (.tuple #[.bool false])) w)
 (hMore:∀(x:Int) (w':af) (cnt':Nat),p x->left (.int .i64 x)=true->w'.ranges P k aV b r n D (fun z=>left z && !z.sameKey (.int .i64 x)) cnt'->cnt'<cnt->w.grownBy w' (some r)->w'.heap.size=w.heap.size->
   (Instr.entry (.pointer (some ⟨r,0,none⟩))).run P w'=.ok (.tuple #[.int .i64 x,.pointer (some ⟨g x,0,none⟩)]) w'->wpList P ops Q rest (a.put o.dst (.tuple #[.bool true,.int .i64 x,.pointer (some ⟨g x,0,none⟩)])) w'):
 wpList P ops Q (o :: rest) a w:=by
 refine wpList_plain hg fun K' hK'=>?_;unfold Oper.wp;rcases h.next K o.type with⟨h0,hl,hrun⟩|⟨key,v,kl,y,w',cnt',hkey,hlk,hv,hat,hrun,mC,hlt,U1,hsz,sj⟩
 ·simp[execOp,hop,hit,hrun,Result.andThen];exact hK' _ _ (hDone hl)
 ·obtain⟨x,rfl,rfl,_⟩:=Maps.keyOf_int_inv hk hkey;simp only[aV,Option.some.injEq]at hv;subst hv;have hh:=Maps.has_true_of_atKey hat;rw[hs.2]at hh;obtain⟨u,hu⟩:=Option.isSome_iff_exists.1 hh;have e1:=(hs.1 _ u hu .nil).symm.trans (hat .nil);injection e1 with e1;subst e1;obtain⟨rfl,hp⟩:=hf x _ hu;simp[execOp,hop,hit,hrun,Result.andThen];exact hK' _ _ (hMore x w' cnt' hp hlk mC hlt U1 hsz sj)
def iY(s:MS)(m:MW)(at_:Int):Bool:=(List.range s.parts).any (fun q=>aJ s.parts m.items q &&(bL m q == at_))
def lR{s:MS}{m:MW}{c:Int}{q:Nat}(hq:q<s.parts)(ho:aJ s.parts m.items q=true)(h:bL m q=c):iY s m c=true:=by simp only[iY,List.any_eq_true,List.mem_range];exact⟨q,hq,by simp[ho,h]⟩
def kQ{s:MS}{m:MW}{c:Int}(h:∀q,q<s.parts->aJ s.parts m.items q=true->bL m q≠c):iY s m c=false:=by
 simp only[iY,List.any_eq_false,List.mem_range];intro q hq;cases ho:aJ s.parts m.items q
 ·simp
 ·simpa using h q hq ho
section
variable {w:af}{τ:Nat->Tag}{aO b:Nat}{s:MS}{A:SA}
def Bb(i:Nat)(m:MW)(c:Int)(hp1:1<=s.parts)(c4:w.cell? ⟨A.pw i,5,none⟩=some (.map (some (A.sm i))))(hM:aS w prog 3 (A.sm i) (bQ s A i m))
 (hS:∀q:Nat,q<s.parts->aJ s.parts m.items q=true->w.cell? ⟨A.sh i q,1,none⟩=some (.int .i64 (bL m q))):
 Calls prog 89 #[ptr (A.pw i),.int .i64 c] w fun e w'=>e=.returned (.bool (iY s m c))/\Below w.heap.size w w':=by
 obtain⟨n,D,hown,hs⟩:=hM;have hf:∀x u,bQ s A i m (.int .i64 x)=some u->u=.pointer (some ⟨A.sh i x.toNat,0,none⟩)/\(0<=x/\x<s.parts/\aJ s.parts m.items x=true):=by
  intro x u hu;simp only[bQ]at hu;split at hu
  ·rename_i ho;cases hu;exact⟨rfl,(dF (by omega) ho).1,(dF (by omega) ho).2,ho⟩
  ·cases hu
 have h0:∀q:Nat,q<s.parts->aJ s.parts m.items q=true->Maps.has D (.int .i64 q)=true:=by intro q hq ho;rw[hs.2];simp[bQ,ho]
 unfold ptr;go_enter func89,ntmps89;go_wp2_with (at_range;refine wpList_range_own _ rfl _ 162 rfl 3 168 eB underlying162 aV (A.sm i) n D rfl hown ?_;intro w0 Ck DF hs0)
 go_frame
 go_loopw [6] (fun _ wr=>∃left cnt,wr.ranges prog 3 aV (A.sm i) w.heap.size n D left cnt/\Below w.heap.size w wr/\w.heap.size<wr.heap.size/\Hid (∀q:Nat,q<s.parts->aJ s.parts m.items q=true->left (.int .i64 q)=true\/bL m q≠c)) (fun _ wr=>wr.rangeLeft (A.sm i) w.heap.size)
 case atStart=>
  exact⟨_,_,Ck,(Below.refl _ _).grown DF (zae _) (fun k e=>by cases e),by omega,fun q hq ho=>Or.inl (h0 q hq ho)⟩
 case round=>
  obtain⟨left,cnt,mC,hB,hsz,HL⟩:=hrel;go_wp2_with (at_next;refine tE _ rfl _ rfl 3 eB underlying3 (A.sm i) w.heap.size n D (bQ s A i m) hs (fun x=>A.sh i x.toNat) _ hf left cnt rfl mC ?_ ?_)
  ·intro hl0;have Hr:Hid (iY s m c=false):=kQ (fun q hq ho=>by
    rcases HL.out q hq ho with e|e
    ·rw[hl0]at e;cases e
    ·exact e)
   clear hl0;go_wp2_with fail
   go_ret;exact⟨cL Hr.out.symm,hB⟩
  ·intro x w1 Pm hx0 hx1 Rv K1 Cl hlt lq hs1 sj;obtain⟨q,rfl⟩:=zao hx0;simp only[Int.toNat_natCast]at sj⊢;have hq:q<s.parts:=by omega
   have je:Below w.heap.size w w1:=hB.grown lq (by omega) (fun k e=>by cases e;exact zae _);have cq:=hS q hq Rv;have cq1:w1.cell? ⟨A.sh i q,1,none⟩=some (.int .i64 (bL m q)):=(je.cell (p:=⟨A.sh i q,1,none⟩) (zaj w _ cq)).trans cq;have vU:w.heap.size<w1.heap.size:=by omega
   clear cq K1;by_cases he:bL m q=c
   ·have Hr:Hid (iY s m c=true):=lR hq Rv he;have heb:(bL m q == c)=true:=beq_iff_eq.2 he;clear he Rv;go_wp2_with fail
    go_ret;exact⟨cL Hr.out.symm,je⟩
   ·have HL':Hid (∀q':Nat,q'<s.parts->aJ s.parts m.items q'=true->(left (.int .i64 q')&& !(Lit.int .i64 q').sameKey (.int .i64 q))=true\/bL m q'≠c):=by
     intro q' fA ho';by_cases e:q'=q
     ·subst e;exact Or.inr he
     ·rcases HL.out q' fA ho' with e1|e1
      ·refine Or.inl ?_;rw[e1,Maps.sameKey_ne (by intro e2;injection e2 with _ e2;omega)];rfl
      ·exact Or.inr e1
    have heb:(bL m q == c)=false:=beq_eq_false_iff_ne.2 he;clear he Rv;go_wp2_with fail
    go_roundw
    case rel=>exact⟨_,_,Cl,je,vU,HL'⟩
    case measure=>rw[Cl.left_eq,mC.left_eq];omega
end
end
section
open Go Go.RowKit Go.MuLone
open Go.Maps (Keyed)
structure Fr(M:Nat->Prop)(w w':af):Prop where
 os:w'.os=w.os
 tape:w'.tape=w.tape
 output:w'.output=w.output
 size:w.heap.size<=w'.heap.size
 block:∀k,k<w.heap.size->¬M k->w'.heap[k]?=w.heap[k]?
def Fr.refl(M:Nat->Prop)(w:af):Fr M w w:=⟨rfl,rfl,rfl,zae _,fun _ _ _=>rfl⟩
def Fr.trans{M:Nat->Prop}{a b c:af}(h:Fr M a b)(g:Fr M b c):Fr M a c:=
 ⟨g.os.trans h.os,g.tape.trans h.tape,g.output.trans h.output,Nat.le_trans h.size g.size,fun k hk hm=>(g.block k (zaf hk h.size) hm).trans (h.block k hk hm)⟩
def Fr.drew{M:Nat->Prop}{a b:af}(h:Fr M a b):Fr M a b.drew:=⟨h.os,h.tape,h.output,h.size,h.block⟩
def Fr.alloc{M:Nat->Prop}{a b:af}(h:Fr M a b)(o:Obj):Fr M a (b.alloc o):=
 h.trans ⟨rfl,rfl,rfl,by simp,fun k hk _=>zad _ _ _ hk⟩
def Fr.setCell{M:Nat->Prop}{a b:af}(h:Fr M a b){p:aA}(hp:M p.block)(v:aj):Fr M a (b.setCell p v):=
 h.trans ⟨rfl,rfl,rfl,by simp[World.setCell],fun k _ hm=>zac _ _ _ _ (fun e=>hm (by rw[e];exact hp))⟩
def Fr.Qb{a b:af}(h:qC a b k)(hk:M k):Fr M a b:=⟨h.os,h.tape,h.output,Nat.le_of_eq h.size.symm,fun i _ hm=>h.block i (fun e=>hm (by rw[e];exact hk))⟩
def Fr.EL{a b:af}(h:Below a.heap.size a b):Fr M a b:=⟨h.os,h.tape,h.output,h.size,fun k hk _=>h.block k hk⟩
def Fr.of_same{a b:af}(h:vX a b):Fr M a b:=⟨h.os,h.tape,h.output,by rw[h.heap];exact zae _,fun k _ _=>by rw[h.heap]⟩
def Fr.blk{a b:af}(h:Fr M a b){t:az}(hb:bg a k c t)(hm:¬M k):bg b k c t:=hb.of_eq (h.block k hb.lt hm)
def Fr.map{a b:af}(h:Fr M a b){t:az}(hb:aS a P t k f)(hm:¬M k):aS b P t k f:=hb.of_eq (h.block k hb.lt hm)
def pG(v:List UInt8->Nat):Lit->Option aj
 |.string l=>if v l=0 then none else some (.int .i64 (v l))
 |_=>none
def CE(A:SA)(q:Nat):Cy A q=pG (A.vis q):=by funext kl;cases kl<;>rfl
def dr(v:List UInt8->Nat)(n:Nat)(L:List KV):List UInt8->Nat:=fun l=>if L.any (fun x=>decide (x.1.data.toList=l))then max (v l) n else v l
def EQ(v:List UInt8->Nat)(n:Nat)(hn:0<n)(L:List KV)(x:KV):pG (dr v n (L++ [x]))=upd (pG (dr v n L)) (.string x.1.data.toList) (.int .i64 (max (dr v n L x.1.data.toList) n:Nat)):=by
 funext kl;by_cases e:kl=.string x.1.data.toList
 ·subst e;rw[upd_same (by trivial)];simp only[pG,dr,List.any_append,List.any_cons,decide_true,Bool.or_true,List.any_nil,Bool.or_false,if_true];cases L.any (fun y=>decide (y.1.data.toList=x.1.data.toList)) <;>simp<;>omega
 ·rw[fI e];cases kl with
  |string l=>
   have:x.1.data.toList≠l:=fun e'=>e (by rw[e']);have h1:dr v n (L++ [x]) l=dr v n L l:=by unfold dr;rw[List.any_append,List.any_cons,List.any_nil,decide_eq_false this,Bool.false_or,Bool.or_false]
   simp only[pG,h1]
  |_=>rfl
def Hw(v:List UInt8->Nat)(n:Nat):dr v n []=v:=by funext l;simp[dr]
def LG{v:List UInt8->Nat}{n:Nat}(hv:∀l,v l<=200)(hn:n<=200)(L:List KV)(l:List UInt8):dr v n L l<=200:=by unfold dr;have:=hv l;split<;>omega
def ER{v:List UInt8->Nat}{n:Nat}{SL:List Lit}(hSL:∀l,v l≠0->Lit.string l∈SL){L:List KV}(K:List KV)(hK:∀x∈K,x∈L):
 ∀kl,pG (dr v n K) kl≠none->kl∈SL++L.map (fun x=>Lit.string x.1.data.toList):=by
 intro kl h;cases kl with
 |string l=>
  rw[List.mem_append];by_cases hk:K.any (fun x=>decide (x.1.data.toList=l))=true
  ·rw[zap]at hk;obtain⟨x,hx,e⟩:=hk;exact Or.inr (zat.2 ⟨x,hK x hx,by rw[of_decide_eq_true e]⟩)
  ·refine Or.inl (hSL l (fun e0=>h ?_));simp only[pG,dr,hk,e0];rfl
 |_=>exact absurd rfl h
def LH(u:List UInt8->Nat)(l:List UInt8):(pG u (.string l)).getD (.int .i64 0)=.int .i64 (u l):=by
 simp only[pG];by_cases h:u l=0
 ·simp[h]
 ·simp[h]
section
variable {w:af}
def TG(pb kb vb:Nat)(f:Lit->Option aj)(v:List UInt8->Nat)(n:Nat)(iv sv:aj)(L:List KV)(SL:List Lit)(hb:bg w pb #[eN,fV,.map (some kb),.map (some vb)] 202)(hM:aS w prog 3 kb f)(hf:f (.int .i64 n)=some (.agg #[iv,sv]))
 (hV:aS w prog 9 vb (pG v)) (hO:w.ownsRow 0 70 2 iv L.length (bn L)) (hL0:0<L.length) (hL8:L.length<=8) (hLg:∀x∈L,fU x=true) (hn0:0<n) (hn:n<=200) (hv:∀l,v l<=200)
 (hSL:∀l,v l≠0->Lit.string l∈SL) (hSn:SL.length<=2000):
 Calls prog 90 #[ptr pb,.int .i64 n] w fun e w'=>e=.returned (.tuple #[])/\aS w' prog 9 vb (pG (dr v n L))/\Fr (fun k=>k=vb) w w':=by
 have c0:w.cell? ⟨pb,0,none⟩=some (.int .i32 0):=hb.cell (o:=0) rfl;have f0:=hb.frozen 0;have hne:=dm hb hM;have Y7:=dm hb hV;have iz:=hb.set 0 (.int .i32 1);obtain⟨g,cap,hiv,_,hcap,hcell,_⟩:=cJ hO hL0;subst hiv;have hfi:=yx (.slice (some ⟨g,0,none⟩) L.length cap) sv;have hgl:g<w.heap.size:=(aQ hO g rfl).2;have hgp:g≠pb:=by
  rintro rfl;obtain⟨_,h2⟩:=hO;rcases h2 with⟨e,_⟩|⟨g',cap',cur,e,_,hg,_⟩
  ·cases e
  ·cases e;have h3:w.heap[g]?=some (.cells _ 202 (0,0)):=hb;rw[h3]at hg;cases hg
 have nZ:aS (w.setCell ⟨pb,0,none⟩ (.int .i32 1)) prog 3 kb f:=hM.of_eq (zac _ _ _ _ (fun e=>hne e.symm));have hV1:aS (w.setCell ⟨pb,0,none⟩ (.int .i32 1)) prog 9 vb (pG v):=hV.of_eq (zac _ _ _ _ (fun e=>Y7 e.symm));have pE:∀j,j<L.length*2->(w.setCell ⟨pb,0,none⟩ (.int .i32 1)).cell? ⟨g,j,none⟩=(bn L)[j]? :=fun j hj=>(zah (w:=w) (zac _ _ _ _ hgp)).trans (hcell j hj);have vU:(w.setCell ⟨pb,0,none⟩ (.int .i32 1)).heap.size=w.heap.size:=by simp[World.setCell]
 have hgv:g≠vb:=by
  rintro rfl;obtain⟨_,h2⟩:=hO;rcases h2 with⟨e,_⟩|⟨g',cap',cur,e,_,hg,_⟩
  ·cases e
  ·cases e;obtain⟨n,D,⟨es,clock,hb',_⟩,_⟩:=hV;rw[hg]at hb';cases hb'
 generalize hw1:w.setCell ⟨pb,0,none⟩ (.int .i32 1)=w1 at *;have d2:w1.cell? ⟨pb,2,none⟩=some (.map (some kb)):=iz.cell (o:=2) rfl;unfold ptr;go_enter_defers func90,ntmps90;go_wp2_with fail
 refine(lock_free Tryz.bA ⟨pb,0,none⟩ _ c0 f0).mono ?_;rintro e w' ⟨rfl,rfl⟩;rw[hw1];go_wp2_with (at_lookup;refine nD _ rfl _ _ 199 rfl 3 214 eB underlying199 (mJ _) kb f rfl nZ _ (.int .i64 n) rfl (keyOf_int (by omega) (by omega)) _ hf ?_)
 go_loopw [21] (fun u wr=>∃k:Nat,k<=L.length/\u=.int .i64 k/\Fr (fun k=>k=vb) w1 wr/\aS wr prog 9 vb (pG (dr v n (L.take k)))) (fun u _=>L.length-(intOf u).toNat)
 case atStart=>exact⟨0,zak _,rfl,Fr.refl _ _,by rw[List.take_zero,Hw];exact hV1⟩
 case round=>
  obtain⟨k,hk,rfl,hF,hVk⟩:=hrel;by_cases hlt:k<L.length
  ·have hx:L[k]?=some L[k]:=zag hlt;obtain⟨e1,e2⟩:=nB L k _ hx;have ck:=pE (k*2) (by omega);have cv:=pE (k*2+1) (by omega);rw[e1]at ck;rw[e2]at cv;have ck':wr.cell? ⟨g,k*2,none⟩=some (.string L[k].1):=(zah (w:=w1) (hF.block g (by omega) hgv)).trans ck;have cv':wr.cell? ⟨g,k*2+1,none⟩=some (.string L[k].2):=(zah (w:=w1) (hF.block g (by omega) hgv)).trans cv;have hbr:=hF.blk iz Y7;have d3:wr.cell? ⟨pb,3,none⟩=some (.map (some vb)):=hbr.cell (o:=3) rfl;have hpl:pb<wr.heap.size:=hbr.lt;have zX:=gN (hLg _ (zar hlt));have HT:Hid (L.take (k+1)=L.take k++ [L[k]]):=zax hlt;generalize L[k]=x at *;obtain⟨kk,vv⟩:=x;simp only at ck' cv' zX;clear ck cv e1 e2 hx pE hcell;go_wp2_with fail
   have hVW:aS (wr.alloc (.cells #[.string kk,.string vv] 70)) prog 9 vb (pG (dr v n (L.take k))):=hVk.of_eq (zad _ _ _ hVk.lt);have cI:(wr.alloc (.cells #[.string kk,.string vv] 70)).cell? ⟨wr.heap.size,0,none⟩=some (.string kk):=(bg.new wr _ _).cell (o:=0) rfl;have d3W:(wr.alloc (.cells #[.string kk,.string vv] 70)).cell? ⟨pb,3,none⟩=some (.map (some vb)):=(zah (w:=wr) (zad _ _ _ hpl)).trans d3;have hFW:Fr (fun k=>k=vb) w1 (wr.alloc (.cells #[.string kk,.string vv] 70)):=hF.alloc _;generalize wr.alloc (.cells #[.string kk,.string vv] 70)=W at *;have hu:=LG hv hn (L.take k) kk.data.toList;have hwv:wr.heap.size≠vb:=by have:=hVk.lt;omega
   have hSu:∀kl,pG (dr v n (L.take k)) kl≠none->kl∈SL++L.map (fun x=>Lit.string x.1.data.toList):=ER hSL (L.take k) (fun x hx=>List.mem_of_mem_take hx);have hlk:(Instr.lookup 200 (.map (some vb)) (.string kk) false).run prog W.drew=.ok (.int .i64 (dr v n (L.take k) kk.data.toList)) W.drew:=by have:=aS.look (w:=W.drew) (e:=3) hVW fT underlying200 (Cz _) (fG (s:=kk) (by unfold maxLen;omega));rw[LH]at this;exact this
   obtain⟨W2,hup,sC,sn⟩:=aS.store (w:=W.drew) (e:=3) hVW fT underlying200 _ hSu (by simp;unfold maxLen;omega) (fG (s:=kk) (by unfold maxLen;omega)) (.int .i64 (max (dr v n (L.take k) kk.data.toList) n:Nat));have HM2:=sC;rw[<-EQ v n hn0 (L.take k) (kk,vv),<-HT.out]at HM2;generalize dr v n (L.take k) kk.data.toList=u at *;clear sC hSu hVW;have ace:Fr (fun k=>k=vb) w1 W2:=hFW.drew.trans (Fr.Qb (M:=fun k=>k=vb) (qC.fK sn) rfl);by_cases hun:n<=u
   ·have hgt:¬(u:Int)<n:=by omega
    rw[show (max u n:Nat)=u from by omega]at hup;have c1:=qC.fK sn;have q1:W2.cell? ⟨wr.heap.size,0,none⟩=some (.string kk):=(zah (w:=W.drew) (c1.block _ hwv)).trans cI;have q2:W2.cell? ⟨pb,3,none⟩=some (.map (some vb)):=(zah (w:=W.drew) (c1.block _ Y7)).trans d3W;go_region_held3 (fun W'=>W'.cell? ⟨wr.heap.size,0,none⟩=some (.string kk)/\W'.cell? ⟨pb,3,none⟩=some (.map (some vb))) (simp[*]) (fail)
    go_wp2_with fail
    go_roundw
    case rel=>exact⟨k+1,by omega,by go_num,ace,HM2⟩
    case measure=>simp[intOf];omega
   ·have hgt:(u:Int)<n:=by omega
    rw[show (max u n:Nat)=n from by omega]at hup;have c1:=qC.fK sn;have q1:W2.cell? ⟨wr.heap.size,0,none⟩=some (.string kk):=(zah (w:=W.drew) (c1.block _ hwv)).trans cI;have q2:W2.cell? ⟨pb,3,none⟩=some (.map (some vb)):=(zah (w:=W.drew) (c1.block _ Y7)).trans d3W;go_region_held3 (fun W'=>W'.cell? ⟨wr.heap.size,0,none⟩=some (.string kk)/\W'.cell? ⟨pb,3,none⟩=some (.map (some vb))) (simp[*]) (fail)
    go_wp2_with fail
    go_roundw
    case rel=>exact⟨k+1,by omega,by go_num,ace,HM2⟩
    case measure=>simp[intOf];omega
  ·have MZ:k=L.length:=by omega
   rw[MZ,zav]at hVk;have hbr:=hF.blk iz Y7;clear pE hcell MZ;go_wp2_with fail
   refine leaves_cons (f:=38) (args:=#[.pointer (some ⟨pb,0,none⟩)]) (by simp) (by simp[go_sem]) ?_;refine(unlock_deferred Tryz.bA ⟨pb,0,none⟩ .returning _ (hbr.cell (o:=0) rfl) (hbr.frozen 0)).mono ?_;rintro e u' w'' ⟨rfl,rfl,rfl⟩;refine⟨_,results_none rfl _ _ _,rfl,hVk.of_eq (zac _ _ _ _ (fun e=>Y7 e.symm)),⟨hF.os.trans (by rw[<-hw1];rfl),hF.tape.trans (by rw[<-hw1];rfl),hF.output.trans (by rw[<-hw1];rfl),?_,fun k hk hm=>?_⟩⟩
   ·have:=hF.size;simp[World.setCell];omega
   ·exact eM hb rfl (v:=.int .i32 1) (p:=fun k=>k<w.heap.size/\¬k=vb) (fun k hk=>by rw[hw1];exact hF.block k (by omega) hk.2) k ⟨hk,hm⟩
end
end
section
open Go Go.RowKit Go.MuLone
open Go.Maps (Keyed)
def nI(ws:List MW):List Lit:=ws.flatMap (fun m=>m.items.map (fun x=>Lit.string x.1.data.toList))
def ES(ws:List MW)(h:∀m∈ws,m.items.length<=8):(nI ws).length<=8*ws.length:=by
 induction ws with
 |nil=>simp[nI]
 |cons m r ih=>
  have h1:=h m (List.mem_cons_self ..);have h2:=ih (fun m' hm'=>h m' (List.mem_cons_of_mem _ hm'));have e:nI (m :: r)=m.items.map (fun x=>Lit.string x.1.data.toList)++nI r:=rfl;rw[e,List.length_append,zas,List.length_cons];omega
def ET{ws:List MW}{m:MW}{x:KV}(hm:ws[i]?=some m)(hx:x∈m.items):Lit.string x.1.data.toList∈nI ws:=
 List.mem_flatMap.2 ⟨m,zal hm,zat.2 ⟨x,hx,rfl⟩⟩
def lE{l:List KV}{q:Int}{x:KV}:x∈bl n l q↔x∈l/\partOf n x.1=q:=by simp[bl]
def oZ{l:List KV}{q:Int}(h:aJ n l q=true):0< (bl n l q).length:=by simp only[aJ,List.any_eq_true,decide_eq_true_eq]at h;obtain⟨x,hx,e⟩:=h;exact List.length_pos_of_mem (lE.2 ⟨hx,e⟩)
def nE(n:Int)(l:List KV)(q:Int):(bl n l q).length<=l.length:=List.length_filter_le _ _
section
variable {w:af}{τ:Nat->Tag}{aO b:Nat}{s:MS}{A:SA}
def a9.PZ(h:a9 w τ aO b s A){q:Nat}(hq:q<s.parts)(l:List UInt8):A.vis q l<=200:=by
 by_cases e:A.vis q l=0
 ·omega
 ·obtain⟨m,hm,_⟩:=(h.lB q hq).seen l e;have:=aM hm;have:=h.ok.len;omega
def a9.Qc(h:a9 w τ aO b s A){q:Nat}(hq:q<s.parts):∀l,A.vis q l≠0->Lit.string l∈nI s.ws:=by intro l e;obtain⟨m,hm,_,x,hx,e1,_⟩:=(h.lB q hq).seen l e;rw[<-e1];exact ET hm hx
def z6(h:a9 w τ aO b s A){m:MW}(hm:s.ws[i]?=some m):iY s m 0= !fo s.parts m:=by
 cases ha:fo s.parts m with
 |true=>
  refine kQ (fun q hq ho e=>?_);simp only[fo,List.all_eq_true,List.mem_range]at ha;have:=ha q hq;simp only[ho,Bool.not_true,Bool.false_or]at this;unfold bL at e;rw[this]at e;cases Dx:m.comm q<;>rw[Dx]at e<;>simp at e
 |false=>
  simp only[fo,List.all_eq_false,List.mem_range]at ha;obtain⟨q,hq,e⟩:=ha;cases ho:aJ s.parts m.items q
  ·simp[ho]at e
  ·simp[ho]at e;refine lR hq ho ?_;unfold bL;rw[e];cases Dx:m.comm q
   ·rfl
   ·rw[h.inv.cp i m q hm Dx]at e;cases e
def Hx{m:MW}(hm:s.ws[i]?=some m)(hc:m.dP=false)(f:Nat->Bool)(q:Nat):bM (setAt s i {m with comm:=f}) A q=bM s A q:=by
 funext kl;cases kl with
 |int k n=>
  cases k<;>try rfl
  simp only[bM];by_cases e:n=(i:Int)+1
  ·rw[e,kP (m:={m with comm:=f}) (aM hm) hc,jJ hm hc]
  ·rw[gm e]
 |_=>rfl
def a9.comm(h:a9 w τ aO b s A){i:Nat}{m:MW}(hm:s.ws[i]?=some m)(hc:m.dP=false){q:Nat}(ho:aJ s.parts m.items q=true)(hp:m.dH q=true)(hnc:m.comm q=false){w':af}
 (hsame:∀k,k<w.heap.size->k≠A.vb q->k≠A.sh i q->w'.heap[k]?=w.heap[k]?)
 (hv:aS w' prog 9 (A.vb q) (pG (dr (A.vis q) (i+1) (bl s.parts m.items q))))
 (hs:bg w' (A.sh i q) #[ptr (A.pb q),.int .i64 2,fY] 174):
 a9 w' τ aO b (setAt s i {m with comm:=put m.comm q}) {A with vis:=fun q'=>if q'=q then dr (A.vis q) (i+1) (bl s.parts m.items q)else A.vis q'}:=by
 have hp1:=h.ok.p1;have hq:q<s.parts:=by have:=(dF (by omega) ho).2;omega
 have hvn:∀q',q'<s.parts->q'≠q->A.vb q'≠A.vb q:=fun q' fA hne e=>by have h1:=h.eV q' fA;rw[e,h.eV q hq]at h1;simp at h1;omega
 have hvs:∀q',q'<s.parts->A.vb q'≠A.sh i q:=fun q' fA e=>by have h1:=h.eV q' fA;rw[e,h.cM i m q hm hc ho]at h1;simp at h1
 have hkv:∀q',q'<s.parts->A.kb q'≠A.vb q/\A.kb q'≠A.sh i q:=fun q' fA=>⟨fun e=>by
  have h1:=h.cF q' fA;rw[e,h.eV q hq]at h1;simp at h1,fun e=>by have h1:=h.cF q' fA;rw[e,h.cM i m q hm hc ho]at h1;simp at h1⟩
 refine h.uq (m':={m with comm:=put m.comm q}) hm hc rfl hc (fun q' fA=>by show put m.comm q q'=true;simp only[put,fA];split<;>rfl) (fun q' fA=>?_) (fun q' fA=>h.inv.po i m q' hm fA) (fun k ot hne=>?_) (fun q' fA=>?_) (fun q' fA=>?_) (fun q' fA=>?_) (fun q' ho'=>?_)
 ·have BJ:put m.comm q q'=true:=fA;unfold put at BJ;split at BJ
  ·rename_i e;rw[e];exact hp
  ·exact h.inv.cp i m q' hm BJ
 ·exact hsame k ot (hne q hq).2.1 ((hne q hq).2.2 ho)
 ·rw[Hx hm hc];exact(h.kept q' fA).of_eq (hsame _ (h.kept q' fA).lt (hkv q' fA).1 (hkv q' fA).2)
 ·rw[CE];by_cases e:q'=q
  ·subst e;simpa using hv
  ·simp only[e,if_false];have:=(h.tB q' fA).of_eq (hsame _ (h.tB q' fA).lt (hvn q' fA e) (hvs q' fA));rwa [CE]at this
 ·by_cases e:q'=q
  ·subst e;simp only[if_true];refine⟨fun l hl=>?_,fun j mj x hj dZ hx hpx=>?_⟩
   ·by_cases hin:(bl s.parts m.items q').any (fun x=>decide (x.1.data.toList=l))=true
    ·have ev:dr (A.vis q') (i+1) (bl s.parts m.items q') l=max (A.vis q' l) (i+1):=by unfold dr;rw[if_pos hin]
     rw[ev];by_cases hge:i+1<A.vis q' l
     ·rw[show max (A.vis q' l) (i+1)=A.vis q' l from by omega];obtain⟨m0,hm0,hc0,r⟩:=(h.lB q' hq).seen l (by omega);refine⟨m0,?_,hc0,r⟩;show (s.ws.set i _)[A.vis q' l-1]?=some m0;rw[List.getElem?_set_ne (by omega)];exact hm0
     ·rw[show max (A.vis q' l) (i+1)=i+1 from by omega];rw[zap]at hin;obtain⟨x,hx,ex⟩:=hin;obtain⟨hx1,FV⟩:=lE.1 hx;exact⟨{m with comm:=put m.comm q'},by simp[setAt,aM hm],by simp[put],x,hx1,of_decide_eq_true ex,FV⟩
    ·have ev:dr (A.vis q') (i+1) (bl s.parts m.items q') l=A.vis q' l:=by unfold dr;rw[if_neg hin]
     rw[ev]at hl⊢;obtain⟨m0,hm0,hc0,r⟩:=(h.lB q' hq).seen l hl;by_cases e:A.vis q' l-1=i
     ·rw[e,hm]at hm0;cases hm0;rw[hnc]at hc0;cases hc0
     ·refine⟨m0,?_,hc0,r⟩;show (s.ws.set i _)[A.vis q' l-1]?=some m0;rw[List.getElem?_set_ne (fun e'=>e e'.symm)];exact hm0
   ·rcases jG hj with⟨rfl,rfl⟩|⟨_,hj'⟩
    ·have hin:(bl s.parts m.items q').any (fun y=>decide (y.1.data.toList=x.1.data.toList))=true:=
      zap.2 ⟨x,lE.2 ⟨hx,hpx⟩,by simp⟩
     unfold dr;rw[if_pos hin];omega
    ·have:=(h.lB q' hq).top j mj x hj' dZ hx hpx;unfold dr;split<;>omega
  ·simp only[e,if_false];refine nG (h.lB q' fA) rfl (fun j mj hj dZ=>?_) (fun j mj hj dZ=>?_)
   ·by_cases e2:i=j
    ·subst e2;rw[hm]at hj;cases hj;exact⟨{m with comm:=put m.comm q},by simp[setAt,aM hm],by simp[put,e,dZ],rfl⟩
    ·exact⟨mj,by simp[setAt,e2,hj],dZ,rfl⟩
   ·rcases jG hj with⟨rfl,rfl⟩|⟨_,hj'⟩
    ·exact⟨m,hm,by simpa[put,e]using dZ,rfl⟩
    ·exact⟨mj,hj',dZ,rfl⟩
 ·by_cases e:q'=q
  ·subst e;simpa[bL,put,hp]using hs
  ·have hb:=h.sh i m q' hm hc ho';have:bg w' (A.sh i q') _ _:=hb.of_eq (hsame _ hb.lt (fun e'=>by
    have h1:=h.cM i m q' hm hc ho';rw[e',h.eV q hq]at h1;simp at h1) (fun e'=>by have h1:=h.cM i m q' hm hc ho';rw[e',h.cM i m q hm hc ho]at h1;simp at h1;omega))
   simpa[bL,put,e]using this
def Hy(h:a9 w τ aO b s A)(n:Int)(m:MW)(hf:bI s n=some m)(p:Int)(hp: -9223372036854775808<=p)(ru:p<=9223372036854775807):
 Calls prog 52 #[ptr (A.pw (n-1).toNat),.int .i64 p] w (oa w τ aO b (eE s n p)):=by
 obtain⟨h1,h2,hm,hc⟩:=eI hf;have hlen:=h.ok.len;have hp1:=h.ok.p1;have FX:=h.ok.p4;obtain⟨i,hi⟩:∃i:Nat,n=(i:Int)+1:=⟨(n-1).toNat,by omega⟩
 subst hi;rw[show ((i:Int)+1-1).toNat=i from by omega]at hm⊢;have hW:=h.wr i m hm hc;have c0:w.cell? ⟨A.pw i,0,none⟩=some (.int .i32 0):=hW.cell (o:=0) rfl;have f0:=hW.frozen 0;have eD:=fX hW (o:=0) rfl (.int .i32 1);have LF:A.sm i≠A.pw i:=fun e=>by have h1:=h.iX i m hm hc;rw[e,h.fj i m hm hc]at h1;simp at h1
 have lC:=hW.set 0 (.int .i32 1);have hWb:=hW;have eH:∀k,k≠A.pw i->(w.setCell ⟨A.pw i,0,none⟩ (.int .i32 1)).heap[k]?=w.heap[k]? :=fun k hk=>zac _ _ _ _ hk;have vU:(w.setCell ⟨A.pw i,0,none⟩ (.int .i32 1)).heap.size=w.heap.size:=by simp[World.setCell]
 have hos:(w.setCell ⟨A.pw i,0,none⟩ (.int .i32 1)).os=w.os/\(w.setCell ⟨A.pw i,0,none⟩ (.int .i32 1)).tape=w.tape/\(w.setCell ⟨A.pw i,0,none⟩ (.int .i32 1)).output=w.output:=⟨rfl,rfl,rfl⟩
 have hun:∀(w3:af) (p:Nat->Prop),(∀k,p k->w3.heap[k]?=(w.setCell ⟨A.pw i,0,none⟩ (.int .i32 1)).heap[k]?)->∀k,p k->(w3.setCell ⟨A.pw i,0,none⟩ eN).heap[k]?=w.heap[k]? :=fun w3 p hp k hk=>eM hWb rfl hp k hk;generalize hw1:w.setCell ⟨A.pw i,0,none⟩ (.int .i32 1)=w1 at *;have d3:w1.cell? ⟨A.pw i,4,none⟩=some (.bool false):=lC.cell (o:=4) rfl;have d4:w1.cell? ⟨A.pw i,5,none⟩=some (.map (some (A.sm i))):=lC.cell (o:=5) rfl;have nZ:aS w1 prog 3 (A.sm i) (bQ s A i m):=(h.PG i m hm hc).of_eq (eH _ LF);have cs:=vD (s:=s) (A:=A) (A.pw i) (A.sm i) i m p _ hp ru d3 d4 nZ;have qD:∀q:Nat,aJ s.parts m.items q=true->A.sh i q≠A.pw i:=fun q ho e=>by have h1:=h.cM i m q hm hc ho;rw[e,h.fj i m hm hc]at h1;simp at h1
 have qp:∀q:Nat,aJ s.parts m.items q=true->bg w1 (A.sh i q) #[ptr (A.pb q),.int .i64 (bL m q),if m.dH q then fY else A.iv i q] 174:=fun q ho=>(h.sh i m q hm hc ho).of_eq (eH _ (qD q ho));have ca:=Bb (s:=s) (A:=A) i m 0 hp1 d4 nZ (fun q _ ho=>(qp q ho).cell (o:=1) rfl);rw[z6 h hm]at ca;cases ho:aJ s.parts m.items p with
 |false=>
  have Hr:Hid (eE s ((i:Int)+1) p=(8,s)):=by unfold Hid eE;rw[hf];simp[ho]
  have hv:eK s A i m p=(.pointer none,8):=by unfold eK;rw[ho];rfl
  rw[hv]at cs;unfold ptr at cs⊢;unfold eN at eD;clear ho hv hf ca qp hun;go_enter_defers func52,ntmps52;go_wp2_with fail
  refine(lock_free Tryz.bA ⟨A.pw i,0,none⟩ _ c0 f0).mono ?_;rintro e w' ⟨rfl,rfl⟩;rw[hw1];go_wp2_with fail
  refine cs.mono ?_;rintro e w' ⟨rfl,rfl⟩;go_wp2_with fail
  refine leaves_cons (f:=38) (args:=#[.pointer (some ⟨A.pw i,0,none⟩)]) (by simp) (by simp[go_sem]) ?_;refine(unlock_deferred Tryz.bA ⟨A.pw i,0,none⟩ .returning _ (lC.cell (o:=0) rfl) (lC.frozen 0)).mono ?_;rintro e u' w'' ⟨rfl,rfl,rfl⟩;rw[Hr.out];exact⟨_,results_tmp rfl _ _ _,A,rfl,h.same eD,eD.ou _ _⟩
 |true=>
  obtain⟨hb0,iz⟩:=dF (by omega) ho;obtain⟨q,rfl⟩:=zao hb0;have hq:q<s.parts:=by omega
  have hv:eK s A i m q=(.pointer (some ⟨A.sh i q,0,none⟩),0):=by unfold eK;rw[ho];rfl
  rw[hv]at cs;cases hap:fo s.parts m with
  |false=>
   have Hr:Hid (eE s ((i:Int)+1) q=(9,s)):=by unfold Hid eE;rw[hf];simp[ho,hap]
   rw[hap]at ca;unfold ptr at cs ca⊢;clear ho hv hf hap qp;go_enter_defers func52,ntmps52;go_wp2_with fail
   refine(lock_free Tryz.bA ⟨A.pw i,0,none⟩ _ c0 f0).mono ?_;rintro e w' ⟨rfl,rfl⟩;rw[hw1];go_wp2_with fail
   refine cs.mono ?_;rintro e w' ⟨rfl,rfl⟩;go_wp2_with fail
   refine ca.mono ?_;rintro e w2 ⟨rfl,hB⟩;go_wp2_with fail
   have rF:bg w2 (A.pw i) _ _:=lC.of_eq (hB.block _ lC.lt);refine leaves_cons (f:=38) (args:=#[.pointer (some ⟨A.pw i,0,none⟩)]) (by simp) (by simp[go_sem]) ?_;refine(unlock_deferred Tryz.bA ⟨A.pw i,0,none⟩ .returning _ (rF.cell (o:=0) rfl) (rF.frozen 0)).mono ?_;rintro e u' w'' ⟨rfl,rfl,rfl⟩;rw[Hr.out];have hall:=hun w2 (fun k=>k<w.heap.size) (fun k hk=>hB.block k (by omega));have uK:Below w.heap.size w (w2.setCell ⟨A.pw i,0,none⟩ eN):=⟨hB.os.trans hos.1,hB.tape.trans hos.2.1,hB.output.trans hos.2.2,by have:=hB.size;simp[World.setCell];omega,hall⟩
   exact⟨_,results_tmp rfl _ _ _,A,rfl,h.below uK,⟨uK.os,uK.tape,uK.output,uK.size,fun _ _=>rfl,fun k hk _=>uK.block k hk⟩⟩
  |true=>
   have hpq:m.dH q=true:=by simp only[fo,List.all_eq_true,List.mem_range]at hap;have:=hap q hq;simpa[ho]using this
   rw[hap]at ca;have X1:=qp q ho;rw[hpq]at X1;cases Dx:m.comm q with
   |true=>
    have Hr:Hid (eE s ((i:Int)+1) q=(10,s)):=by unfold Hid eE;rw[hf];simp[ho,hap,Dx]
    have hst:bL m q=2:=by unfold bL;rw[Dx];rfl
    rw[hst]at X1;unfold ptr at cs ca⊢;clear ho hv hf hap qp hst Dx;go_enter_defers func52,ntmps52;go_wp2_with fail
    refine(lock_free Tryz.bA ⟨A.pw i,0,none⟩ _ c0 f0).mono ?_;rintro e w' ⟨rfl,rfl⟩;rw[hw1];go_wp2_with fail
    refine cs.mono ?_;rintro e w' ⟨rfl,rfl⟩;go_wp2_with fail
    refine ca.mono ?_;rintro e w2 ⟨rfl,hB⟩;have gI:bg w2 (A.sh i q) _ _:=X1.of_eq (hB.block _ X1.lt);have e1:w2.cell? ⟨A.sh i q,1,none⟩=some (.int .i64 2):=gI.cell (o:=1) rfl;go_wp2_with fail
    have rF:bg w2 (A.pw i) _ _:=lC.of_eq (hB.block _ lC.lt);refine leaves_cons (f:=38) (args:=#[.pointer (some ⟨A.pw i,0,none⟩)]) (by simp) (by simp[go_sem]) ?_;refine(unlock_deferred Tryz.bA ⟨A.pw i,0,none⟩ .returning _ (rF.cell (o:=0) rfl) (rF.frozen 0)).mono ?_;rintro e u' w'' ⟨rfl,rfl,rfl⟩;rw[Hr.out];have hall:=hun w2 (fun k=>k<w.heap.size) (fun k hk=>hB.block k (by omega));have uK:Below w.heap.size w (w2.setCell ⟨A.pw i,0,none⟩ eN):=⟨hB.os.trans hos.1,hB.tape.trans hos.2.1,hB.output.trans hos.2.2,by have:=hB.size;simp[World.setCell];omega,hall⟩
    exact⟨_,results_tmp rfl _ _ _,A,rfl,h.below uK,⟨uK.os,uK.tape,uK.output,uK.size,fun _ _=>rfl,fun k hk _=>uK.block k hk⟩⟩
   |false=>
    have Hr:Hid (eE s ((i:Int)+1) q=(0,setAt s i {m with comm:=put m.comm q})):=by unfold Hid eE;rw[hf];simp only[ho,hap,Dx,JJ,Int.toNat_natCast];rw[show ((i:Int)+1-1).toNat=i from by omega];rfl
    have hst:bL m q=1:=by unfold bL;rw[Dx,hpq];rfl
    rw[hst]at X1;have hit:=h.it i m q hm hc ho;have DH:∀k,(A.iv i q).ownBlock=some k->k≠A.pw i:=fun k hk e=>by have h1:=h.eZ i m q k hm hc ho hk;rw[e,h.fj i m hm hc]at h1;simp at h1
    have XQ:A.pb q≠A.pw i:=fun e=>by have h1:=h.dh q hq;rw[e,h.fj i m hm hc]at h1;simp at h1
    have hkb:A.kb q≠A.pw i:=fun e=>by have h1:=h.cF q hq;rw[e,h.fj i m hm hc]at h1;simp at h1
    have hvb:A.vb q≠A.pw i:=fun e=>by have h1:=h.eV q hq;rw[e,h.fj i m hm hc]at h1;simp at h1
    have zG:A.sh i q≠A.vb q:=fun e=>by have h1:=h.cM i m q hm hc ho;rw[e,h.eV q hq]at h1;simp at h1
    have hsp:=qD q ho;have LI:=(h.part q hq).of_eq (eH _ XQ);have LJ:=(h.kept q hq).of_eq (eH _ hkb);have TH:=(h.tB q hq).of_eq (eH _ hvb);rw[CE]at TH;have X2:=aH hit (fun k hk=>eH k (DH k hk));have hkf:bM s A q (.int .i64 ((i+1:Nat):Int))=some (.agg #[A.iv i q,A.sv i]):=by rw[show ((i+1:Nat):Int)=(i:Int)+1 from by omega];simp only[bM,hf,hpq,if_true];rw[show ((i:Int)+1-1).toNat=i from by omega]
    have hI8:=(h.ok.items i m hm).1;have ams:=nE s.parts m.items q;have cc:∀W,Below w1.heap.size w1 W->Calls prog 90 #[ptr (A.pb q),.int .i64 ((i:Int)+1)] W fun e w'=>e=.returned (.tuple #[])/\aS w' prog 9 (A.vb q) (pG (dr (A.vis q) (i+1) (bl s.parts m.items q)))/\Fr (fun k=>k=A.vb q) W w':=by
     intro W hB;have:=TG (w:=W) (A.pb q) (A.kb q) (A.vb q) (bM s A q) (A.vis q) (i+1) (A.iv i q) (A.sv i) (bl s.parts m.items q) (nI s.ws) (LI.of_eq (hB.block _ LI.lt)) (LJ.of_eq (hB.block _ LJ.lt)) hkf (TH.of_eq (hB.block _ TH.lt)) (aH X2 (fun k hk=>hB.block k (aQ X2 k hk).2))
      (oZ ho) (by omega) (fun x hx=>(h.ok.items i m hm).2 x (lE.1 hx).1) (by omega) (by have:=aM hm;omega) (h.PZ hq) (h.Qc hq) (by have:=ES s.ws (fun m' hm'=>by obtain⟨j,hj⟩:=List.getElem?_of_mem hm';exact(h.ok.items j m' hj).1);omega)
     rw[show ((i+1:Nat):Int)=(i:Int)+1 from by omega]at this;exact this
    have d2:w1.cell? ⟨A.pw i,2,none⟩=some (.int .i64 ((i:Int)+1)):=lC.cell (o:=2) rfl;have ahc:A.pw i≠A.vb q:=fun e=>hvb e.symm;unfold ptr at cs ca cc⊢;clear hv qp hst hkf LI LJ TH X2;go_enter_defers func52,ntmps52;go_wp2_with fail
    refine(lock_free Tryz.bA ⟨A.pw i,0,none⟩ _ c0 f0).mono ?_;rintro e w' ⟨rfl,rfl⟩;rw[hw1];go_wp2_with fail
    refine cs.mono ?_;rintro e w' ⟨rfl,rfl⟩;go_wp2_with fail
    refine ca.mono ?_;rintro e w2 ⟨rfl,hB⟩;have gI:bg w2 (A.sh i q) _ _:=X1.of_eq (hB.block _ X1.lt);have rF:bg w2 (A.pw i) _ _:=lC.of_eq (hB.block _ lC.lt);have e0:w2.cell? ⟨A.sh i q,0,none⟩=some (.pointer (some ⟨A.pb q,0,none⟩)):=gI.cell (o:=0) rfl;have e1:w2.cell? ⟨A.sh i q,1,none⟩=some (.int .i64 1):=gI.cell (o:=1) rfl;have e2:w2.cell? ⟨A.pw i,2,none⟩=some (.int .i64 ((i:Int)+1)):=rF.cell (o:=2) rfl;have ccD:=cc w2.drew hB.drew;clear cs ca cc;go_wp2_with fail
    go_region_held3 (fun W=>W.cell? ⟨A.sh i q,0,none⟩=some (.pointer (some ⟨A.pb q,0,none⟩))/\W.cell? ⟨A.pw i,2,none⟩=some (.int .i64 ((i:Int)+1))) (simp[*]) ((go_at_call 90;refine ccD.mono ?_;rintro e w3 ⟨rfl,hV3,JF⟩;have Ve:=JF.blk (a:=w2.drew) gI zG;have vC:=JF.blk (a:=w2.drew) rF ahc;have k0:=Ve.cell (o:=0) (v:=.pointer (some ⟨A.pb q,0,none⟩)) rfl;have k2:=vC.cell (o:=2) (v:=.int .i64 ((i:Int)+1)) rfl))
    have k1:=Ve.cell (o:=1) (v:=.int .i64 1) rfl;have f1:=Ve.frozen 1;clear ccD;go_wp2_with fail
    have hS4:=Ve.set 1 (.int .i64 2);have XN:bg (w3.setCell ⟨A.sh i q,1,none⟩ (.int .i64 2)) (A.pw i) _ _:=vC.of_eq (zac _ _ _ _ (fun e=>hsp e.symm));refine leaves_cons (f:=38) (args:=#[.pointer (some ⟨A.pw i,0,none⟩)]) (by simp) (by simp[go_sem]) ?_;refine(unlock_deferred Tryz.bA ⟨A.pw i,0,none⟩ .returning _ (XN.cell (o:=0) rfl) (XN.frozen 0)).mono ?_;rintro e u' w'' ⟨rfl,rfl,rfl⟩;rw[Hr.out];have ahd:=hB.size;have amu:w2.heap.size<=w3.heap.size:=JF.size;have hall:=hun (w3.setCell ⟨A.sh i q,1,none⟩ (.int .i64 2)) (fun k=>k<w.heap.size/\k≠A.vb q/\k≠A.sh i q) (fun k hk=>by rw[zac _ _ _ _ hk.2.2,JF.block k (by show k<w2.heap.size;omega) hk.2.1];exact hB.block k (by omega))
    refine⟨_,results_tmp rfl _ _ _,_,rfl,h.comm hm hc ho hpq Dx (w':=(w3.setCell ⟨A.sh i q,1,none⟩ (.int .i64 2)).setCell ⟨A.pw i,0,none⟩ eN) (fun k h1 h2 h3=>hall k ⟨h1,h2,h3⟩) (hV3.of_eq ((zac _ _ _ _ hvb).trans (zac _ _ _ _ (fun e=>zG e.symm)))) ?_,?_⟩
    ·exact hS4.of_eq (zac _ _ _ _ hsp)
    ·exact⟨JF.os.trans (hB.os.trans hos.1),JF.tape.trans (hB.tape.trans hos.2.1),JF.output.trans (hB.output.trans hos.2.2),by simp[World.setCell];omega,fun _ _=>rfl,fun k hk hs=>hall k ⟨hk,fun e=>hs (by rw[e,h.eV q hq]),fun e=>hs (by rw[e,h.cM i m q hm hc ho])⟩⟩
def Jk(h:a9 w τ aO b s A)(n p:Int)(hn: -9223372036854775808<=n)(hn':n<=9223372036854775807)(hp: -9223372036854775808<=p)(ru:p<=9223372036854775807):
 Calls prog 28 #[ptr b,.int .i64 n,.int .i64 p] w (oa w τ aO b (eE s n p)):=by
 have c:=yf h n hn hn';cases hf:bI s n with
 |none=>
  have Hr:Hid (eE s n p=(7,s)):=by unfold Hid eE;rw[hf]
  have hv:eJ s A n=(.pointer none,false):=by unfold eJ;rw[hf]
  rw[hv]at c;unfold ptr at c⊢;clear hf hv;go_enter func28,ntmps28;go_wp2_with fail
  refine c.mono ?_;rintro e w1 ⟨rfl,hS⟩;go_wp2_with fail
  go_ret;rw[Hr.out];exact⟨A,rfl,h.same hS,hS.ou _ _⟩
 |some m=>
  have hv:eJ s A n=(ptr (A.pw (n-1).toNat),true):=by unfold eJ;rw[hf]
  rw[hv]at c;have c2:∀w1,vX w w1->Calls prog 52 #[ptr (A.pw (n-1).toNat),.int .i64 p] w1 (oa w1 τ aO b (eE s n p)):=fun w1 hS=>Hy (h.same hS) n m hf p hp ru;generalize (n-1).toNat=j at c c2;unfold ptr at c c2⊢;clear hf hv;go_enter func28,ntmps28;go_wp2_with fail
  refine c.mono ?_;rintro e w1 ⟨rfl,hS⟩;have c3:=c2 w1 hS;clear c c2;go_wp2_with fail
  refine c3.mono ?_;rintro e w2 ⟨A',rfl,hR,hT⟩;go_wp2_with fail
  go_ret;exact⟨A',rfl,hR,(hS.ou _ _).trans hT⟩
end
end
section
open Go Go.RowKit Go.MuLone
open Go.Maps (Keyed)
section
variable {w:af}{τ:Nat->Tag}{aO b:Nat}{s:MS}{A:SA}
def qC.grown(h:qC w w' b):w.grownBy w' (some b):=⟨h.os,h.tape,h.output,Nat.le_of_eq h.size.symm,fun k _ hk=>h.block k (fun e=>hk (by rw[e]))⟩
def CF(h:a9 w τ aO b s A){m:MW}(hm:s.ws[i]?=some m):iY s m 2=(m.comm 0 || m.comm 1 || m.comm 2 || m.comm 3):=by
 have FX:=h.ok.p4;have hp1:=h.ok.p1;have hst:∀q,bL m q=2↔m.comm q=true:=fun q=>by unfold bL;cases m.comm q<;>cases m.dH q<;>simp
 have hq:∀q:Nat,m.comm q=true->q<s.parts/\aJ s.parts m.items q=true:=fun q hc=>by have ho:=h.inv.po i m q hm (h.inv.cp i m q hm hc);have:=(dF (by omega) ho).2;exact⟨by omega,ho⟩
 cases hb:(m.comm 0 || m.comm 1 || m.comm 2 || m.comm 3)with
 |true=>
  have:∃q,m.comm q=true:=by simp only[Bool.or_eq_true]at hb;rcases hb with((e|e)|e)|e<;>exact⟨_,e⟩
  obtain⟨q,e⟩:=this;exact lR (hq q e).1 (hq q e).2 ((hst q).2 e)
 |false=>
  refine kQ (fun q hql _ e=>?_);have:=(hst q).1 e;simp only[Bool.or_eq_false_iff]at hb;have:q=0\/q=1\/q=2\/q=3:=by omega
  rcases this with rfl|rfl|rfl|rfl<;>simp_all
def yA{s:MS}{m:MW}(hi:i<s.ws.length):bI (setAt s i {m with dP:=true}) ((i:Int)+1)=none:=by unfold bI setAt;simp only[List.length_set];rw[if_neg (by omega),show ((i:Int)+1-1).toNat=i from by omega];simp[hi]
def Hz{m:MW}(hi:i<s.ws.length)(q:Nat):bM (setAt s i {m with dP:=true}) A q=del (bM s A q) (.int .i64 ((i:Int)+1)):=by
 funext kl;by_cases e:kl=.int .i64 ((i:Int)+1)
 ·subst e;rw[mH (by trivial)];simp only[bM,yA hi]
 ·rw[kq e];cases kl with
  |int k n=>
   cases k<;>try rfl
   have:n≠(i:Int)+1:=fun e'=>e (by rw[e']);simp only[bM,gm this]
  |_=>rfl
def CG{m:MW}(hi:i<s.ws.length):cQ (setAt s i {m with dP:=true}) A=del (cQ s A) (.int .i64 ((i:Int)+1)):=by
 funext kl;by_cases e:kl=.int .i64 ((i:Int)+1)
 ·subst e;rw[mH (by trivial)];simp only[cQ,yA hi]
 ·rw[kq e];cases kl with
  |int k n=>
   cases k<;>try rfl
   have:n≠(i:Int)+1:=fun e'=>e (by rw[e']);simp only[cQ,gm this]
  |_=>rfl
def LK{m:MW}(h:a9 w τ aO b s A)(hm:s.ws[i]?=some m)(hc:m.dP=false){q:Nat}(ho:aJ s.parts m.items q=false):del (bM s A q) (.int .i64 ((i:Int)+1))=bM s A q:=by
 funext kl;by_cases e:kl=.int .i64 ((i:Int)+1)
 ·subst e;rw[mH (by trivial)];simp only[bM,jJ hm hc];cases hpq:m.dH q
  ·simp
  ·rw[h.inv.po i m q hm hpq]at ho;cases ho
 ·rw[kq e]
def a9.dP(h:a9 w τ aO b s A){i:Nat}{m:MW}(hm:s.ws[i]?=some m)(hc:m.dP=false)(hnc:∀q,m.comm q=false){w':af}
 (hsame:∀k,k<w.heap.size->(∀q,q<s.parts->k≠A.kb q)->k≠A.pw i->k≠A.wm->w'.heap[k]?=w.heap[k]?)
 (hk:∀q,q<s.parts->aS w' prog 3 (A.kb q) (del (bM s A q) (.int .i64 ((i:Int)+1))))
 (hw:aS w' prog 3 A.wm (del (cQ s A) (.int .i64 ((i:Int)+1)))):
 a9 w' τ aO b (setAt s i {m with dP:=true}) A:=by
 have hi:=aM hm;have hne:∀{k a c:Nat},τ k=(aO,a,c)->a≠3->(a=6->c≠i)->a≠5->k<w.heap.size->w'.heap[k]?=w.heap[k]? :=by
  intro k a c ht h3 h6 h5 ot;refine hsame k ot (fun q hq e=>?_) (fun e=>?_) (fun e=>?_)
  ·have:=h.cF q hq;rw[<-e,ht]at this;simp at this;omega
  ·have:=h.fj i m hm hc;rw[<-e,ht]at this;simp at this;exact h6 this.1 this.2
  ·have:=h.iJ;rw[<-e,ht]at this;simp at this;omega
 have dL:∀{j:Nat} {mj:MW},(setAt s i {m with dP:=true}).ws[j]?=some mj->∃mo,s.ws[j]?=some mo/\mj.items=mo.items/\mj.comm=mo.comm/\mj.dH=mo.dH/\(mj.dP=false->mj=mo/\i≠j):=by
  intro j mj hj;rcases jG hj with⟨rfl,rfl⟩|⟨e,hj'⟩
  ·exact⟨m,hm,rfl,rfl,rfl,fun e=>by cases e⟩
  ·exact⟨mj,hj',rfl,rfl,rfl,fun _=>⟨rfl,e⟩⟩
 have hput:∀{j:Nat} {mo:MW},s.ws[j]?=some mo->∃mj,(setAt s i {m with dP:=true}).ws[j]?=some mj/\mj.items=mo.items/\mj.comm=mo.comm:=by
  intro j mo hj;by_cases e:i=j
  ·subst e;rw[hm]at hj;cases hj;exact⟨{m with dP:=true},by simp[setAt,hi],rfl,rfl⟩
  ·exact⟨mo,by simp[setAt,e,hj],rfl,rfl⟩
 refine⟨⟨h.ok.p1,h.ok.p4,by simpa[setAt]using h.ok.len,fun j mj hj=>?_,h.ok.keys,h.ok.opn⟩,⟨fun j mj q hj hcm=>?_,fun j mj q hj Vi=>?_,fun j mj q hj hcm=>?_⟩,?_,?_,h.tag,?_,h.eF,fun q hq=>?_,h.dh,fun q hq=>?_,h.cF,fun q hq=>?_,h.eV,fun q hq=>?_,?_,h.iJ,fun j mj hj dZ=>?_,fun j mj hj dZ=>?_,fun j mj hj dZ=>?_,fun j mj hj dZ=>?_,fun j mj q hj dZ ho=>?_,fun j mj q hj dZ ho=>?_,fun j mj q hj dZ ho=>?_,fun j mj q k hj dZ ho=>?_,h.reads.frame (fun k hk h1 Jr=>⟨hne (a:=(τ k).2.1) (c:=(τ k).2.2) (by rw[<-h1]) (by omega) (by omega) (by omega) hk,rfl⟩),fun j mj hj=>?_⟩
 ·obtain⟨mo,ho,e,_⟩:=dL hj;rw[e];exact h.ok.items j mo ho
 ·obtain⟨mo,ho,_,e1,e2,_⟩:=dL hj;rw[e2];rw[e1]at hcm;exact h.inv.cp j mo q ho hcm
 ·obtain⟨mo,ho,e,_,e2,_⟩:=dL hj;rw[e];rw[e2]at Vi;exact h.inv.po j mo q ho Vi
 ·rcases jG hj with⟨rfl,rfl⟩|⟨_,hj'⟩
  ·exact hnc q
  ·exact h.inv.cc j mj q hj' hcm
 ·refine h.told.ws rfl rfl rfl rfl (fun j mj hj=>by obtain⟨mo,ho,_⟩:=dL hj;exact h.told.sv j mo ho) (fun j mj hj=>?_);obtain⟨m',a1,a2,a3⟩:=hput hj;exact⟨m',a1,a2,fun q hq=>by rw[a3];exact hq,rfl⟩
 ·have:=h.blk.of_eq (hne h.tag (by omega) (by omega) (by omega) h.blk.lt);simpa[setAt]using this
 ·exact aH h.cG (fun k hk=>hne (h.eF k hk) (by omega) (by omega) (by omega) (aQ h.cG k hk).2)
 ·exact(h.part q hq).of_eq (hne (h.dh q hq) (by omega) (by omega) (by omega) (h.part q hq).lt)
 ·rw[Hz hi];exact hk q hq
 ·exact(h.tB q hq).of_eq (hne (h.eV q hq) (by omega) (by omega) (by omega) (h.tB q hq).lt)
 ·refine nG (h.lB q hq) rfl (fun j mj hj dZ=>?_) (fun j mj hj dZ=>?_)
  ·obtain⟨m',h1,h2,h3⟩:=hput hj;exact⟨m',h1,by rw[h3];exact dZ,h2⟩
  ·obtain⟨mo,h1,h2,h3,_⟩:=dL hj;exact⟨mo,h1,by rw[<-h3];exact dZ,h2⟩
 ·rw[CG hi];exact hw
 ·obtain⟨mo,ho,_,_,_,e⟩:=dL hj;obtain⟨rfl,M0⟩:=e dZ;have hb:=h.wr j mj ho dZ;exact hb.of_eq (hne (h.fj j mj ho dZ) (by omega) (fun _ e'=>M0 e'.symm) (by omega) hb.lt)
 ·obtain⟨mo,ho,_,_,_,e⟩:=dL hj;obtain⟨rfl,M0⟩:=e dZ;exact h.fj j mj ho dZ
 ·obtain⟨mo,ho,_,_,_,e⟩:=dL hj;obtain⟨rfl,M0⟩:=e dZ;have hb:=h.PG j mj ho dZ;have:=hb.of_eq (hne (h.iX j mj ho dZ) (by omega) (by omega) (by omega) hb.lt);refine this.congr (fun kl=>?_);cases kl with
  |int k n=>cases k<;>rfl
  |_=>rfl
 ·obtain⟨mo,ho,_,_,_,e⟩:=dL hj;obtain⟨rfl,M0⟩:=e dZ;exact h.iX j mj ho dZ
 ·obtain⟨mo,hmo,_,_,_,e⟩:=dL hj;obtain⟨rfl,M0⟩:=e dZ;have hb:=h.sh j mj q hmo dZ ho;exact hb.of_eq (hne (h.cM j mj q hmo dZ ho) (by omega) (by omega) (by omega) hb.lt)
 ·obtain⟨mo,hmo,_,_,_,e⟩:=dL hj;obtain⟨rfl,M0⟩:=e dZ;exact h.cM j mj q hmo dZ ho
 ·obtain⟨mo,hmo,_,_,_,e⟩:=dL hj;obtain⟨rfl,M0⟩:=e dZ;have hr:=h.it j mj q hmo dZ ho;exact aH hr (fun k hk=>hne (h.eZ j mj q k hmo dZ ho hk) (by omega) (by omega) (by omega) (aQ hr k hk).2)
 ·obtain⟨mo,hmo,_,_,_,e⟩:=dL hj;obtain⟨rfl,M0⟩:=e dZ;exact h.eZ j mj q k hmo dZ ho
 ·obtain⟨mo,hmo,e,_⟩:=dL hj;rw[e];exact(h.KY j mo hmo).of fun k hk ht=>⟨hne ht (by omega) (by omega) (by omega) hk,rfl⟩
def G7(wb wm:Nat)(c:Array aj)(f:Lit->Option aj)(hb:bg w wb c 105)(e2:c[2]?=some eN)(e5:c[6]?=some (.map (some wm)))(hM:aS w prog 3 wm f)(n:Int)(h1: -9223372036854775808<=n)(h2:n<=9223372036854775807):
 Calls prog 55 #[ptr wb,.int .i64 n] w fun e w'=>e=.returned (.tuple #[])/\aS w' prog 3 wm (del f (.int .i64 n))/\qC w w' wm:=by
 have c2:w.cell? ⟨wb,2,none⟩=some (.int .i32 0):=hb.cell e2;have c5:w.cell? ⟨wb,6,none⟩=some (.map (some wm)):=hb.cell e5;have f2:=hb.frozen 2;have hne:=dm hb hM;have nZ:∀v,aS (w.setCell ⟨wb,2,none⟩ v) prog 3 wm f:=fun v=>hM.of_eq (zac _ _ _ _ (fun e=>hne e.symm));have Y8:(c.setIfInBounds 2 (.int .i32 1))[2]?=some (.int .i32 1):=by have:=(zai.1 e2).1;simp[this]
 unfold ptr;go_enter_defers func55,ntmps55;go_wp2_with (first|(go_at_call 37;refine(lock_free Tryz.bA ⟨wb,2,none⟩ _ c2 f2).mono ?_;rintro e w' ⟨rfl,rfl⟩)|(at_delete;refine oX _ rfl _ _ 102 3 rfl 118 eB underlying102 wm f rfl (nZ _) _ (.int .i64 n) rfl (keyOf_int h1 h2) ?_;intro w1 sC hT))
 have hB:=qC.fK hT;have iz:bg w1 wb _ 105:=(hb.set 2 (.int .i32 1)).of_eq (hB.block wb hne);refine leaves_cons (f:=38) (args:=#[.pointer (some ⟨wb,2,none⟩)]) (by simp) (by simp[go_sem]) ?_;refine(unlock_deferred Tryz.bA ⟨wb,2,none⟩ .returning _ (iz.cell (o:=2) Y8) (iz.frozen 2)).mono ?_;rintro e u' w'' ⟨rfl,rfl,rfl⟩;exact⟨_,results_none rfl _ _ _,rfl,sC.of_eq (zac _ _ _ _ (fun e=>hne e.symm)),qC.locked hb e2 _ hB hne⟩
end
end
section
open Go Go.RowKit Go.MuLone
open Go.Maps (Keyed)
section
variable {w:af}{τ:Nat->Tag}{aO b:Nat}{s:MS}{A:SA}
def iA(s:MS)(A:SA)(i:Nat)(m:MW)(left:Lit->Bool)(q:Nat):Lit->Option aj:=
 if (aJ s.parts m.items q && !left (.int .i64 q))=true then del (bM s A q) (.int .i64 ((i:Int)+1))else bM s A q
structure ahe(w w':af)(s:MS)(A:SA)(i:Nat):Prop where
 fr:Fr (fun k=>k=A.pw i\/∃q,q<s.parts/\k=A.kb q) w w'
 kept:∀q,q<s.parts->aS w' prog 3 (A.kb q) (del (bM s A q) (.int .i64 ((i:Int)+1)))
def G6(h:a9 w τ aO b s A)(i:Nat)(m:MW)(hm:s.ws[i]?=some m)(hc:m.dP=false):
 Calls prog 54 #[ptr (A.pw i)] w fun e w'=>
  ((m.comm 0 || m.comm 1 || m.comm 2 || m.comm 3)=true/\e=.returned (.int .i64 9)/\Below w.heap.size w w')\/
  ((m.comm 0 || m.comm 1 || m.comm 2 || m.comm 3)=false/\e=.returned (.int .i64 0)/\ahe w w' s A i):=by
 have hlen:=h.ok.len
 have hp1:=h.ok.p1
 have FX:=h.ok.p4
 have hi:=aM hm
 have hW:=h.wr i m hm hc
 have c0:w.cell? ⟨A.pw i,0,none⟩=some (.int .i32 0):=hW.cell (o:=0) rfl
 have f0:=hW.frozen 0
 have LF:A.sm i≠A.pw i:=fun e=>by have h1:=h.iX i m hm hc;rw[e,h.fj i m hm hc]at h1;simp at h1
 have lC:=hW.set 0 (.int .i32 1)
 have hWb:=hW
 have eH:∀k,k≠A.pw i->(w.setCell ⟨A.pw i,0,none⟩ (.int .i32 1)).heap[k]?=w.heap[k]? :=fun k hk=>zac _ _ _ _ hk
 have vU:(w.setCell ⟨A.pw i,0,none⟩ (.int .i32 1)).heap.size=w.heap.size:=by simp[World.setCell]
 have hos:(w.setCell ⟨A.pw i,0,none⟩ (.int .i32 1)).os=w.os/\(w.setCell ⟨A.pw i,0,none⟩ (.int .i32 1)).tape=w.tape/\(w.setCell ⟨A.pw i,0,none⟩ (.int .i32 1)).output=w.output:=⟨rfl,rfl,rfl⟩
 have hun:∀(w3:af) (p:Nat->Prop),(∀k,p k->w3.heap[k]?=(w.setCell ⟨A.pw i,0,none⟩ (.int .i32 1)).heap[k]?)->∀k,p k->(w3.setCell ⟨A.pw i,0,none⟩ eN).heap[k]?=w.heap[k]? :=fun w3 p hp k hk=>eM hWb rfl hp k hk
 generalize hw1:w.setCell ⟨A.pw i,0,none⟩ (.int .i32 1)=w1 at *
 have d3:w1.cell? ⟨A.pw i,4,none⟩=some (.bool false):=lC.cell (o:=4) rfl
 have d4:w1.cell? ⟨A.pw i,5,none⟩=some (.map (some (A.sm i))):=lC.cell (o:=5) rfl
 have nZ:aS w1 prog 3 (A.sm i) (bQ s A i m):=(h.PG i m hm hc).of_eq (eH _ LF)
 have qD:∀q:Nat,aJ s.parts m.items q=true->A.sh i q≠A.pw i:=fun q ho e=>by have h1:=h.cM i m q hm hc ho;rw[e,h.fj i m hm hc]at h1;simp at h1
 have qp:∀q:Nat,aJ s.parts m.items q=true->bg w1 (A.sh i q) #[ptr (A.pb q),.int .i64 (bL m q),if m.dH q then fY else A.iv i q] 174:=fun q ho=>(h.sh i m q hm hc ho).of_eq (eH _ (qD q ho))
 have ca:=Bb (s:=s) (A:=A) i m 2 hp1 d4 nZ (fun q _ ho=>(qp q ho).cell (o:=1) rfl)
 rw[CF h hm]at ca
 cases hcm:(m.comm 0 || m.comm 1 || m.comm 2 || m.comm 3)with
 |true=>
  rw[hcm]at ca
  unfold ptr at ca⊢
  clear hcm qp
  go_enter_defers func54,ntmps54
  go_wp2_with fail
  refine(lock_free Tryz.bA ⟨A.pw i,0,none⟩ _ c0 f0).mono ?_
  rintro e w' ⟨rfl,rfl⟩
  rw[hw1]
  go_wp2_with fail
  refine ca.mono ?_
  rintro e w2 ⟨rfl,hB⟩
  go_wp2_with fail
  have rF:bg w2 (A.pw i) _ _:=lC.of_eq (hB.block _ lC.lt)
  refine leaves_cons (f:=38) (args:=#[.pointer (some ⟨A.pw i,0,none⟩)]) (by simp) (by simp[go_sem]) ?_
  refine(unlock_deferred Tryz.bA ⟨A.pw i,0,none⟩ .returning _ (rF.cell (o:=0) rfl) (rF.frozen 0)).mono ?_
  rintro e u' w'' ⟨rfl,rfl,rfl⟩
  have hall:=hun w2 (fun k=>k<w.heap.size) (fun k hk=>hB.block k (by omega))
  have uK:Below w.heap.size w (w2.setCell ⟨A.pw i,0,none⟩ eN):=⟨hB.os.trans hos.1,hB.tape.trans hos.2.1,hB.output.trans hos.2.2,by have:=hB.size;simp[World.setCell];omega,hall⟩
  exact⟨_,results_tmp rfl _ _ _,Or.inl ⟨trivial,rfl,uK⟩⟩
 |false=>
  rw[hcm]at ca
  have f3:w1.frozen? ⟨A.pw i,4,none⟩=false:=lC.frozen 4
  have BQ:=h.cF
  have hks:∀q q':Nat,q<s.parts->aJ s.parts m.items q'=true->A.sh i q'≠A.kb q:=fun q q' hq ho e=>by have h1:=h.cM i m q' hm hc ho;rw[e,BQ q hq]at h1;simp at h1
  have xM:∀q,q<s.parts->A.pw i≠A.kb q:=fun q hq e=>by have h1:=h.fj i m hm hc;rw[e,BQ q hq]at h1;simp at h1
  have hkm:∀q,q<s.parts->A.sm i≠A.kb q:=fun q hq e=>by have h1:=h.iX i m hm hc;rw[e,BQ q hq]at h1;simp at h1
  have hkp:∀q q',q<s.parts->q'<s.parts->A.pb q'≠A.kb q:=fun q q' hq fA e=>by have h1:=h.dh q' fA;rw[e,BQ q hq]at h1;simp at h1
  have hkk:∀q q',q<s.parts->q'<s.parts->q≠q'->A.kb q'≠A.kb q:=fun q q' hq fA hne e=>by have h1:=BQ q' fA;rw[e,BQ q hq]at h1;simp at h1;omega
  have hpw:∀q,q<s.parts->A.pb q≠A.pw i:=fun q hq e=>by have h1:=h.dh q hq;rw[e,h.fj i m hm hc]at h1;simp at h1
  have LI:∀q,q<s.parts->bg w1 (A.pb q) #[eN,fV,.map (some (A.kb q)),.map (some (A.vb q))] 202:=fun q hq=>(h.part q hq).of_eq (eH _ (hpw q hq))
  have LJ:∀q,q<s.parts->aS w1 prog 3 (A.kb q) (bM s A q):=fun q hq=>(h.kept q hq).of_eq (eH _ (fun e=>xM q hq e.symm))
  have hfs:∀x u,bQ s A i m (.int .i64 x)=some u->u=.pointer (some ⟨A.sh i x.toNat,0,none⟩)/\(0<=x/\x<s.parts/\aJ s.parts m.items x=true):=by
   intro x u hu;simp only[bQ]at hu;split at hu
   ·rename_i ho;cases hu;exact⟨rfl,(dF (by omega) ho).1,(dF (by omega) ho).2,ho⟩
   ·cases hu
  unfold ptr at ca⊢
  go_enter_defers func54,ntmps54
  go_wp2_with fail
  refine(lock_free Tryz.bA ⟨A.pw i,0,none⟩ _ c0 f0).mono ?_
  rintro e w' ⟨rfl,rfl⟩
  rw[hw1]
  go_wp2_with fail
  refine ca.mono ?_
  rintro e w2 ⟨rfl,hB⟩
  have rF:bg w2 (A.pw i) _ _:=lC.of_eq (hB.block _ lC.lt)
  have g3:w2.cell? ⟨A.pw i,4,none⟩=some (.bool false):=rF.cell (o:=4) rfl
  have g4:w2.cell? ⟨A.pw i,5,none⟩=some (.map (some (A.sm i))):=rF.cell (o:=5) rfl
  have ff3:=rF.frozen 4
  have vC:=rF.set 4 (.bool true)
  have z7:Fr (fun k=>k=A.pw i) w1 (w2.setCell ⟨A.pw i,4,none⟩ (.bool true)):=(Fr.EL hB).setCell (M:=fun k=>k=A.pw i) (p:=⟨A.pw i,4,none⟩) rfl _
  have JC:aS (w2.setCell ⟨A.pw i,4,none⟩ (.bool true)) prog 3 (A.sm i) (bQ s A i m):=z7.map nZ LF
  obtain⟨n,D,hown,hs⟩:=JC
  have XK:(w2.setCell ⟨A.pw i,4,none⟩ (.bool true)).heap.size=w2.heap.size:=by simp[World.setCell]
  go_wp2_with (at_range;refine wpList_range_own _ rfl _ 162 rfl 3 168 eB underlying162 aV (A.sm i) n D rfl hown ?_;intro w0 Ck DF hs0)
  go_frame
  rw[XK]at Ck hs0⊢
  have ahd:=hB.size
  generalize hx:w2.setCell ⟨A.pw i,4,none⟩ (.bool true)=X at *
  have hSX:∀q:Nat,aJ s.parts m.items q=true->bg X (A.sh i q) #[ptr (A.pb q),.int .i64 (bL m q),if m.dH q then fY else A.iv i q] 174:=fun q ho=>z7.blk (qp q ho) (qD q ho)
  have hPX:∀q,q<s.parts->bg X (A.pb q) #[eN,fV,.map (some (A.kb q)),.map (some (A.vb q))] 202:=fun q hq=>z7.blk (LI q hq) (hpw q hq)
  have hKX:∀q,q<s.parts->aS X prog 3 (A.kb q) (bM s A q):=fun q hq=>z7.map (LJ q hq) (fun e=>xM q hq e.symm)
  have hn1: -9223372036854775808<=(i:Int)+1:=by omega
  have hn2:(i:Int)+1<=9223372036854775807:=by omega
  clear qp LI LJ ca
  go_loopw [4] (fun _ wr=>∃left cnt,wr.ranges prog 3 aV (A.sm i) w2.heap.size n D left cnt/\Fr (fun k=>∃q,q<s.parts/\k=A.kb q) X wr/\Hid (∀q,q<s.parts->aS wr prog 3 (A.kb q) (iA s A i m left q))) (fun _ wr=>wr.rangeLeft (A.sm i) w2.heap.size)
  case atStart=>
   refine⟨_,_,Ck,⟨DF.os,DF.tape,DF.output,DF.size,fun k hk _=>DF.block k hk (by simp)⟩,fun q hq=>?_⟩
   have e1:iA s A i m (Maps.has D) q=bM s A q:=by
    unfold iA;rw[hs.2];simp only[bQ];by_cases ho:aJ s.parts m.items q=true
    ·simp[ho]
    ·simp[ho]
   rw[e1]
   exact(hKX q hq).of_eq (DF.block _ (hKX q hq).lt (by simp))
  case round=>
   obtain⟨left,cnt,mC,hF,HK⟩:=hrel
   go_wp2_with (at_next;refine tE _ rfl _ rfl 3 eB underlying3 (A.sm i) w2.heap.size n D (bQ s A i m) hs (fun x=>A.sh i x.toNat) _ hfs left cnt rfl mC ?_ ?_)
   ·intro hl0
    have HC:Hid (∀q,q<s.parts->aS wr prog 3 (A.kb q) (del (bM s A q) (.int .i64 ((i:Int)+1)))):=by
     intro q hq;have:=HK.out q hq;unfold iA at this;rw[hl0]at this;cases ho:aJ s.parts m.items q
     ·rw[ho]at this;rw[LK h hm hc ho];simpa using this
     ·rw[ho]at this;simpa using this
    have hWr:=hF.blk vC (fun⟨q,hq,e⟩=>xM q hq e)
    clear hl0
    go_wp2_with fail
    refine leaves_cons (f:=38) (args:=#[.pointer (some ⟨A.pw i,0,none⟩)]) (by simp) (by simp[go_sem]) ?_
    refine(unlock_deferred Tryz.bA ⟨A.pw i,0,none⟩ .returning _ (hWr.cell (o:=0) rfl) (hWr.frozen 0)).mono ?_
    rintro e u' w'' ⟨rfl,rfl,rfl⟩
    refine⟨_,results_tmp rfl _ _ _,Or.inr ⟨trivial,rfl,⟨⟨hF.os.trans (z7.os.trans hos.1),hF.tape.trans (z7.tape.trans hos.2.1),hF.output.trans (z7.output.trans hos.2.2),?_,fun k hk hM=>?_⟩,fun q hq=>(HC.out q hq).of_eq (zac _ _ _ _ (fun e=>xM q hq e.symm))⟩⟩⟩
    ·have h1:=hF.size
     have h2:=z7.size
     simp[World.setCell];omega
    ·have Kr:k≠A.pw i:=fun e=>hM (Or.inl e)
     have h2:=z7.size
     rw[zac _ _ _ _ Kr,hF.block k (by omega) (fun e=>hM (Or.inr e)),z7.block k (by omega) Kr,eH k Kr]
   ·intro x w4 Pm hx0 hx1 Rv K1 Cl hlt lq hs1 sj
    obtain⟨q,rfl⟩:=zao hx0
    simp only[Int.toNat_natCast]at sj⊢
    have hq:q<s.parts:=by omega
    have hrl:=mC.lt
    have hsF:=hF.size
    have Rw:Fr (fun k=>∃q,q<s.parts/\k=A.kb q) X w4:=⟨lq.os.trans hF.os,lq.tape.trans hF.tape,lq.output.trans hF.output,by omega,fun k hk hM=>(lq.block k (by omega) (fun e=>by have:=Option.some.inj e;omega)).trans (hF.block k hk hM)⟩
    have hS4:=Rw.blk (hSX q Rv) (fun⟨q',fA,e⟩=>hks q' q fA Rv e)
    have XN:=Rw.blk vC (fun⟨q',fA,e⟩=>xM q' fA e)
    have MM:=Rw.blk (hPX q hq) (fun⟨q',fA,e⟩=>hkp q' q fA hq e)
    have hK4:∀q',q'<s.parts->aS w4 prog 3 (A.kb q') (iA s A i m left q'):=fun q' fA=>(HK.out q' fA).of_eq (lq.block _ (HK.out q' fA).lt (fun e=>by have:=Option.some.inj e;have:=(hKX q' fA).lt;omega))
    have hKq:aS w4 prog 3 (A.kb q) (bM s A q):=by have:=hK4 q hq;unfold iA at this;rw[K1]at this;simpa using this
    have e0:w4.cell? ⟨A.sh i q,0,none⟩=some (.pointer (some ⟨A.pb q,0,none⟩)):=hS4.cell (o:=0) rfl
    have e2:w4.cell? ⟨A.pw i,2,none⟩=some (.int .i64 ((i:Int)+1)):=XN.cell (o:=2) rfl
    have tF:A.sh i q≠A.kb q:=hks q q hq Rv
    have hwq:=xM q hq
    have HM:Hid (∀w5:af,qC w4 w5 (A.kb q)->aS w5 prog 3 (A.kb q) (del (bM s A q) (.int .i64 ((i:Int)+1)))->∀q',q'<s.parts->aS w5 prog 3 (A.kb q') (iA s A i m (fun z=>left z && !z.sameKey (.int .i64 q)) q')):=by
     intro w5 Gt Jf q' fA;by_cases e:q'=q
     ·subst e;have e1:iA s A i m (fun z=>left z && !z.sameKey (.int .i64 q')) q'=del (bM s A q') (.int .i64 ((i:Int)+1)):=by have e2:(Lit.int .i64 (q':Int)).sameKey (.int .i64 q')=true:=mG (by trivial);unfold iA;simp only[Rv,e2,Bool.not_true,Bool.and_false,Bool.not_false,Bool.and_true,if_true]
      rw[e1];exact Jf
     ·have e1:iA s A i m (fun z=>left z && !z.sameKey (.int .i64 q)) q'=iA s A i m left q':=by have e2:(Lit.int .i64 (q':Int)).sameKey (.int .i64 q)=false:=Maps.sameKey_ne (by intro e2;injection e2 with _ e2;omega);unfold iA;simp only[e2,Bool.not_false,Bool.and_true]
      rw[e1];exact(hK4 q' fA).of_eq (Gt.block _ (hkk q q' hq fA (fun e2=>e e2.symm)))
    have UP:∀w5:af,qC w4 w5 (A.kb q)->w5.ranges prog 3 aV (A.sm i) w2.heap.size n D (fun z=>left z && !z.sameKey (.int .i64 q)) Pm/\Fr (fun k=>∃q,q<s.parts/\k=A.kb q) X w5:=fun w5 Gt=>
     ⟨Cl.kept Gt.grown (fun e=>hkm q hq (Option.some.inj e)) (fun e=>by have:=Option.some.inj e;have:=(hKX q hq).lt;omega),Rw.trans (Fr.Qb (M:=fun k=>∃q,q<s.parts/\k=A.kb q) Gt ⟨q,hq,rfl⟩)⟩
    have HR5:=(show Hid _ from UP)
    clear UP K1 Rv hK4 hSX hPX hs hfs
    go_wp2_with fail
    go_region_held3 (fun W=>W.cell? ⟨A.sh i q,0,none⟩=some (.pointer (some ⟨A.pb q,0,none⟩))/\W.cell? ⟨A.pw i,2,none⟩=some (.int .i64 ((i:Int)+1))) (simp[*]) ((go_at_call 92;refine(ab6 (A.pb q) (A.kb q) (A.vb q) (bM s A q) (by exact MM) (by exact hKq) _ hn1 hn2).mono ?_;rintro e w5 ⟨rfl,Jf,Gt⟩;have ZT:=hS4.of_eq (Gt.block _ tF);have hW5:=XN.of_eq (Gt.block _ hwq);have k0:=ZT.cell (o:=0) (v:=.pointer (some ⟨A.pb q,0,none⟩)) rfl;have k2:=hW5.cell (o:=2) (v:=.int .i64 ((i:Int)+1)) rfl))
    have acf:qC w4 w5 (A.kb q):=⟨Gt.os,Gt.tape,Gt.output,Gt.size,Gt.block⟩
    obtain⟨r1,r2⟩:=HR5.out w5 acf
    have r3:=HM.out w5 acf Jf
    go_roundw
    case rel=>(repeat apply Exists.intro);exact⟨⟨_,_,r1,r2,r3⟩,rfl⟩
    case measure=>rw[r1.left_eq,mC.left_eq];omega
end
end
section
open Go Go.RowKit Go.MuLone
open Go.Maps (Keyed)
section
variable {w:af}{τ:Nat->Tag}{aO b:Nat}{s:MS}{A:SA}
def Pq{m:MW}(hi:∀q,m.comm q=true->q<4)(h:(m.comm 0 || m.comm 1 || m.comm 2 || m.comm 3)=false):∀q,m.comm q=false:=by
 intro q;cases hc:m.comm q
 ·rfl
 ·have:=hi q hc;have:q=0\/q=1\/q=2\/q=3:=by omega
  simp only[Bool.or_eq_false_iff]at h;rcases this with rfl|rfl|rfl|rfl<;>simp_all
def S8(h:a9 w τ aO b s A)(n:Int)(hn: -9223372036854775808<=n)(hn':n<=9223372036854775807):
 Calls prog 30 #[ptr b,.int .i64 n] w (oa w τ aO b (iV s n)):=by
 have c:=yf h n hn hn';cases hf:bI s n with
 |none=>
  have Hr:Hid (iV s n=(7,s)):=by unfold Hid iV;rw[hf]
  have hv:eJ s A n=(.pointer none,false):=by unfold eJ;rw[hf]
  rw[hv]at c;unfold ptr at c⊢;clear hf hv;go_enter func30,ntmps30;go_wp2_with fail
  refine c.mono ?_;rintro e w1 ⟨rfl,hS⟩;go_wp2_with fail
  go_ret;rw[Hr.out];exact⟨A,rfl,h.same hS,hS.ou _ _⟩
 |some m=>
  have hv:eJ s A n=(ptr (A.pw (n-1).toNat),true):=by unfold eJ;rw[hf]
  rw[hv]at c;obtain⟨h1,h2,hm,hc⟩:=eI hf;have FX:=h.ok.p4;have hp1:=h.ok.p1;have c2:∀w1,vX w w1->_:=fun w1 hS=>G6 (h.same hS) (n-1).toNat m hm hc;have hnj:n=((n-1).toNat:Int)+1:=by omega
  have H9:Hid ((m.comm 0 || m.comm 1 || m.comm 2 || m.comm 3)=true->iV s n=(9,s)):=by intro ha;unfold iV;rw[hf];simp only[ha,if_true]
  have H0:Hid ((m.comm 0 || m.comm 1 || m.comm 2 || m.comm 3)=false->iV s n=(0,setAt s (n-1).toNat {m with dP:=true})):=by intro ha;unfold iV;rw[hf];simp only[ha];rfl
  have hci:∀q,m.comm q=true->q<4:=fun q Dx=>by have ho:=h.inv.po _ m q hm (h.inv.cp _ m q hm Dx);have:=(dF (by omega) ho).2;omega
  generalize (n-1).toNat=j at *;have Hnj:Hid (n=(j:Int)+1):=hnj;unfold ptr at c c2⊢;clear hf hv hnj;go_enter func30,ntmps30;go_wp2_with fail
  refine c.mono ?_;rintro e w1 ⟨rfl,hS⟩;have c3:=c2 w1 hS;clear c c2;go_wp2_with fail
  refine c3.mono ?_;rintro e w2 (⟨hcm,rfl,hB⟩|⟨hcm,rfl,hC⟩)
  ·have Hr:Hid (iV s n=(9,s)):=H9.out hcm;clear c3 hcm;go_wp2_with fail
   go_ret;rw[Hr.out];have dQ:Below w.heap.size w w2:=⟨hB.os.trans hS.os,hB.tape.trans hS.tape,hB.output.trans hS.output,by have:=hB.size;rw[hS.heap]at this;exact this,fun k hk=>(hB.block k (by rw[hS.heap];exact hk)).trans (by rw[hS.heap])⟩
   exact⟨A,rfl,h.below dQ,⟨dQ.os,dQ.tape,dQ.output,dQ.size,fun _ _=>rfl,fun k hk _=>dQ.block k hk⟩⟩
  ·have Hr:Hid (iV s n=(0,setAt s j {m with dP:=true})):=H0.out hcm;have hnc:=Pq hci hcm;have hF:Fr (fun k=>k=A.pw j\/∃q,q<s.parts/\k=A.kb q) w w2:=(Fr.of_same hS).trans hC.fr;have Ln:¬(b=A.pw j\/∃q,q<s.parts/\b=A.kb q):=by
    rintro(e|⟨q,hq,e⟩)
    ·have h1:=h.fj j m hm hc;rw[<-e,h.tag]at h1;simp at h1
    ·have h1:=h.cF q hq;rw[<-e,h.tag]at h1;simp at h1
   have abL:¬(A.wm=A.pw j\/∃q,q<s.parts/\A.wm=A.kb q):=by
    rintro(e|⟨q,hq,e⟩)
    ·have h1:=h.fj j m hm hc;rw[<-e,h.iJ]at h1;simp at h1
    ·have h1:=h.cF q hq;rw[<-e,h.iJ]at h1;simp at h1
   have j9:=hF.blk h.blk Ln;have hm2:=hF.map h.rE abL;have c4:=G7 (w:=w2) b A.wm _ (cQ s A) j9 rfl rfl hm2 n hn hn';unfold ptr at c4;clear c3 hcm;go_wp2_with fail
   refine c4.mono ?_;rintro e w3 ⟨rfl,JC,kB⟩;clear c4;go_wp2_with fail
   go_ret;rw[Hr.out];have hkm:∀q,q<s.parts->A.kb q≠A.wm:=fun q hq e=>abL (Or.inr ⟨q,hq,e.symm⟩);have Cp:=hF.size;rw[Hnj.out]at JC;refine⟨A,rfl,h.dP hm hc hnc (fun k hk hkb hkp xM=>?_) (fun q hq=>(hC.kept q hq).of_eq (kB.block _ (hkm q hq))) JC,?_⟩
   ·exact(kB.block k xM).trans (hF.block k hk (by rintro(e|⟨q,hq,e⟩);exact hkp e;exact hkb q hq e))
   ·refine⟨kB.os.trans hF.os,kB.tape.trans hF.tape,kB.output.trans hF.output,by rw[kB.size];exact hF.size,fun _ _=>rfl,fun k hk hs=>?_⟩;refine(kB.block k (fun e=>hs (by rw[e,h.iJ]))).trans (hF.block k hk ?_);rintro(e|⟨q,hq,e⟩)
    ·exact hs (by rw[e,h.fj j m hm hc])
    ·exact hs (by rw[e,h.cF q hq])
end
end
section
open Go Go.RowKit Go.MuLone
section
variable {w:af}
def Pt(a v key:ah)(ib:Nat)(ck:w.cell? ⟨ib,0,none⟩=some (.string key)):
 Calls prog 83 #[.agg #[.string a,.string v],.pointer (some ⟨ib,0,none⟩)] w fun e w'=>e=.returned (.bool (decide (a=key)))/\Below w.heap.size w w':=by
 have hlt:=zaj w _ ck;simp only at hlt;have hne:ib≠w.heap.size:=by omega
 by_cases he:a=key
 ·have hb:=pS he;have Hr:Hid (decide (a=key)=true):=decide_eq_true he;clear he;go_enter func83,ntmps83;go_wp2;go_ret;exact⟨cL (by rw[Hr.out]),(Below.refl _ _).alloc (zae _) _⟩
 ·have hb:=pU he;have Hr:Hid (decide (a=key)=false):=decide_eq_false he;clear he;go_enter func83,ntmps83;go_wp2;go_ret;exact⟨cL (by rw[Hr.out]),(Below.refl _ _).alloc (zae _) _⟩
def zW(key:ah)(ib gb go:Nat)(L:List KV)(cap:Nat)(hL:L.length<=8)(ck:w.cell? ⟨ib,0,none⟩=some (.string key))
 (hcell:∀(k:Nat) (x:KV),L[k]?=some x->w.cell? ⟨gb,go+k*2,none⟩=some (.string x.1)/\w.cell? ⟨gb,go+k*2+1,none⟩=some (.string x.2)) (n:Nat) (hn:n<=L.length):
 Calls prog 128 #[.slice (some ⟨gb,go,none⟩) n cap,.func (Fn.func 83) #[] #[.pointer (some ⟨ib,0,none⟩)]] w fun e w'=>∃r:Int,e=.returned (.int .i64 r)/\-1<=r/\(decide (0<=r)=aP (L.take n) key)/\Below w.heap.size w w':=by
 go_enter func128,ntmps128;go_wp2_with fail
 go_loopw [8] (fun u wr=>∃k:Nat,k<=n/\u=.int .i64 k/\Below w.heap.size w wr/\Hid (aP (L.take k) key=false)) (fun u _=>n-(intOf u).toNat)
 case atStart=>exact⟨0,zak _,rfl,Below.refl _ _,by simp[Hid,aP]⟩
 case round=>
  obtain⟨k,hk,rfl,hB,HN⟩:=hrel;by_cases hlt:k<n
  ·have hx:L[k]?=some L[k]:=zag (by omega);obtain⟨c1,c2⟩:=hcell k _ hx;have SE:=(hB.cell (p:=⟨gb,go+k*2,none⟩) (zaj w _ c1)).trans c1;have UU:=(hB.cell (p:=⟨gb,go+k*2+1,none⟩) (zaj w _ c2)).trans c2;have ck':=(hB.cell (p:=⟨ib,0,none⟩) (zaj w _ ck)).trans ck;generalize L[k]=x at *;obtain⟨kk,vv⟩:=x;simp only at SE UU;clear c1 c2 hcell;have cs:=Pt kk vv key ib ck';have hst:aP (L.take (k+1)) key=(aP (L.take k) key || decide (kk=key)):=by rw[JA hx,EB]
   rw[HN.out,Bool.false_or]at hst;cases hd:decide (kk=key)with
   |true=>
    rw[hd]at cs hst;have HT:Hid (aP (L.take n) key=true):=EA (k:=n) (j:=k) hlt hx (of_decide_eq_true hd);clear hst hd hx;go_wp2_with fail
    refine cs.mono ?_;rintro e w2 ⟨rfl,dQ⟩;clear cs;go_wp2_with fail
    go_ret;refine⟨k,rfl,by omega,?_,hB.trans (dQ.mono hB.size)⟩;rw[HT.out];simp
   |false=>
    rw[hd]at cs hst;have Wf:Hid (aP (L.take (k+1)) key=false):=hst;clear hst hd hx;go_wp2_with fail
    refine cs.mono ?_;rintro e w2 ⟨rfl,dQ⟩;clear cs;go_wp2_with fail
    go_roundw
    case rel=>exact⟨k+1,by omega,by go_num,hB.trans (dQ.mono hB.size),Wf⟩
    case measure=>simp[intOf];omega
  ·have hkn:k=n:=by omega
   have HT:Hid (aP (L.take n) key=false):=by rw[<-hkn];exact HN
   clear hcell hkn;go_wp2_with fail
   go_ret;refine⟨-1,rfl,by omega,?_,hB⟩;rw[HT.out];rfl
def Cu(key:ah)(ib gb go:Nat)(L:List KV)(cap:Nat)(hL:L.length<=8)(ck:w.cell? ⟨ib,0,none⟩=some (.string key))
 (hcell:∀(k:Nat) (x:KV),L[k]?=some x->w.cell? ⟨gb,go+k*2,none⟩=some (.string x.1)/\w.cell? ⟨gb,go+k*2+1,none⟩=some (.string x.2)) (n:Nat) (hn:n<=L.length):
 Calls prog 84 #[.slice (some ⟨gb,go,none⟩) n cap,.func (Fn.func 83) #[] #[.pointer (some ⟨ib,0,none⟩)]] w fun e w'=>e=.returned (.bool (aP (L.take n) key))/\Below w.heap.size w w':=by
 have c:=zW key ib gb go L cap hL ck hcell n hn;clear hcell;go_enter func84,ntmps84;go_wp2_with fail
 refine c.mono ?_;rintro e w2 ⟨r,rfl,FZ,Rl,hB⟩;have HR:Hid (decide (0<=r)=aP (L.take n) key):=Rl;clear c Rl;go_wp2_with fail
 go_ret;exact⟨cL HR.out,hB⟩
end
end
section
open Go Go.RowKit Go.MuLone
section
variable {w:af}
def gj(n:Int):Bool:=decide (1<=n)&& decide (n<=8)
def nF(n:Int)(w:af):Calls prog 68 #[.int .i64 n] w fun e w'=>e=.returned (.bool (gj n))/\w'=w:=by
 by_cases h1:1<=n
 ·by_cases h2:n<=8
  ·go_enter func68,ntmps68;go_wp2;go_ret;exact⟨cL (by simp[gj,h1,h2]),rfl⟩
  ·go_enter func68,ntmps68;go_wp2;go_ret;exact⟨cL (by simp[gj,h1,h2]),rfl⟩
 ·go_enter func68,ntmps68;go_wp2;go_ret;exact⟨cL (by unfold gj;rw[decide_eq_false (show ¬1<=n by omega)];rfl),rfl⟩
def vY(a:Option aA)(L:List KV)(cap:Nat)(hL:L.length<=maxLen)(hs:L.length<1\/8<L.length):
 Calls prog 47 #[.slice a L.length cap] w fun e w'=>e=.returned (.int .i64 (ez L))/\Below w.heap.size w w':=by
 have Hr:Hid (ez L=3):=by unfold Hid ez;rw[if_pos hs]
 unfold maxLen at hL;have cz:=nF L.length w;have hg:gj L.length=false:=by
  unfold gj;rcases hs with e|e
  ·rw[decide_eq_false (by omega)];rfl
  ·rw[Bool.and_eq_false_iff];exact Or.inr (decide_eq_false (by omega))
 rw[hg]at cz;clear hs hg;go_enter func47,ntmps47;go_wp2_with (go_at_call 68;refine cz.mono ?_;rintro e w' ⟨rfl,rfl⟩)
 go_ret;exact⟨gX Hr.out.symm,Below.refl _ _⟩
def vZ(gb go:Nat)(L:List KV)(cap:Nat)(h1:1<=L.length)(h8:L.length<=8)(Tq:L.length<=cap)(hcm:cap<=maxLen)(hz:wU L)
 (hcell:∀(k:Nat) (x:KV),L[k]?=some x->w.cell? ⟨gb,go+k*2,none⟩=some (.string x.1)/\w.cell? ⟨gb,go+k*2+1,none⟩=some (.string x.2)):
 Calls prog 47 #[.slice (some ⟨gb,go,none⟩) L.length cap] w fun e w'=>e=.returned (.int .i64 (ez L))/\Below w.heap.size w w':=by
 have g1:¬L.length<1:=by omega
 have g2:¬8<L.length:=by omega
 have SR:∀(fn:Fn) (first cap:Array aj) (w:af),(Instr.makeFunc fn first cap).run prog w=.ok (.func fn first cap) w:=fun _ _ _ _=>rfl;have HC:Hid (ez L=cH [] L):=by unfold Hid ez;rw[if_neg (by omega)]
 unfold maxLen at hcm;have cz:=nF L.length w;have zX:gj L.length=true:=by unfold gj;rw[decide_eq_true (show (1:Int)<=L.length by omega),decide_eq_true (show (L.length:Int)<=8 by omega)];rfl
 rw[zX]at cz;clear zX;go_enter func47,ntmps47;go_wp2_with (go_at_call 68;refine cz.mono ?_;rintro e w' ⟨rfl,hw0⟩;obtain rfl:=hw0.symm)
 clear cz;go_loopw [12] (fun u wr=>∃k:Nat,k<=L.length/\u=.int .i64 k/\Below w.heap.size w wr/\Hid (cH [] L=cH (L.take k) (L.drop k))) (fun u _=>L.length-(intOf u).toNat)
 case atStart=>exact⟨0,zak _,rfl,Below.refl _ _,by simp[Hid]⟩
 case round=>
  obtain⟨k,hk,rfl,hB,HK⟩:=hrel;by_cases hlt:k<L.length
  ·have hx:L[k]?=some L[k]:=zag hlt;obtain⟨c1,c2⟩:=hcell k _ hx;have hgb:gb<w.heap.size:=zaj w _ c1;have SE:=(hB.cell (p:=⟨gb,go+k*2,none⟩) hgb).trans c1;have UU:=(hB.cell (p:=⟨gb,go+k*2+1,none⟩) hgb).trans c2;obtain⟨hs1,Ro⟩:=hz _ (zar hlt);generalize L[k]=x at *;obtain⟨kk,vv⟩:=x;simp only at SE UU hs1 Ro;clear c1 c2;have Vf:Below w.heap.size w (wr.alloc (.cells #[.string kk,.string vv] 70)):=hB.alloc hB.size _;have cI0:(wr.alloc (.cells #[.string kk,.string vv] 70)).cell? ⟨wr.heap.size,0,none⟩=some (.string kk):=(bg.new wr _ _).cell (o:=0) rfl;have cI1:(wr.alloc (.cells #[.string kk,.string vv] 70)).cell? ⟨wr.heap.size,1,none⟩=some (.string vv):=(bg.new wr _ _).cell (o:=1) rfl;have ck:=uH kk (wr.alloc (.cells #[.string kk,.string vv] 70)) hs1;have cc:=Cu (w:=wr.alloc (.cells #[.string kk,.string vv] 70)) kk wr.heap.size gb go L cap h8 cI0 (fun j y hy=>⟨(Vf.cell (p:=⟨gb,go+j*2,none⟩) hgb).trans (hcell j y hy).1,(Vf.cell (p:=⟨gb,go+j*2+1,none⟩) hgb).trans (hcell j y hy).2⟩) k hk;unfold maxLen at hs1 Ro;by_cases G8:fU (kk,vv)=false
   ·have Hr:Hid (ez L=4):=by unfold Hid;rw[HC.out,HK.out,Ci hx,Lg G8]
    clear hcell cc;cases xY:bK kk with
    |false=>
     rw[xY]at ck;clear G8 xY hx;go_wp2_with (go_at_call 49;refine ck.mono ?_;rintro e w' ⟨rfl,rfl⟩)
     go_ret;exact⟨gX Hr.out.symm,Vf⟩
    |true=>
     have agt:¬vv.size<=64:=fun e=>by simp[fU,xY,e]at G8
     rw[xY]at ck;clear G8 xY hx;go_wp2_with (go_at_call 49;refine ck.mono ?_;rintro e w' ⟨rfl,rfl⟩)
     go_ret;exact⟨gX Hr.out.symm,Vf⟩
   ·have hg:fU (kk,vv)=true:=by simpa using G8
    have agt:vv.size<=64:=(gN hg).2.2;have xY:bK kk=true:=by simp[fU]at hg;exact hg.1
    rw[xY]at ck;cases hh:aP (L.take k) kk with
    |true=>
     have Hr:Hid (ez L=5):=by unfold Hid;rw[HC.out,HK.out,Ci hx,Ez hg hh]
     rw[hh]at cc;clear G8 xY hx hh hcell hg;go_wp2_with (go_at_call 49;refine ck.mono ?_;rintro e w' ⟨rfl,rfl⟩)
     refine cc.mono ?_;rintro e w2 ⟨rfl,dQ⟩;clear ck cc;go_wp2_with fail
     go_ret;exact⟨gX Hr.out.symm,Vf.trans (dQ.mono Vf.size)⟩
    |false=>
     have HK':Hid (cH [] L=cH (L.take (k+1)) (L.drop (k+1))):=by unfold Hid;rw[HK.out,Ci hx,Eu hg hh,JA hx]
     rw[hh]at cc;clear G8 xY hx hh hcell hg;go_wp2_with (go_at_call 49;refine ck.mono ?_;rintro e w' ⟨rfl,rfl⟩)
     refine cc.mono ?_;rintro e w2 ⟨rfl,dQ⟩;clear ck cc;go_wp2_with fail
     go_roundw
     case rel=>exact⟨k+1,by omega,by go_num,Vf.trans (dQ.mono Vf.size),HK'⟩
     case measure=>simp[intOf];omega
  ·have Hr:Hid (ez L=0):=by unfold Hid;rw[HC.out,HK.out,show k=L.length from by omega,List.drop_length];rfl
   clear hcell;go_wp2_with fail
   go_ret;exact⟨gX Hr.out.symm,hB⟩
def yg(a:Option aA)(L:List KV)(cap:Nat)(hL:L.length<=maxLen)(Tq:L.length<=cap)(hcm:cap<=maxLen)(hz:wU L)(hI:wT w a L):
 Calls prog 47 #[.slice a L.length cap] w fun e w'=>e=.returned (.int .i64 (ez L))/\Below w.heap.size w w':=by
 by_cases hs:L.length<1\/8<L.length
 ·exact vY a L cap hL hs
 ·obtain⟨ib,io,rfl,c0,_⟩:=hI 0 L[0] (zag (by omega));refine vZ ib io L cap (by omega) (by omega) Tq hcm hz (fun k x hx=>?_);obtain⟨ib',io',e,r⟩:=hI k x hx;cases e;exact r
end
end
section
open Go Go.RowKit Go.MuLone
section
variable {w:af}
def yh:(prog.info? 5).map (fun i=>(i.zero,i.size,i.bytes))=some (some (.int .u8 0),1,1):=by kernel_rfl
def Jw:(prog.info? 70).map (fun i=>(i.zero,i.size,i.bytes))=some (some (.agg #[.string ByteArray.empty,.string ByteArray.empty]),2,32):=by kernel_rfl
def yj(n:Nat)(hn:n<=1000)(W:af):∃M:Array aj,M.size=n/\(Instr.makeSlice 116 (.int .i64 (n:Int)) (.int .i64 (n:Int))).run prog W=.ok (.slice (some ⟨W.heap.size,0,none⟩) n n) (W.alloc (.cells M 5)):=by obtain⟨i0,hi,hz0,MO,Tr⟩:=info_parts yh;have h:=run_make (P:=prog) W 116 5 i0 (.int .u8 0) underlying116 hi hz0 .i64 .i64 (n:Int) (n:Int) (by omega) (by omega) (by rw[Tr];omega) (by omega);refine⟨_,?_,by simpa using h⟩;rw[size_madeCells,MO];simp
def Pu(s:ah)(hs:s.size<=1000):Calls prog 129 #[.string s] w fun e w'=>e=.returned (.string s)/\Below w.heap.size w w':=by
 by_cases h0:s.size=0
 ·obtain rfl:s=⟨#[]⟩:=ByteArray.ext (Array.eq_empty_of_size_eq_zero h0);clear h0;go_enter func129,ntmps129;go_wp2;go_ret;exact⟨rfl,Below.refl _ _⟩
 ·obtain⟨i0,hi,hz0,MO,Tr⟩:=info_parts yh;have hsz:(prog.info? 5).map (·.size)=some 1:=by rw[hi];simp[MO]
  have hco:prog.cellsOf 5=1:=by simp[Program.cellsOf,hi,MO]
  obtain⟨M,hM,hmk⟩:=yj s.size hs w;have hlen:s.data.toList.length=s.size:=(Lib.size_eq s).symm;have Y1:=Lib.run_copy_row_string (P:=prog) (w.alloc (.cells M 5)) 116 9 3 5 w.heap.size 0 s.size s.size s M 5 underlying116 hsz (heap_alloc_new w _) (zae _) (by omega);generalize hY:(M.toList.take 0++Lib.byteCells s.data.toList++M.toList.drop (0+s.size)).toArray=Y at Y1;have hYl:Y.toList=Lib.byteCells s.data.toList:=by rw[<-hY];simp[<-hM]
  have hYs:Y.size=s.size:=by rw[<-zan,hYl,Lib.byteCells_length,hlen]
  have hg:((w.alloc (.cells M 5)).setRow w.heap.size Y).heap[w.heap.size]?=some (.cells Y 5 (0,0)):=setRow_heap _ _ M _ 5 (0,0) (heap_alloc_new w _);have Sf:=Lib.run_unsafeString_row (P:=prog) ((w.alloc (.cells M 5)).setRow w.heap.size Y) 242 3 9 5 underlying242 hco w.heap.size Y.size (by unfold World.shape?;rw[hg]) s.data.toList (fun e=>h0 (by rw[<-hlen,e];rfl)) (by omega) (by omega)
   (fun j x hx=>Lib.cells_of_row hg Y.size j _ (by rw[zaw (by rw[zan];exact zae _),hYl];simp[Lib.byteCells,hx]))
  rw[hlen]at Sf;clear hY;go_enter func129,ntmps129;go_wp2;go_ret;have b1:Below w.heap.size w ((w.alloc (.cells M 5)).setRow w.heap.size Y):=((Below.refl _ w).alloc (zae _) _).trans ⟨rfl,rfl,rfl,by simp,fun k hk=>setRow_other _ _ _ _ (by omega)⟩;exact⟨rfl,Lib.below_freeze b1 (p:=⟨w.heap.size,0,none⟩) (zae _) _⟩
def A4(s:ah)(hs:s.size<=1000):Calls prog 85 #[.string s] w fun e w'=>e=.returned (.string s)/\Below w.heap.size w w':=by
 have c:=Pu (w:=w) s hs;go_enter func85,ntmps85;go_wp2_with fail
 refine c.mono ?_;rintro e w2 ⟨rfl,hB⟩;clear c;go_wp2_with fail
 go_ret;exact⟨rfl,hB⟩
end
end
section
open Go Go.RowKit Go.MuLone
open Go.Maps (Keyed)
def zY(P:Nat)(sh:Nat->Nat)(L:List KV):Lit->Option aj
 |.int .i64 q=>if aJ P L q=true then some (ptr (sh q.toNat))else none
 |_=>none
structure fN(w:af)(τ:Nat->Tag)(aO i P:Nat)(pb:Nat->Nat)(pw sm:Nat)(sh:Nat->Nat)(iv:Nat->aj)(sv kv:aj)(K:List ah)(L:List KV)(B0:Nat):Prop where
 blk:bg w pw #[eN,fV,.int .i64 ((i:Int)+1),sv,.bool false,.map (some sm)] 164
 tag:τ pw=(aO,6,i)
 map:aS w prog 3 sm (zY P sh L)
 gQ:τ sm=(aO,7,i)
 Lp:∀q:Nat,aJ P L q=true->bg w (sh q) #[ptr (pb q),.int .i64 0,iv q] 174
 cM:∀q:Nat,aJ P L q=true->τ (sh q)=(aO,8,i*4+q)
 it:∀q:Nat,aJ P L q=true->w.ownsRow 0 70 2 (iv q) (bl P L q).length (bn (bl P L q))
 eZ:∀(q k:Nat),aJ P L q=true->(iv q).ownBlock=some k->τ k=(aO,9,i*4+q)
 ky:w.ownsRow 0 9 1 kv K.length (K.map Value.string)
 dJ:∀k,kv.ownBlock=some k->τ k=(aO,15,i)
 lo:B0<=pw/\B0<=sm
 G9:∀q:Nat,aJ P L q=true->B0<=sh q
 He:∀(q k:Nat),aJ P L q=true->(iv q).ownBlock=some k->B0<=k
 MY:∀k,kv.ownBlock=some k->B0<=k
def lA(n:Int)(L:List KV)(x:KV)(q:Int):aJ n (L++ [x]) q=(aJ n L q || decide (partOf n x.1=q)):=by simp[aJ]
def tA(n:Int)(L:List KV)(x:KV)(q:Int):bl n (L++ [x]) q=bl n L q++(if partOf n x.1=q then [x]else []):=by unfold bl;rw[List.filter_append];by_cases h:partOf n x.1=q<;>simp[h]
def EE{L:List KV}{q:Int}(h:aJ n L q=false):bl n L q= []:=by simp only[aJ,List.any_eq_false,decide_eq_true_eq]at h;exact List.filter_eq_nil_iff.2 (fun x hx=>by simpa using h x hx)
def ij{p q:aA}(h:q.block≠p.block):(w.setCell p v).cell? q=w.cell? q:=zah (w:=w) (zac _ _ _ _ h)
def Ts{t:az}(dQ:Below (X.alloc (.cells c t)).heap.size (X.alloc (.cells c t)) w2):bg w2 X.heap.size c t:=
 (bg.new X c t).of_eq (dQ.block _ (by simp))
def Pv{t:az}(dQ:Below (X.alloc (.cells c t)).drew.heap.size (X.alloc (.cells c t)).drew w2):bg w2 X.heap.size c t:=
 (bg.new X c t).of_eq (dQ.block _ (by show X.heap.size< (X.alloc (.cells c t)).heap.size;simp))
def JD{t:az}{x y:aj}(h:bg w b #[x,y] t)(k v:ah):bg ((w.setCell ⟨b,0,none⟩ (.string k)).setCell ⟨b,1,none⟩ (.string v)) b #[.string k,.string v] t:=by have:=(h.set 0 (.string k)).set 1 (.string v);simpa using this
def Pw{t:az}(dQ:Below X.heap.size X w2)(h:bg X b c t):bg w2 b c t:=h.of_eq (dQ.block _ h.lt)
section
variable {w:af}{τ:Nat->Tag}{aO i P:Nat}{pb:Nat->Nat}{pw sm:Nat}{sh:Nat->Nat}{iv:Nat->aj}{sv kv:aj}{K:List ah}{L:List KV}{B0:Nat}
structure Px(w wx:af)(τ:Nat->Tag)(aO i P:Nat)(pb:Nat->Nat)(pw sm:Nat)(sh:Nat->Nat)(iv:Nat->aj)(L:List KV)(B0 q hb:Nat)(vB:aj)(kk vv:ah):Prop where
 blk:bg wx hb #[ptr (pb q),.int .i64 0,vB] 174
 row:wx.ownsRow 0 70 2 vB (bl P L q).length (bn (bl P L q))
 map:aS wx prog 3 sm (upd (zY P sh L) (.int .i64 q) (ptr hb))
 box:bg wx w.heap.size #[.string kk,.string vv] 70
 old:∀k,k<w.heap.size->k≠sm->wx.heap[k]?=w.heap[k]?
 fr:Below B0 w wx
 was:aJ P L q=true->hb=sh q/\vB=iv q
 new:aJ P L q=false->w.heap.size<hb/\vB=.slice none 0 0
def Tt{q:Nat}(h:aJ P L q=true):upd (zY P sh L) (.int .i64 q) (ptr (sh q))=zY P sh L:=by
 funext kl;by_cases e:kl=.int .i64 q
 ·subst e;rw[upd_same (by trivial)];simp[zY,h]
 ·rw[fI e]
def Py(hP:P<=4)(NP:1<=P):∀kl,zY P sh L kl≠none->kl∈jF:=by
 intro kl h;cases kl with
 |int k n=>
  cases k<;>try exact absurd rfl h
  simp only[zY]at h;by_cases ho:aJ P L n=true
  ·have:=dF (by omega) ho;exact o9 (by omega) (by omega)
  ·simp[ho]at h
 |_=>exact absurd rfl h
def Pz{wa wc:af}{q hb nq:Nat}{vB:aj}{vv:ah}(h:fN w τ aO i P pb pw sm sh iv sv kv K L B0)(hm:Px w wa τ aO i P pb pw sm sh iv L B0 q hb vB kk vv)(NP:1<=P)(hq:partOf P kk=q)(hq4:q<P)(MM:P<=4)
 (JE:Below wa.heap.size wa wc) (vR:w2.ownsRow 0 70 2 v2 ((bl P L q).length+1) (bn (bl P L q)++ [.string kk,.string vv])) (oG:((wc.drewN nq).alloc o).grownBy w2 vB.ownBlock)
 (hA2:v2.ownBlock=vB.ownBlock\/v2.ownBlock=some ((wc.drewN nq).alloc o).heap.size) (hrb:vB.ownBlock≠some hb):
 ∃τ' sh' iv',fN (w2.setCell ⟨hb,2,none⟩ v2) τ' aO i P pb pw sm sh' iv' sv kv K (L++ [(kk,vv)]) B0/\Below B0 w (w2.setCell ⟨hb,2,none⟩ v2)/\(∀k,k<w.heap.size->τ' k=τ k)/\∀k,k<w.heap.size->k≠sm->(∀q':Nat,aJ P L q'=true->k≠sh q'/\(iv q').ownBlock≠some k)->(w2.setCell ⟨hb,2,none⟩ v2).heap[k]?=w.heap[k]? :=by
 have hpl:=h.blk.lt;have hml:=h.map.lt;have hlo:=h.lo;have vU:=hm.fr.size;have Cp:=JE.size;have XK:wc.heap.size+1<=w2.heap.size:=by have:=oG.size;simpa using this
 have hhl:=hm.blk.lt;have PD:=hm.box.lt;have Dz:∀{k a c:Nat},k<w.heap.size->τ k=(aO,a,c)->(a=8->c≠i*4+q)->k≠hb:=by
  intro k a c hk ht hac e;cases ho:aJ P L q with
  |true=>
   have h1:=h.cM q ho;rw[<-(hm.was ho).1,<-e,ht]at h1;simp at h1;exact hac h1.1 h1.2
  |false=>have:=(hm.new ho).1;omega
 have abQ:∀{k a c:Nat},τ k=(aO,a,c)->(a=9->c≠i*4+q)->vB.ownBlock≠some k:=by
  intro k a c ht hac e;cases ho:aJ P L q with
  |true=>
   rw[(hm.was ho).2]at e;have h1:=h.eZ q k ho e;rw[ht]at h1;simp at h1;exact hac h1.1 h1.2
  |false=>rw[(hm.new ho).2]at e;cases e
 have Vg:∀k,vB.ownBlock=some k->B0<=k:=by
  intro k e;cases ho:aJ P L q with
  |true=>rw[(hm.was ho).2]at e;exact h.He q k ho e
  |false=>rw[(hm.new ho).2]at e;cases e
 have agy:B0<=hb:=by
  cases ho:aJ P L q with
  |true=>rw[(hm.was ho).1];exact h.G9 q ho
  |false=>have:=(hm.new ho).1;omega
 have zb:∀k,k<wa.heap.size->k≠hb->vB.ownBlock≠some k->(w2.setCell ⟨hb,2,none⟩ v2).heap[k]?=wa.heap[k]? :=fun k hk h1 h2=>
  (zac _ _ _ _ h1).trans ((oG.block k (by simp;omega) (fun e=>h2 e.symm)).trans ((zad (wc.drewN nq) o k (by simp;omega)).trans (JE.block k hk)))
 have zo:∀{k a c:Nat},k<w.heap.size->k≠sm->τ k=(aO,a,c)->(a=8->c≠i*4+q)->(a=9->c≠i*4+q)->(w2.setCell ⟨hb,2,none⟩ v2).heap[k]?=w.heap[k]? :=fun hk hs ht h8 h9=>
  (zb _ (by omega) (Dz hk ht h8) (abQ ht h9)).trans (hm.old _ hk hs)
 have Tu:∀{k a c:Nat},τ k=(aO,a,c)->a≠7->k≠sm:=fun ht ha e=>by rw[e,h.gQ]at ht;simp at ht;omega
 have zh:bg (w2.setCell ⟨hb,2,none⟩ v2) hb #[ptr (pb q),.int .i64 0,v2] 174:=by have h1:bg w2 hb _ _:=hm.blk.of_eq ((oG.block hb (by simp;omega) (fun e=>hrb e.symm)).trans ((zad (wc.drewN nq) o hb (by simp;omega)).trans (JE.block hb hhl)));simpa using h1.set 2 v2
 have Hf:∀k,v2.ownBlock=some k->vB.ownBlock=some k\/wc.heap.size<=k:=fun k hk=>by
  rcases hA2 with e|e
  ·exact Or.inl (by rw[<-e];exact hk)
  ·rw[hk]at e;have:=Option.some.inj e;simp at this;exact Or.inr (by omega)
 have zr:(w2.setCell ⟨hb,2,none⟩ v2).ownsRow 0 70 2 v2 ((bl P L q).length+1) (bn (bl P L q)++ [.string kk,.string vv]):=aH vR (fun k hk=>zac _ _ _ _ (fun e=>by
  rcases Hf k hk with e1|e1
  ·exact hrb (by rw[e1,e])
  ·have:k=hb:=e;omega))
 refine⟨fun k=>if k=hb then(aO,8,i*4+q)else if v2.ownBlock=some k then(aO,9,i*4+q)else τ k,fun q'=>if q'=q then hb else sh q',fun q'=>if q'=q then v2 else iv q',?_,?_,?_,?_⟩
 ·have j6:∀k,k<w.heap.size->(if k=hb then(aO,8,i*4+q)else if v2.ownBlock=some k then(aO,9,i*4+q)else τ k)=τ k:=by
   intro k hk;by_cases e1:k=hb
   ·rw[if_pos e1];cases ho:aJ P L q with
    |true=>rw[e1,(hm.was ho).1,h.cM q ho]
    |false=>have:=(hm.new ho).1;omega
   ·rw[if_neg e1];by_cases e2:v2.ownBlock=some k
    ·rw[if_pos e2];rcases Hf k e2 with e3|e3
     ·cases ho:aJ P L q with
      |true=>rw[(hm.was ho).2]at e3;rw[h.eZ q k ho e3]
      |false=>rw[(hm.new ho).2]at e3;cases e3
     ·omega
    ·rw[if_neg e2]
  have D6:∀q':Nat,aJ P (L++ [(kk,vv)]) q'=true->q'≠q->aJ P L q'=true:=by intro q' ho hne;rw[lA]at ho;have:decide (partOf P kk=(q':Int))=false:=decide_eq_false (by rw[hq];omega);rw[this,Bool.or_false]at ho;exact ho
  refine⟨h.blk.of_eq (zo hpl (Tu h.tag (by omega)) h.tag (by omega) (by omega)),?_,?_,?_,fun q' ho=>?_,fun q' ho=>?_,fun q' ho=>?_,fun q' k ho hk=>?_,aH h.ky (fun k hk=>zo (aQ h.ky k hk).2 (Tu (h.dJ k hk) (by omega)) (h.dJ k hk) (by omega) (by omega)),fun k hk=>by rw[j6 k (aQ h.ky k hk).2,h.dJ k hk],hlo,fun q' ho=>?_,fun q' k ho hk=>?_,h.MY⟩
  ·rw[j6 pw hpl,h.tag]
  ·have e1:zY P (fun q'=>if q'=q then hb else sh q') (L++ [(kk,vv)])=upd (zY P sh L) (.int .i64 q) (ptr hb):=by
    funext kl;by_cases e:kl=.int .i64 q
    ·subst e;rw[upd_same (by trivial)];have:aJ P (L++ [(kk,vv)]) q=true:=by rw[lA];simp[hq]
     simp[zY,this]
    ·rw[fI e];cases kl with
     |int kd n=>
      cases kd<;>try rfl
      have hnq:n≠q:=fun e'=>e (by rw[e']);have:decide (partOf P kk=n)=false:=decide_eq_false (by rw[hq];exact fun e'=>hnq e'.symm);simp only[zY,lA,this,Bool.or_false];by_cases ho:aJ P L n=true
      ·have hb0:=(dF (by omega) ho).1;have:n.toNat≠q:=by omega
       simp[ho,this]
      ·simp[ho]
     |_=>rfl
   rw[e1];exact hm.map.of_eq (zb sm (by omega) (Dz hml h.gQ (by omega)) (abQ h.gQ (by omega)))
  ·rw[j6 sm hml,h.gQ]
  ·by_cases e:q'=q
   ·subst e;simpa using zh
   ·have ho':=D6 q' ho e;have hb':=h.Lp q' ho';simp only[e,if_false];exact hb'.of_eq (zo hb'.lt (Tu (h.cM q' ho') (by omega)) (h.cM q' ho') (by omega) (by omega))
  ·by_cases e:q'=q
   ·subst e;simp
   ·have ho':=D6 q' ho e;have hb':=h.Lp q' ho';simp only[e,if_false];rw[j6 _ hb'.lt,h.cM q' ho']
  ·by_cases e:q'=q
   ·subst e;simp only[if_true];rw[tA,if_pos hq,List.length_append,sZ];exact zr
   ·have ho':=D6 q' ho e;have hr:=h.it q' ho';simp only[e,if_false];rw[tA,if_neg (by rw[hq];omega),List.append_nil];exact aH hr (fun k hk=>zo (aQ hr k hk).2 (Tu (h.eZ q' k ho' hk) (by omega)) (h.eZ q' k ho' hk) (by omega) (by omega))
  ·by_cases e:q'=q
   ·subst e;simp only[if_true]at hk;have:k≠hb:=fun e'=>by
     rcases Hf k hk with e1|e1
     ·exact hrb (by rw[e1,e'])
     ·omega
    simp[this,hk]
   ·have ho':=D6 q' ho e;have hr:=h.it q' ho';simp only[e,if_false]at hk;rw[j6 k (aQ hr k hk).2,h.eZ q' k ho' hk]
  ·by_cases e:q'=q
   ·subst e;simpa using agy
   ·simp only[e,if_false];exact h.G9 q' (D6 q' ho e)
  ·by_cases e:q'=q
   ·subst e;simp only[if_true]at hk;rcases Hf k hk with e1|e1
    ·exact Vg k e1
    ·omega
   ·simp only[e,if_false]at hk;exact h.He q' k (D6 q' ho e) hk
 ·have h1:=hm.fr;refine⟨oG.os.trans (JE.os.trans h1.os),oG.tape.trans (JE.tape.trans h1.tape),oG.output.trans (JE.output.trans h1.output),by simp[World.setCell];omega,fun k hk=>?_⟩;exact(zb k (by omega) (by omega) (fun e=>by have:=Vg k e;omega)).trans (h1.block k hk)
 ·intro k hk;by_cases e1:k=hb
  ·simp only[e1,if_true];cases ho:aJ P L q with
   |true=>rw[(hm.was ho).1,h.cM q ho]
   |false=>have:=(hm.new ho).1;omega
  ·simp only[e1,if_false];by_cases e2:v2.ownBlock=some k
   ·rw[if_pos e2];rcases Hf k e2 with e3|e3
    ·cases ho:aJ P L q with
     |true=>rw[(hm.was ho).2]at e3;rw[h.eZ q k ho e3]
     |false=>rw[(hm.new ho).2]at e3;cases e3
    ·omega
   ·rw[if_neg e2]
 ·intro k hk hks Y2;refine(zb k (by omega) (fun e=>?_) (fun e=>?_)).trans (hm.old k hk hks)
  ·cases ho:aJ P L q with
   |true=>exact(Y2 q ho).1 (by rw[e,(hm.was ho).1])
   |false=>have:=(hm.new ho).1;omega
  ·cases ho:aJ P L q with
   |true=>exact(Y2 q ho).2 (by rw[<-(hm.was ho).2];exact e)
   |false=>rw[(hm.new ho).2]at e;cases e
def Tv(h:fN w τ aO i P pb pw sm sh iv sv kv K L B0)(NP:1<=P)(MM:P<=4)(kk vv:ah)(q:Nat)(hq:partOf P kk=q)(hL8:L.length<8):
 Calls prog 86 #[ptr pw,.int .i64 q,ptr (pb q),.agg #[.string kk,.string vv]] w fun e w'=>e=.returned (.tuple #[])/\
  ∃τ' sh' iv',fN w' τ' aO i P pb pw sm sh' iv' sv kv K (L++ [(kk,vv)]) B0/\Below B0 w w'/\(∀k,k<w.heap.size->τ' k=τ k)/\∀k,k<w.heap.size->k≠sm->(∀q':Nat,aJ P L q'=true->k≠sh q'/\(iv q').ownBlock≠some k)->w'.heap[k]?=w.heap[k]? :=by
 have hq4:q<P:=by have:=dW P kk (by omega);omega
 have hlo:=h.lo
 have hpl:=h.blk.lt
 have hml:=h.map.lt
 have c4:w.cell? ⟨pw,5,none⟩=some (.map (some sm)):=h.blk.cell (o:=5) rfl
 have hne:pw≠sm:=dm h.blk h.map
 have hMb:∀o:Obj,aS (w.alloc o) prog 3 sm (zY P sh L):=fun o=>h.map.of_eq (zad _ _ _ hml)
 unfold ptr
 go_enter func86,ntmps86
 obtain⟨fv,aL⟩:∃fv,zY P sh L (.int .i64 q)=fv:=⟨_,rfl⟩
 go_upto_if 20 with(at_lookup;refine bZ _ rfl _ _ 162 rfl 3 168 eB underlying162 (uI _) sm (zY P sh L) rfl (hMb _) _ (.int .i64 q) rfl (keyOf_int (by omega) (by omega)) fv aL ?_)
 go_cut [8,9] (fun s8 _ wx=>∃hb vB,s8=.pointer (some ⟨hb,0,none⟩)/\Px w wx τ aO i P pb pw sm sh iv L B0 q hb vB kk vv)
 case first=>
  cases ho:aJ P L q with
  |true=>
   have e1:fv=some (.pointer (some ⟨sh q,0,none⟩)):=by rw[<-aL];simp[zY,ho];rfl
   clear aL
   subst e1
   go_wp2_with fail
   go_meet
   case rel=>
    have hS:=h.Lp q ho
    have hI:=h.it q ho
    refine⟨sh q,iv q,rfl,hS.of_eq (zad _ _ _ hS.lt),aH hI (fun k hk=>zad _ _ _ (aQ hI k hk).2),?_,bg.new _ _ _,fun k hk _=>zad _ _ _ hk,(Below.refl _ _).alloc (by omega) _,fun _=>⟨rfl,rfl⟩,fun e=>by rw[ho]at e;cases e⟩
    rw[Tt ho]
    exact hMb _
  |false=>
   have e1:fv=none:=by rw[<-aL];simp[zY,ho]
   clear aL
   subst e1
   have sC:∀o o':Obj,aS ((w.alloc o).alloc o') prog 3 sm (zY P sh L):=fun o o'=>(hMb o).of_eq (zad _ _ _ (by simp;omega))
   have d4:∀o o':Obj,((w.alloc o).alloc o').cell? ⟨pw,5,none⟩=some (.map (some sm)):=fun o o'=>(zah (w:=w.alloc o) (zad (w.alloc o) o' pw (by simp;omega))).trans ((zah (w:=w) (zad _ _ _ hpl)).trans c4)
   go_wp2_with (at_mapUpdate;refine oW _ rfl _ _ _ 162 rfl 3 168 eB underlying162 sm (zY P sh L) rfl (sC _ _) jF (Py MM NP) pe _ _ (.int .i64 q) rfl rfl (keyOf_int (by omega) (by omega)) ?_;intro w3 JC G2)
   go_meet
   case rel=>
    have kB:=qC.fK G2
    have hold:∀k,k<w.heap.size->k≠sm->w3.heap[k]?=w.heap[k]? :=fun k hk hkm=>(kB.block k hkm).trans ((zad _ _ _ (by simp;omega)).trans (zad _ _ _ hk))
    refine⟨w.heap.size+1,.slice none 0 0,?_,?_,?_,?_,?_,hold,?_,fun e=>(by rw[ho]at e;cases e),fun _=>⟨by omega,rfl⟩⟩
    ·simp
    ·have:=(bg.new (w.alloc (.cells #[.string kk,.string vv] 70)) #[ptr (pb q),.int .i64 0,.slice none 0 0] 174).of_eq (w':=w3) (kB.block _ (by simp;omega))
     simpa using this
    ·rw[EE ho]
     exact World.ownsRow_nil _ _ _ _
    ·exact JC
    ·exact((bg.new w #[.string kk,.string vv] 70).of_eq (zad _ _ _ (by simp))).of_eq (kB.block _ (by omega))
    ·refine⟨kB.os,kB.tape,kB.output,by rw[kB.size];simp;omega,fun k hk=>hold k (by omega) (by omega)⟩
 case rest=>
  obtain⟨hb,vB,rfl,hm⟩:=hcut
  rename af=>wa
  have b0:wa.cell? ⟨w.heap.size,0,none⟩=some (.string kk):=hm.box.cell (o:=0) rfl
  have b1:wa.cell? ⟨w.heap.size,1,none⟩=some (.string vv):=hm.box.cell (o:=1) rfl
  have wJ:=hm.box.lt
  clear aL
  have JE:Below wa.heap.size wa wa:=Below.refl _ _
  obtain⟨ii,hi,hz0,MO,Tr⟩:=info_parts Jw
  obtain⟨av,gZ,hiv⟩:=cy hm.row
  have hhl:=hm.blk.lt
  have hsx:=JE.size
  have Rs:bg wa hb #[ptr (pb q),.int .i64 0,vB] 174:=hm.blk.of_eq (JE.block _ hhl)
  have c2:wa.cell? ⟨hb,2,none⟩=some vB:=Rs.cell (o:=2) rfl
  have hrow:wa.ownsRow 0 70 2 vB (bl P L q).length (bn (bl P L q)):=aH hm.row (fun k hk=>JE.block k (aQ hm.row k hk).2)
  have hn8:(bl P L q).length<8:=Nat.lt_of_le_of_lt (nE _ _ _) hL8
  have hrb:vB.ownBlock≠some hb:=fun e=>by
   obtain⟨_,h2⟩:=hm.row;rcases h2 with⟨e',_⟩|⟨g,cp,cu,e',_,hg,_⟩
   ·rw[e']at e;cases e
   ·rw[e']at e;cases e;have h3:wa.heap[g]?=some (.cells _ 174 (0,0)):=hm.blk;rw[h3]at hg;cases hg
  have HD:Hid (∀(w2:af) (v2:aj) (nq:Nat) (o:Obj),w2.ownsRow 0 70 2 v2 ((bl P L q).length+1) (bn (bl P L q)++ [.string kk,.string vv])->((wa.drewN nq).alloc o).grownBy w2 vB.ownBlock->(v2.ownBlock=vB.ownBlock\/v2.ownBlock=some ((wa.drewN nq).alloc o).heap.size)->
   ∃τ' sh' iv',fN (w2.setCell ⟨hb,2,none⟩ v2) τ' aO i P pb pw sm sh' iv' sv kv K (L++ [(kk,vv)]) B0/\Below B0 w (w2.setCell ⟨hb,2,none⟩ v2)/\(∀k,k<w.heap.size->τ' k=τ k)/\∀k,k<w.heap.size->k≠sm->(∀q':Nat,aJ P L q'=true->k≠sh q'/\(iv q').ownBlock≠some k)->(w2.setCell ⟨hb,2,none⟩ v2).heap[k]?=w.heap[k]?):=
   fun w2 v2 nq o a1 a2 a3=>Pz h hm NP hq hq4 MM JE a1 a2 a3 hrb
  have hbg:∀(w2:af) (nq:Nat) (o:Obj),((wa.drewN nq).alloc o).grownBy w2 vB.ownBlock->bg w2 hb #[ptr (pb q),.int .i64 0,vB] 174:=fun w2 nq o hG=>Rs.of_eq ((hG.block hb (by simp;omega) (fun e=>hrb e.symm)).trans (zad (wa.drewN nq) o hb (by simp;omega)))
  have HBG:Hid _:=hbg
  have c2a:∀(o:Obj) (nq:Nat),((wa.drewN nq).alloc o).cell? ⟨hb,2,none⟩=some vB:=fun o nq=>(zah (w:=wa.drewN nq) (zad (wa.drewN nq) o hb (by simp;omega))).trans c2
  have c2b:∀(o:Obj),(wa.alloc o).cell? ⟨hb,2,none⟩=some vB:=fun o=>(zah (w:=wa) (zad wa o hb (by omega))).trans c2
  clear hbg c2a
  subst hiv
  generalize (bl P L q).length=n at *
  generalize bn (bl P L q)=xs at *
  go_upto_region 5 with(fail)
  go_region_law (refine iD rfl (.tmp 34) (.tmp 36) 68 rfl 0 70 ii _ 2 32 underlying68 hi hz0 MO Tr rfl (by decide) (.slice av n gZ) n xs rfl (hrow.alloc _) ⟨_,0,none⟩ 1 1 [.string kk,.string vv] rfl rfl (cell_two_new _ _ _ _) (by simp[Value.oneCell']) (by unfold maxLen;omega) (by omega) (zak _) ?_;intro v2 w2 vR oG Ja hA2;have j9:=HBG.out w2 _ _ oG;have d2:=j9.cell (o:=2) (v:=.slice av n gZ) rfl;have e2:=j9.frozen 2;obtain⟨g2,cap2,Hf,-⟩:=cJ vR (by omega);rw[Hf])
  all_goals
   go_wp2_with fail
   go_end0
   rw[<-Hf]
   exact⟨rfl,HD.out w2 v2 1 _ vR oG hA2⟩
end
end
section
open Go Go.RowKit Go.MuLone
section
variable {w:af}
def xK(l:List UInt8)(b:UInt8):jK (l++ [b])=IntKind.u64.wrap (IntKind.u64.wrap (jK l*31)+(b.toNat:Int)):=by simp[jK]
def xL(l:List UInt8):∃h:Nat,jK l=h/\h<18446744073709551616:=by
 have key:∀(l:List UInt8) (g:Int),(0<=g/\g<18446744073709551616)->0<=l.foldl (fun h b=>IntKind.u64.wrap (IntKind.u64.wrap (h*31)+(b.toNat:Int))) g/\l.foldl (fun h b=>IntKind.u64.wrap (IntKind.u64.wrap (h*31)+(b.toNat:Int))) g<18446744073709551616:=by
  intro l;induction l with
  |nil=>exact fun g h=>h
  |cons x l ih=>
   intro g hg;simp only[List.foldl_cons];refine ih _ ?_;rw[IntKind.wrap_u64];omega
 have:=key l 0 (by omega);exact⟨(jK l).toNat,by unfold jK;omega,by unfold jK;omega⟩
def LL(s:ah)(hs:s.size<=1000):Calls prog 150 #[.string s] w fun e w'=>e=.returned (.int .u64 (jg s))/\Below w.heap.size w w':=by
 obtain⟨cb,W,hcv,hB,hcell⟩:=yd (P:=prog) w 9 116 5 s underlying9 underlying116 underlying5;go_enter func150,ntmps150;go_wp2;go_loop [3,9] (fun m i=>∃(k:Nat) (h:Nat),k<=s.size/\i=.int .i64 k/\m=.int .u64 h/\Hid (jK (s.data.toList.take k)=h)) (fun _ i=>s.size-(intOf i).toNat)
 case atStart=>exact⟨0,0,zak _,rfl,rfl,rfl⟩
 case round=>
  obtain⟨k,h,hk,rfl,rfl,HH⟩:=hrel;by_cases hlt:k<s.size
  ·have ck:=hcell k hlt;have hb:=s[k].toNat_lt;have HS:Hid (jK (s.data.toList.take (k+1))=IntKind.u64.wrap (IntKind.u64.wrap ((h:Int)*31)+(s[k].toNat:Int))):=by
    unfold Hid;have e:s.data.toList.take (k+1)=s.data.toList.take k++ [s[k]]:=by
     rw[List.take_add_one];have:s.data.toList[k]?=some s[k]:=by rw[Array.getElem?_toList];exact Array.getElem?_eq_getElem hlt
     rw[this];rfl
    rw[e,xK,HH.out]
   generalize s[k]=c at *;clear hcell;go_wp2;go_round
   case rel=>
    obtain⟨h2,e2,_⟩:=xL (s.data.toList.take (k+1));refine⟨k+1,h2,by omega,by go_num,?_,e2⟩;have e3:=HS.out;rw[e2]at e3;rw[e3]
   case measure=>simp[intOf];omega
  ·clear hcell;have hks:k=s.size:=by omega
   have HB:Hid (jg s=IntKind.u64.wrap (2 ^((h:Int)% 64).toNat)):=by unfold Hid jg;rw[<-HH.out,hks,zaw (Nat.le_of_eq (by rw[zan];rfl))]
   go_wp2;go_ret;rw[HB.out];exact⟨rfl,hB⟩
def HJ(a:Option aA)(L:List ah)(cap:Nat)(h8:L.length<=8)(hz:∀x∈L,x.size<=8)(hcell:∀(k:Nat) (x:ah),L[k]?=some x->∃gb,a=some ⟨gb,0,none⟩/\w.cell? ⟨gb,k,none⟩=some (.string x)):
 Calls prog 130 #[.slice a L.length cap] w fun e w'=>e=.returned (.int .u64 (lX L))/\Below w.heap.size w w':=by
 go_enter func130,ntmps130;go_wp2_with fail
 go_loopw [3,8] (fun m u wr=>∃(k:Nat) (h:Int),k<=L.length/\u=.int .i64 k/\m=.int .u64 h/\Below w.heap.size w wr/\Hid (lX (L.take k)=h)) (fun _ u _=>L.length-(intOf u).toNat)
 case atStart=>exact⟨0,0,zak _,rfl,rfl,Below.refl _ _,rfl⟩
 case round=>
  obtain⟨k,h,hk,rfl,rfl,hB,HH⟩:=hrel;by_cases hlt:k<L.length
  ·have hx:L[k]?=some L[k]:=zag hlt;obtain⟨gb,rfl,c1⟩:=hcell k _ hx;have hgb:gb<w.heap.size:=zaj w _ c1;have SE:=(hB.cell (p:=⟨gb,k,none⟩) hgb).trans c1;have hzk:=hz _ (zar hlt);have HM:Hid (lX (L.take (k+1))=UQ h (jg L[k])):=by unfold Hid;rw[List.take_add_one,hx];show lX (L.take k++ [L[k]])=_;rw[<-HH.out];unfold lX;rw[List.foldl_append];rfl
   generalize L[k]=x at *;have cb:=LL (w:=wr) x (by omega);clear hcell c1 hx hz;generalize jg x=bx at *;go_wp2_with fail
   refine cb.mono ?_;rintro e w2 ⟨rfl,dQ⟩;clear cb;go_wp2_with fail
   go_roundw
   case rel=>exact⟨k+1,_,by omega,by go_num,rfl,hB.trans (dQ.mono hB.size),HM.out⟩
   case measure=>simp[intOf];omega
  ·clear hcell;have hks:k=L.length:=by omega
   have HE:Hid (lX L=h):=by have:=HH.out;rw[hks,zav]at this;exact this
   go_wp2_with fail
   go_ret;rw[HE.out];exact⟨rfl,hB⟩
def ym(mode:Int)(a:Option aA)(L:List ah)(cap:Nat)(h8:L.length<=8)(hz:∀x∈L,x.size<=8)(hcell:∀(k:Nat) (x:ah),L[k]?=some x->∃gb,a=some ⟨gb,0,none⟩/\w.cell? ⟨gb,k,none⟩=some (.string x)):
 Calls prog 87 #[.int .i64 mode,.slice a L.length cap] w fun e w'=>(∃sv,e=.returned sv/\Vh mode (.slice a L.length cap) L sv)/\Below w.heap.size w w':=by
 have cm:=HJ (w:=w) a L cap h8 hz hcell;clear hcell hz;generalize L.length=n at *;by_cases h1:mode=1
 ·subst h1;go_enter func87,ntmps87;go_wp2_with fail
  go_ret;exact⟨⟨_,rfl,Or.inl ⟨rfl,rfl⟩⟩,Below.refl _ _⟩
 ·have e1:(mode == 1)=false:=beq_eq_false_iff_ne.2 h1;by_cases h3:mode=3
  ·subst h3;generalize hm:lX L=mk at cm;go_enter func87,ntmps87;go_wp2_with fail
   refine cm.mono ?_;rintro e w2 ⟨rfl,hB⟩;clear cm;go_wp2_with fail
   go_ret;exact⟨⟨_,rfl,Or.inr (Or.inl ⟨rfl,by rw[hm];rfl⟩)⟩,hB⟩
  ·have e3:(mode == 3)=false:=beq_eq_false_iff_ne.2 h3;have HN:Hid (mode≠1/\mode≠3):=⟨h1,h3⟩
   clear cm h1 h3;go_enter func87,ntmps87;go_wp2_with fail
   go_ret;exact⟨⟨_,rfl,Or.inr (Or.inr ⟨HN.out.1,HN.out.2,rfl⟩)⟩,Below.refl _ _⟩
def tD(mode:Int)(a:Option aA)(n cap:Nat)(hn:n<=8):
 Calls prog 72 #[.int .i64 mode,.slice a n cap] w fun e w'=>e=.returned (.bool (decide (mode=2)&& decide (1<n)))/\w'=w:=by
 by_cases h1:mode=2
 ·subst h1;by_cases h2:1<n
  ·go_enter func72,ntmps72;go_wp2_with fail
   go_ret;exact⟨cL (by simp;omega),rfl⟩
  ·go_enter func72,ntmps72;go_wp2_with fail
   go_ret;exact⟨cL (by simp;omega),rfl⟩
 ·have e1:(mode == 2)=false:=beq_eq_false_iff_ne.2 h1;have Hr:Hid ((decide (mode=2)&& decide (1<n))=false):=by unfold Hid;simp[h1]
  clear h1;go_enter func72,ntmps72;go_wp2_with fail
  go_ret;exact⟨cL Hr.out.symm,rfl⟩
end
end
section
open Go Go.RowKit Go.MuLone
open Go.Maps (Keyed)
section
variable {w:af}{τ:Nat->Tag}{aO i P:Nat}{pb:Nat->Nat}{pw sm:Nat}{sh:Nat->Nat}{iv:Nat->aj}{sv kv:aj}{K:List ah}{L:List KV}{B0:Nat}
def fN.below(h:fN w τ aO i P pb pw sm sh iv sv kv K L B0)(hB:Below w.heap.size w w'):fN w' τ aO i P pb pw sm sh iv sv kv K L B0:=
 ⟨h.blk.of_eq (hB.block _ h.blk.lt),h.tag,h.map.of_eq (hB.block _ h.map.lt),h.gQ,fun q ho=>(h.Lp q ho).of_eq (hB.block _ (h.Lp q ho).lt),h.cM,fun q ho=>aH (h.it q ho) (fun k hk=>hB.block k (aQ (h.it q ho) k hk).2),h.eZ,aH h.ky (fun k hk=>hB.block k (aQ h.ky k hk).2),h.dJ,h.lo,h.G9,h.He,h.MY⟩
def fN.frame(h:fN w τ aO i P pb pw sm sh iv sv kv K L B0)(hB:∀k,B0<=k->k<w.heap.size->w'.heap[k]?=w.heap[k]?):fN w' τ aO i P pb pw sm sh iv sv kv K L B0:=
 ⟨h.blk.of_eq (hB _ h.lo.1 h.blk.lt),h.tag,h.map.of_eq (hB _ h.lo.2 h.map.lt),h.gQ,fun q ho=>(h.Lp q ho).of_eq (hB _ (h.G9 q ho) (h.Lp q ho).lt),h.cM,fun q ho=>aH (h.it q ho) (fun k hk=>hB k (h.He q k ho hk) (aQ (h.it q ho) k hk).2),h.eZ,aH h.ky (fun k hk=>hB k (h.MY k hk) (aQ h.ky k hk).2),h.dJ,h.lo,h.G9,h.He,h.MY⟩
def Tw(P:Nat)(sh:Nat->Nat):zY P sh []=fun _=>none:=by
 funext kl;cases kl with
 |int k n=>cases k<;>simp[zY,aJ]
 |_=>rfl
def fN.made(w:af)(τ:Nat->Tag)(aO i P:Nat)(pb:Nat->Nat):
 fN ((w.alloc (.map #[] 0)).alloc (.cells #[eN,fV,.int .i64 ((i:Int)+1),.nilIface,.bool false,.map (some w.heap.size)] 164))
  (fun k=>if k=w.heap.size+1 then(aO,6,i)else if k=w.heap.size then(aO,7,i)else τ k) aO i P pb (w.heap.size+1) w.heap.size (fun _=>0) (fun _=>.slice none 0 0) .nilIface (.slice none 0 0) [] [] w.heap.size:=by
 refine⟨?_,by simp,?_,by simp,fun q ho=>by simp[aJ]at ho,fun q ho=>by simp[aJ]at ho,fun q ho=>by simp[aJ]at ho,fun q k ho=>by simp[aJ]at ho,World.ownsRow_nil _ _ _ _,fun k hk=>(by cases hk),⟨by omega,by omega⟩,fun q ho=>by simp[aJ]at ho,fun q k ho=>by simp[aJ]at ho,fun k hk=>(by cases hk)⟩
 ·have:=bg.new (w.alloc (.map #[] 0)) #[eN,fV,.int .i64 ((i:Int)+1),.nilIface,.bool false,.map (some w.heap.size)] 164
  simpa using this
 ·rw[Tw]
  exact(aS.made w prog 3).of_eq (zad _ _ _ (by simp))
def sM:(prog.info? 9).map (fun i=>(i.zero,i.size,i.bytes))=some (some (.string ByteArray.empty),1,16):=by kernel_rfl
def fN.key(h:fN w τ aO i P pb pw sm sh iv sv kv K L B0)(sK:B0<=w.heap.size)
 (hO:w2.ownsRow 0 9 1 v2 (K.length+1) (K.map Value.string++ [.string x])) (hG:(w.alloc o).grownBy w2 kv.ownBlock) (hA:v2.ownBlock=kv.ownBlock\/v2.ownBlock=some (w.alloc o).heap.size):
 ∃τ',fN w2 τ' aO i P pb pw sm sh iv sv v2 (K++ [x]) L B0/\Below B0 w w2/\∀k,k<w.heap.size->τ' k=τ k:=by
 have hsz:w.heap.size<w2.heap.size:=by have:=hG.size;simp at this;omega
 have hnb:∀k,v2.ownBlock=some k->kv.ownBlock=some k\/w.heap.size<k:=fun k hk=>by
  rcases hA with e|e
  ·exact Or.inl (by rw[<-e];exact hk)
  ·rw[hk]at e;have:=Option.some.inj e;simp at this;exact Or.inr (by omega)
 have hold:∀{k:Nat} {g:Nat×Nat},k<w.heap.size->τ k=(aO,g)->g.1≠15->w2.heap[k]?=w.heap[k]? :=fun{k g} hk ht hg=>
  (hG.block k (by simp;omega) (fun e=>by have:=h.dJ k e.symm;rw[ht]at this;simp at this;exact hg (by rw[this]))).trans (zad _ _ _ hk)
 have j6:∀k,k<w.heap.size->(if v2.ownBlock=some k then(aO,15,i)else τ k)=τ k:=fun k hk=>by
  by_cases e:v2.ownBlock=some k
  ·rw[if_pos e];rcases hnb k e with e1|e1
   ·rw[h.dJ k e1]
   ·omega
  ·rw[if_neg e]
 refine⟨fun k=>if v2.ownBlock=some k then(aO,15,i)else τ k,⟨h.blk.of_eq (hold h.blk.lt h.tag (by simp)),(j6 _ h.blk.lt).trans h.tag,h.map.of_eq (hold h.map.lt h.gQ (by simp)),(j6 _ h.map.lt).trans h.gQ,
  fun q ho=>(h.Lp q ho).of_eq (hold (h.Lp q ho).lt (h.cM q ho) (by simp)),fun q ho=>(j6 _ (h.Lp q ho).lt).trans (h.cM q ho),fun q ho=>aH (h.it q ho) (fun k hk=>hold (aQ (h.it q ho) k hk).2 (h.eZ q k ho hk) (by simp)),
  fun q k ho hk=>(j6 k (aQ (h.it q ho) k hk).2).trans (h.eZ q k ho hk),by simpa using hO,fun k hk=>if_pos hk,h.lo,h.G9,h.He,fun k hk=>?_⟩,⟨hG.os,hG.tape,hG.output,by omega,fun k hk=>?_⟩,j6⟩
 ·rcases hnb k hk with e|e
  ·exact h.MY k e
  ·omega
 ·exact(hG.block k (by simp;omega) (fun e=>by have:=h.MY k e.symm;omega)).trans (zad _ _ _ (by omega))
def fN.carry(h:fN w τ aO i P pb pw sm sh iv sv kv K L B0)(sv':aj):fN (w.setCell ⟨pw,3,none⟩ sv') τ aO i P pb pw sm sh iv sv' kv K L B0:=by
 have hne:∀{k:Nat} {g:Nat×Nat},τ k=(aO,g)->g.1≠6->(w.setCell ⟨pw,3,none⟩ sv').heap[k]?=w.heap[k]? :=fun{k g} ht hg=>zac _ _ _ _ (fun e=>by have e':k=pw:=e;rw[e',h.tag]at ht;simp at ht;exact hg (by rw[<-ht]))
 refine⟨?_,h.tag,h.map.of_eq (hne h.gQ (by simp)),h.gQ,fun q ho=>(h.Lp q ho).of_eq (hne (h.cM q ho) (by simp)),h.cM,fun q ho=>aH (h.it q ho) (fun k hk=>hne (h.eZ q k ho hk) (by simp)),h.eZ,aH h.ky (fun k hk=>hne (h.dJ k hk) (by simp)),h.dJ,h.lo,h.G9,h.He,h.MY⟩;have:=h.blk.set 3 sv';simpa using this
def Cv(b:Nat)(mode:Int)(cm:w.cell? ⟨b,0,none⟩=some (.int .i64 mode))(cG:aj)(cs:w.cell? ⟨b,1,none⟩=some cG)(Rt:w.ownsRow 0 130 1 cG P ((List.range P).map (fun q=>ptr (pb q))))(NP:1<=P)(MM:P<=4)(gb go cap:Nat)(h1:1<=L.length)(h8:L.length<=8)(hg:∀x∈L,fU x=true)
 (hcell:∀(k:Nat) (x:KV),L[k]?=some x->w.cell? ⟨gb,go+k*2,none⟩=some (.string x.1)/\w.cell? ⟨gb,go+k*2+1,none⟩=some (.string x.2)):
 Calls prog 48 #[ptr b,.int .i64 ((i:Int)+1),.slice (some ⟨gb,go,none⟩) L.length cap] w fun e w'=>∃τ' pw sm sh iv sv kv,e=.returned (ptr pw)/\fN w' τ' aO i P pb pw sm sh iv sv kv (L.map Prod.fst) L w.heap.size/\Vh mode kv (L.map Prod.fst) sv/\Below w.heap.size w w'/\∀k,k<w.heap.size->τ' k=τ k:=by
 have wJ:=zaj w _ cs;simp only at wJ;obtain⟨pg,pc,hpv,_,hpc,yl,_⟩:=cJ Rt (by omega);subst hpv;have PE:pg<w.heap.size:=(aQ Rt pg rfl).2;have hpq:∀q,q<P->w.cell? ⟨pg,q,none⟩=some (.pointer (some ⟨pb q,0,none⟩)):=fun q hq=>by rw[yl q (by omega),List.getElem?_map,List.getElem?_range hq];rfl
 have hmm:=@run_makeMap prog;obtain⟨si,hsi,Wj,Wl,Wm⟩:=info_parts sM;clear yl;unfold ptr;go_enter func48,ntmps48;go_wp2_with fail
 go_loopw [8,19] (fun s8 u wr=>∃(k:Nat) (τ':Nat->Tag) (sh:Nat->Nat) (iv:Nat->aj),k<=L.length/\u=.int .i64 k/\fN wr τ' aO i P pb (w.heap.size+1) w.heap.size sh iv .nilIface s8 ((L.take k).map Prod.fst) (L.take k) w.heap.size/\Below w.heap.size w wr/\Hid (∀k,k<w.heap.size->τ' k=τ k)) (fun _ u _=>L.length-(intOf u).toNat)
 case atStart=>
  refine⟨0,_,_,_,zak _,rfl,fN.made w τ aO i P pb,?_,fun k hk=>?_⟩
  ·exact((Below.refl _ _).alloc (zae _) _).alloc (by simp) _
  ·have e1:k≠w.heap.size+1:=by omega
   have e2:k≠w.heap.size:=by omega
   simp[e1,e2]
 case round=>
  obtain⟨k,τ1,sh1,iv1,hk,rfl,hW,hB,HT⟩:=hrel;by_cases hlt:k<L.length
  ·have hx:L[k]?=some L[k]:=zag hlt;obtain⟨c1,c2⟩:=hcell k _ hx;have hgb:gb<w.heap.size:=zaj w _ c1;have SE:=(hB.cell (p:=⟨gb,go+k*2,none⟩) hgb).trans c1;have UU:=(hB.cell (p:=⟨gb,go+k*2+1,none⟩) hgb).trans c2;have zX:=gN (hg _ (zar hlt));have Rq:Hid (L.take (k+1)=L.take k++ [L[k]]):=zax hlt;generalize L[k]=x at *;obtain⟨kk,vv⟩:=x;simp only at SE UU zX;have hbd:=dW P kk (by omega);obtain⟨q,hq⟩:∃q:Nat,partOf P kk=q:=⟨(partOf P kk).toNat,by omega⟩
   have hqP:q<P:=by omega
   have PF:=hpq q hqP;clear hcell c1 c2 hpq hx;go_upto_region 6 with(fail)
   have Gq:Below w.heap.size w (wr.alloc (.cells #[.string kk,.string vv] 70)):=hB.alloc hB.size _;have hBr:Below wr.heap.size wr (wr.alloc (.cells #[.string kk,.string vv] 70)):=(Below.refl _ _).alloc (zae _) _;have b0:(wr.alloc (.cells #[.string kk,.string vv] 70)).cell? ⟨wr.heap.size,0,none⟩=some (.string kk):=(bg.new wr _ _).cell (o:=0) rfl;have b1:(wr.alloc (.cells #[.string kk,.string vv] 70)).cell? ⟨wr.heap.size,1,none⟩=some (.string vv):=(bg.new wr _ _).cell (o:=1) rfl;have XL:wr.heap.size< (wr.alloc (.cells #[.string kk,.string vv] 70)).heap.size:=by simp
   generalize wr.alloc (.cells #[.string kk,.string vv] 70)=wa at *;go_cut [11] (fun Rm wx=>∃ob,Rm=.pointer (some ⟨ob,0,none⟩)/\bg wx ob #[.string kk,.string vv] 70/\Below wa.heap.size wa wx/\wa.heap.size<=ob)
   case first=>
    have uJ:Below wa.heap.size wa wa.drew:=(Below.refl _ _).drew;go_region_held3 (fun W=>W.cell? ⟨wr.heap.size,0,none⟩=some (.string kk)/\W.cell? ⟨wr.heap.size,1,none⟩=some (.string vv)) (first|(simp[*];done)|(refine⟨?_,?_⟩ <;>(rw[zah (w:=w2) (zad w2 _ _ (by have:=uJ.size;omega))];assumption))|(refine⟨?_,?_⟩ <;>(rw[zah (w:=wa.drew) (zad wa.drew _ _ (by have:=uJ.size;omega))];assumption))|(refine⟨?_,?_⟩ <;>(rw[ij (by simp only;omega),ij (by simp only;omega)];assumption))|(go_keep;done)) ((go_at_call 85;refine(A4 _ (by omega)).mono ?_;rintro e w2 ⟨rfl,dQ⟩;have hnx:Below wa.heap.size wa w2:=(by first|exact uJ.trans (dQ.mono uJ.size)|exact(uJ.alloc uJ.size _).trans (dQ.mono (Nat.le_trans uJ.size (by simp))));have q0:=(hnx.cell (p:=⟨wr.heap.size,0,none⟩) XL).trans b0;have q1:=(hnx.cell (p:=⟨wr.heap.size,1,none⟩) XL).trans b1;have uJ:=hnx;have al3:wa.heap.size<=w2.heap.size:=hnx.size;have al4:wr.heap.size<w2.heap.size:=zaf XL hnx.size;first|(have r9:=Pw dQ hown;clear hown;have hown:=r9;have r0:=hown.cell (o:=0) (v:=.string ⟨#[]⟩) rfl;have r1:=hown.cell (o:=1) (v:=.string ⟨#[]⟩) rfl;have r2:=hown.frozen 0;have r3:=hown.frozen 1)|(have hown:=Pv dQ;have r0:=hown.cell (o:=0) (v:=.string ⟨#[]⟩) rfl;have r1:=hown.cell (o:=1) (v:=.string ⟨#[]⟩) rfl;have r2:=hown.frozen 0;have r3:=hown.frozen 1)|(have hown:=Ts dQ;have r0:=hown.cell (o:=0) (v:=.string ⟨#[]⟩) rfl;have r1:=hown.cell (o:=1) (v:=.string ⟨#[]⟩) rfl;have r2:=hown.frozen 0;have r3:=hown.frozen 1)|skip))
    ·go_wp2_with fail
     go_meet
     case rel=>exact⟨w2.heap.size,rfl,bg.new _ _ _,uJ.alloc uJ.size _,uJ.size⟩
    ·go_wp2_with fail
     go_meet
     case rel=>
      exact⟨_,rfl,JD hown kk vv,(uJ.setCell (p:=⟨_,0,none⟩) (by simp only;omega) _).setCell (p:=⟨_,1,none⟩) (by simp only;omega) _,by omega⟩
    ·go_wp2_with fail
     go_meet
     case rel=>
      exact⟨_,rfl,JD hown kk vv,(uJ.setCell (p:=⟨_,0,none⟩) (by simp only;omega) _).setCell (p:=⟨_,1,none⟩) (by simp only;omega) _,by omega⟩
   case rest=>
    obtain⟨ob,rfl,hob,JE,hol⟩:=hcut;have YM:Below w.heap.size w wc:=Gq.trans (JE.mono Gq.size);have abU:Below wr.heap.size wr wc:=hBr.trans (JE.mono hBr.size);have o0:wc.cell? ⟨ob,0,none⟩=some (.string kk):=hob.cell (o:=0) rfl;have Tx:=rD (w:=wc) b P (some ⟨pg,0,none⟩) pc kk (by omega) (by omega) MM ((YM.cell (p:=⟨b,1,none⟩) wJ).trans cs);unfold ptr at Tx;rw[hq]at Tx;clear b0 b1;go_wp2_with fail
    refine Tx.mono ?_;rintro e w2 ⟨rfl,dQ⟩;clear Tx;have tj:Below w.heap.size w w2:=YM.trans (dQ.mono YM.size);have XM:bg w2 ob #[.string kk,.string vv] 70:=hob.of_eq (dQ.block _ hob.lt);have i0:w2.cell? ⟨ob,0,none⟩=some (.string kk):=XM.cell (o:=0) rfl;have i1:w2.cell? ⟨ob,1,none⟩=some (.string vv):=XM.cell (o:=1) rfl;have s1:w2.cell? ⟨b,1,none⟩=some (.slice (some ⟨pg,0,none⟩) P pc):=(tj.cell (p:=⟨b,1,none⟩) wJ).trans cs;have p1:w2.cell? ⟨pg,q,none⟩=some (.pointer (some ⟨pb q,0,none⟩)):=(tj.cell (p:=⟨pg,q,none⟩) PE).trans PF;have rF:=hW.below (abU.trans (dQ.mono abU.size));have ca:=Tv (w:=w2.drew) (rF.below (Below.refl _ _).drew) NP MM kk vv q hq (by simp;omega);unfold ptr at ca;have Cp:=tj.size;have agF:=XM.lt;have agG:Hid (∀q':Nat,aJ P (L.take k) q'=true->ob≠sh1 q'/\(iv1 q').ownBlock≠some ob):=fun q' ho=>⟨fun e=>by have:=(hW.Lp q' ho).lt;omega,fun e=>by have:=(aQ (hW.it q' ho) ob e).2;omega⟩
    have agH:ob≠w.heap.size:=by have:=hW.map.lt;omega
    have HTq:Hid (L.take k++ [(kk,vv)]=L.take (k+1)):=Rq.out.symm;have HKq:Hid ((L.take k).map Prod.fst++ [kk]=(L.take (k+1)).map Prod.fst):=by unfold Hid;rw[Rq.out];simp
    clear Rq;go_upto_region 8 with(fail)
    go_cut [12] (fun NY wx=>∃τ2 Y3 Y4,fN wx τ2 aO i P pb (w.heap.size+1) w.heap.size Y3 Y4 .nilIface u8 ((L.take k).map Prod.fst) (L.take (k+1)) w.heap.size/\Below w.heap.size w wx/\Hid (∀k,k<w.heap.size->τ2 k=τ k)/\wx.cell? ⟨ob,0,none⟩=some (.string kk))
    case first=>
     go_region_with ((go_at_call 86;refine ca.mono ?_;rintro e w3 ⟨rfl,τ2,Y3,Y4,vC,kB,G2,JF⟩))
     all_goals
      have HT3:Hid (∀k,k<w.heap.size->τ2 k=τ k):=fun k hk=>(G2 k (by show k<w2.heap.size;omega)).trans (HT.out k hk)
      have j0:w3.cell? ⟨ob,0,none⟩=some (.string kk):=(zah (w:=w2.drew) (JF ob agF agH agG.out)).trans i0
      clear ca G2 JF
      rw[HTq.out]at vC
      go_wp2_with fail
      go_meet
      case rel=>exact⟨τ2,Y3,Y4,vC,tj.drew.trans kB,HT3,j0⟩
    case rest=>
     obtain⟨τ2,Y3,Y4,vC,kB,HT3,j0⟩:=hcut;rename af=>wd
     have EF:((L.take k).map Prod.fst).length=k:=by simp;omega
     obtain⟨av,gZ,hkv⟩:=cy vC.ky;have RD:=vC.ky;have HK:Hid (∀(w4:af) (v4:aj) (o:Obj),w4.ownsRow 0 9 1 v4 (k+1) (((L.take k).map Prod.fst).map Value.string++ [.string kk])->(wd.alloc o).grownBy w4 u8.ownBlock->(v4.ownBlock=u8.ownBlock\/v4.ownBlock=some (wd.alloc o).heap.size)->
      ∃τ':Nat->Tag,fN w4 τ' aO i P pb (w.heap.size+1) w.heap.size Y3 Y4 .nilIface v4 ((L.take (k+1)).map Prod.fst) (L.take (k+1)) w.heap.size/\Below w.heap.size wd w4/\∀k,k<wd.heap.size->τ' k=τ2 k):=fun w4 v4 o a1 a2 a3=>by rw[<-HKq.out];exact vC.key kB.size (by rw[EF];exact a1) a2 a3
     rw[EF]at RD hkv;generalize ((L.take k).map Prod.fst).map Value.string=xs at *;subst hkv;have qq:=kB.size;go_wp2_with (at_builtin;refine wpList_append_own_at _ rfl (.tmp 45) (.tmp 48) 38 rfl 0 9 si _ 1 16 underlying38 hsi Wj Wl Wm rfl (by decide) (.slice av k gZ) k xs rfl (RD.alloc _) ⟨_,0,none⟩ 1 1 [.string kk] rfl rfl (cell_one_new _ _ _) (by simp[Value.oneCell']) (by unfold maxLen;omega) (by omega) (zak _) ?_;intro v4 w4 Ku Kv YG Je)
     obtain⟨τ4,XN,sN,OK⟩:=HK.out w4 v4 _ Ku Kv Je;have HT4:Hid (∀k,k<w.heap.size->τ4 k=τ k):=fun k hk=>(OK k (by omega)).trans (HT3.out k hk);clear OK;go_wp2_with fail
     go_roundw
     case rel=>exact⟨k+1,τ4,Y3,Y4,by omega,by go_num,XN,kB.trans sN,HT4⟩
     case measure=>simp[intOf];omega
  ·have MZ:k=L.length:=by omega
   rw[MZ,zav]at hW;have cm':=(hB.cell (p:=⟨b,0,none⟩) wJ).trans cm;obtain⟨av,gZ,hkv⟩:=cy hW.ky;have EF:(L.map Prod.fst).length=L.length:=by simp
   rw[EF]at hkv;have hkc:∀(j:Nat) (x:ah),(L.map Prod.fst)[j]?=some x->∃gb,av=some ⟨gb,0,none⟩/\wr.cell? ⟨gb,j,none⟩=some (.string x):=fun j x hx=>by have hj:=aM hx;obtain⟨g,c,e,_,_,hc,_⟩:=cJ hW.ky (by omega);rw[hkv]at e;injection e with e1 e2 e3;refine⟨g,e1,?_⟩;rw[hc j (by omega),List.getElem?_map,hx];rfl
   have hkz:∀x∈L.map Prod.fst,x.size<=8:=fun x hx=>by obtain⟨y,hy,rfl⟩:=zat.1 hx;exact(gN (hg y hy)).2.1
   have csb:=ym (w:=wr) mode av (L.map Prod.fst) gZ (by omega) hkz hkc;rw[EF]at csb;have hpl:=hW.blk.lt;subst hkv;clear hcell hpq MZ hkc hkz;go_wp2_with fail
   refine csb.mono ?_;rintro e w2 ⟨⟨sv,rfl,zG⟩,dQ⟩;clear csb;have rF:=hW.below dQ;have HF:Hid (fN (w2.setCell ⟨w.heap.size+1,3,none⟩ sv) τ1 aO i P pb (w.heap.size+1) w.heap.size sh1 iv1 sv (.slice av L.length gZ) (L.map Prod.fst) L w.heap.size):=rF.carry sv;have d3:w2.cell? ⟨w.heap.size+1,3,none⟩=some .nilIface:=rF.blk.cell (o:=3) rfl;have f3:=rF.blk.frozen 3;have HI:Hid (Vh mode (.slice av L.length gZ) (L.map Prod.fst) sv):=zG;have HB:Hid (Below w.heap.size w (w2.setCell ⟨w.heap.size+1,3,none⟩ sv)):=(hB.trans (dQ.mono hB.size)).setCell (p:=⟨w.heap.size+1,3,none⟩) (by simp) sv;rcases zG.isIf with rfl|⟨st,sx,rfl⟩
   all_goals
    go_wp2_with fail
    go_ret
    exact⟨τ1,w.heap.size+1,w.heap.size,sh1,iv1,_,_,rfl,HF.out,HI.out,HB.out,HT.out⟩
end
end
section
open Go Go.RowKit
section
variable {w:af}{τ:Nat->Tag}{aO b:Nat}{s:MS}
def cZ(h:bK x=true):1<=x.size/\x.size<=8:=by simpa[bK]using h
end
end
section
open Go Go.RowKit Go.MuLone
open Go.Maps (Keyed)
def cS(A:SA)(n pw sm:Nat)(sh:Nat->Nat)(iv:Nat->aj)(sv:aj):SA:=
 {A with pw:=fun j=>if j=n then pw else A.pw j,sm:=fun j=>if j=n then sm else A.sm j,sh:=fun j q=>if j=n then sh q else A.sh j q,iv:=fun j q=>if j=n then iv q else A.iv j q,sv:=fun j=>if j=n then sv else A.sv j}
def fW(s:MS)(L:List KV):MS:={s with ws:=s.ws++ [jk L]}
section
variable {w:af}{τ:Nat->Tag}{aO b:Nat}{s:MS}{A:SA}{L:List KV}
def eC{m:MW}(hm:(fW s L).ws[i]?=some m):(i<s.ws.length/\s.ws[i]?=some m)\/(i=s.ws.length/\m=jk L):=by
 unfold fW at hm;by_cases e:i<s.ws.length
 ·simp only[List.getElem?_append_left e]at hm;exact Or.inl ⟨e,hm⟩
 ·simp only[List.getElem?_append_right (Nat.le_of_not_lt e)]at hm;have hi':=aM hm;simp at hi';have:i=s.ws.length:=by omega
  subst this;simp at hm;exact Or.inr ⟨rfl,hm.symm⟩
def py(hn:n≠(s.ws.length:Int)+1):bI (fW s L) n=bI s n:=by
 unfold bI fW;simp only[List.length_append,List.length_singleton];by_cases h1:n<1\/(s.ws.length:Int)<n
 ·rw[if_pos h1,if_pos (by omega)]
 ·rw[if_neg h1,if_neg (by omega),List.getElem?_append_left (by omega)]
def pz:bI (fW s L) ((s.ws.length:Int)+1)=some (jk L):=
 jJ (i:=s.ws.length) (by simp[fW]) rfl
def Cw{pw sm:Nat}{sh:Nat->Nat}{iv:Nat->aj}{sv:aj}:cQ (fW s L) (cS A s.ws.length pw sm sh iv sv)=upd (cQ s A) (.int .i64 ((s.ws.length:Int)+1)) (ptr pw):=by
 funext kl;by_cases e:kl=.int .i64 ((s.ws.length:Int)+1)
 ·subst e;rw[upd_same (by trivial)];simp only[cQ,pz];rw[show ((s.ws.length:Int)+1-1).toNat=s.ws.length from by omega];simp[cS]
 ·rw[fI e];cases kl with
  |int k n=>
   cases k<;>try rfl
   have hn:n≠(s.ws.length:Int)+1:=fun e'=>e (by rw[e']);simp only[cQ,py hn];cases hf:bI s n with
   |none=>rfl
   |some m=>
    obtain⟨h1,h2,_⟩:=eI hf;have:(n-1).toNat≠s.ws.length:=by omega
    simp only[cS,if_neg this]
  |_=>rfl
def Hg{pw sm:Nat}{sh:Nat->Nat}{iv:Nat->aj}{sv:aj}(q:Nat):bM (fW s L) (cS A s.ws.length pw sm sh iv sv) q=bM s A q:=by
 funext kl;cases kl with
 |int k n=>
  cases k<;>try rfl
  by_cases hn:n=(s.ws.length:Int)+1
  ·subst hn;have:bI s ((s.ws.length:Int)+1)=none:=by unfold bI;rw[if_pos (by omega)]
   simp only[bM,pz,this,jk];rfl
  ·simp only[bM,py hn];cases hf:bI s n with
   |none=>rfl
   |some m=>
    obtain⟨h1,h2,_⟩:=eI hf;have:(n-1).toNat≠s.ws.length:=by omega
    simp only[cS,if_neg this]
 |_=>rfl
def a9.push(h:a9 w τ aO b s A)(MU:L.length<=8)(hlg:∀x∈L,fU x=true)(hlen:s.ws.length<200){τ':Nat->Tag}{pw sm:Nat}{sh:Nat->Nat}{iv:Nat->aj}{sv:aj}
 {kv:aj} (Ty:Vh s.mode kv (L.map Prod.fst) sv) (hp:fN w' τ' aO s.ws.length s.parts A.pb pw sm sh iv sv kv (L.map Prod.fst) L w.heap.size) (ht:∀k,k<w.heap.size->τ' k=τ k)
 (hold:∀k,k<w.heap.size->k≠b->k≠A.wm->w'.heap[k]?=w.heap[k]?)
 (hb:bg w' b #[.int .i64 s.mode,A.cG,eN,fV,.int .i64 ((s.ws.length:Int)+1),.int .i64 s.rs.length,.map (some A.wm),.map (some A.R.rm)] 105)
 (hw:aS w' prog 3 A.wm (upd (cQ s A) (.int .i64 ((s.ws.length:Int)+1)) (ptr pw))):
 a9 w' τ' aO b (fW s L) (cS A s.ws.length pw sm sh iv sv):=by
 have hne:∀{k a c:Nat},τ k=(aO,a,c)->a≠0->a≠5->k<w.heap.size->w'.heap[k]?=w.heap[k]? :=by
  intro k a c htk h0 h5 hk;refine hold k hk (fun e=>?_) (fun e=>?_)
  ·rw[e,h.tag]at htk;simp at htk;omega
  ·rw[e,h.iJ]at htk;simp at htk;omega
 have ajb:∀q,(jk L).dH q=false:=fun _=>rfl;refine⟨⟨h.ok.p1,h.ok.p4,by simp[fW];omega,fun j mj hj=>?_,h.ok.keys,h.ok.opn⟩,⟨fun j mj q hj hcm=>?_,fun j mj q hj Vi=>?_,fun j mj q hj hcm=>?_⟩,?_,?_,by rw[ht b h.blk.lt,h.tag],?_,fun k hk=>?_,fun q hq=>?_,fun q hq=>?_,fun q hq=>?_,fun q hq=>?_,fun q hq=>?_,fun q hq=>?_,fun q hq=>?_,?_,?_,fun j mj hj dZ=>?_,fun j mj hj dZ=>?_,fun j mj hj dZ=>?_,fun j mj hj dZ=>?_,fun j mj q hj dZ ho=>?_,fun j mj q hj dZ ho=>?_,fun j mj q hj dZ ho=>?_,fun j mj q k hj dZ ho hk=>?_,h.reads.frame (fun k hk h1 Jr=>⟨hne (a:=(τ k).2.1) (c:=(τ k).2.2) (by rw[<-h1]) (by omega) (by omega) hk,ht k hk⟩),fun j mj hj=>?_⟩
 ·rcases eC hj with⟨_,e⟩|⟨_,rfl⟩
  ·exact h.ok.items j mj e
  ·exact⟨MU,hlg⟩
 ·rcases eC hj with⟨_,e⟩|⟨_,rfl⟩
  ·exact h.inv.cp j mj q e hcm
  ·cases hcm
 ·rcases eC hj with⟨_,e⟩|⟨_,rfl⟩
  ·exact h.inv.po j mj q e Vi
  ·cases Vi
 ·rcases eC hj with⟨_,e⟩|⟨_,rfl⟩
  ·exact h.inv.cc j mj q e hcm
  ·rfl
 ·refine h.told.ws rfl rfl rfl rfl (fun j mj hj=>by
   rcases eC hj with⟨hjl,e⟩|⟨rfl,rfl⟩
   ·have:j≠s.ws.length:=by omega
    simp only[cS,this,if_false];exact h.told.sv j mj e
   ·simpa[cS]using Ty.isIf) (fun j mj hj=>?_)
  have hjl:=aM hj;have:j≠s.ws.length:=by omega
  refine⟨mj,?_,rfl,fun _ hq=>hq,by simp[cS,this]⟩;simp only[fW];rw[List.getElem?_append_left hjl];exact hj
 ·have e:((fW s L).ws.length:Int)=(s.ws.length:Int)+1:=by simp[fW]
  rw[e];exact hb
 ·exact aH h.cG (fun k hk=>hne (h.eF k hk) (by omega) (by omega) (aQ h.cG k hk).2)
 ·rw[ht k (aQ h.cG k hk).2,h.eF k hk]
 ·exact(h.part q hq).of_eq (hne (h.dh q hq) (by omega) (by omega) (h.part q hq).lt)
 ·show τ' (A.pb q)=_;rw[ht _ (h.part q hq).lt,h.dh q hq]
 ·rw[Hg];exact(h.kept q hq).of_eq (hne (h.cF q hq) (by omega) (by omega) (h.kept q hq).lt)
 ·show τ' (A.kb q)=_;rw[ht _ (h.kept q hq).lt,h.cF q hq]
 ·exact(h.tB q hq).of_eq (hne (h.eV q hq) (by omega) (by omega) (h.tB q hq).lt)
 ·show τ' (A.vb q)=_;rw[ht _ (h.tB q hq).lt,h.eV q hq]
 ·refine nG (h.lB q hq) rfl (fun j mj hj dZ=>⟨mj,?_,dZ,rfl⟩) (fun j mj hj dZ=>?_)
  ·simp only[fW];rw[List.getElem?_append_left (aM hj)];exact hj
  ·rcases eC hj with⟨_,e⟩|⟨_,rfl⟩
   ·exact⟨mj,e,dZ,rfl⟩
   ·cases dZ
 ·rw[Cw];exact hw
 ·show τ' A.wm=_;rw[ht _ h.rE.lt,h.iJ]
 ·rcases eC hj with⟨hjl,e⟩|⟨rfl,rfl⟩
  ·have hb':=h.wr j mj e dZ;have:j≠s.ws.length:=by omega
   simp only[cS,this,if_false];exact hb'.of_eq (hne (h.fj j mj e dZ) (by omega) (by omega) hb'.lt)
  ·simpa[cS]using hp.blk
 ·rcases eC hj with⟨hjl,e⟩|⟨rfl,rfl⟩
  ·have hb':=h.wr j mj e dZ;have:j≠s.ws.length:=by omega
   simp only[cS,this,if_false];rw[ht _ hb'.lt,h.fj j mj e dZ]
  ·simpa[cS]using hp.tag
 ·rcases eC hj with⟨hjl,e⟩|⟨rfl,rfl⟩
  ·have hb':=h.PG j mj e dZ;have hjn:j≠s.ws.length:=by omega
   have e1:bQ (fW s L) (cS A s.ws.length pw sm sh iv sv) j mj=bQ s A j mj:=by
    funext kl;cases kl with
    |int k n=>cases k<;>first|rfl|(simp only[bQ,cS,hjn,if_false];rfl)
    |_=>rfl
   rw[e1];simp only[cS,hjn,if_false];exact hb'.of_eq (hne (h.iX j mj e dZ) (by omega) (by omega) hb'.lt)
  ·have e1:bQ (fW s L) (cS A s.ws.length pw sm sh iv sv) s.ws.length (jk L)=zY s.parts sh L:=by
    funext kl;cases kl with
    |int k n=>cases k<;>first|rfl|(simp only[bQ,cS,if_true];rfl)
    |_=>rfl
   rw[e1];simpa[cS]using hp.map
 ·rcases eC hj with⟨hjl,e⟩|⟨rfl,rfl⟩
  ·have hb':=h.PG j mj e dZ;have:j≠s.ws.length:=by omega
   simp only[cS,this,if_false];rw[ht _ hb'.lt,h.iX j mj e dZ]
  ·simpa[cS]using hp.gQ
 ·rcases eC hj with⟨hjl,e⟩|⟨rfl,rfl⟩
  ·have hb':=h.sh j mj q e dZ ho;have:j≠s.ws.length:=by omega
   simp only[cS,this,if_false];exact hb'.of_eq (hne (h.cM j mj q e dZ ho) (by omega) (by omega) hb'.lt)
  ·have:=hp.Lp q ho;simpa[cS,bL,jk]using this
 ·rcases eC hj with⟨hjl,e⟩|⟨rfl,rfl⟩
  ·have hb':=h.sh j mj q e dZ ho;have:j≠s.ws.length:=by omega
   simp only[cS,this,if_false];rw[ht _ hb'.lt,h.cM j mj q e dZ ho]
  ·have:=hp.cM q ho;simpa[cS]using this
 ·rcases eC hj with⟨hjl,e⟩|⟨rfl,rfl⟩
  ·have hr:=h.it j mj q e dZ ho;have:j≠s.ws.length:=by omega
   simp only[cS,this,if_false];exact aH hr (fun k hk=>hne (h.eZ j mj q k e dZ ho hk) (by omega) (by omega) (aQ hr k hk).2)
  ·have:=hp.it q ho;simpa[cS,jk,fW]using this
 ·rcases eC hj with⟨hjl,e⟩|⟨rfl,rfl⟩
  ·have hr:=h.it j mj q e dZ ho;have hjn:j≠s.ws.length:=by omega
   simp only[cS,hjn,if_false]at hk;rw[ht _ (aQ hr k hk).2,h.eZ j mj q k e dZ ho hk]
  ·simp only[cS,if_true]at hk;exact hp.eZ q k ho hk
 ·rcases eC hj with⟨hjl,e⟩|⟨rfl,rfl⟩
  ·have:j≠s.ws.length:=by omega
   simp only[cS,this,if_false];exact(h.KY j mj e).of fun k hk htk=>⟨hne htk (by omega) (by omega) hk,ht k hk⟩
  ·simpa[cS,jk,fW]using Ty.ok hp.ky hp.dJ
end
end
section
open Go Go.RowKit Go.MuLone
open Go.Maps (Keyed)
section
variable {w:af}{τ:Nat->Tag}{aO b:Nat}{s:MS}{A:SA}{L:List KV}
def Cx(hlen:s.ws.length<=200):∀kl,cQ s A kl≠none->kl∈jF:=by
 intro kl h;cases kl with
 |int k n=>
  cases k<;>try exact absurd rfl h
  simp only[cQ]at h;cases hf:bI s n with
  |none=>rw[hf]at h;exact absurd rfl h
  |some m=>obtain⟨h1,h2,_⟩:=eI hf;exact o9 (by omega) (by omega)
 |_=>exact absurd rfl h
def PI(w:af)(τ:Nat->Tag)(aO b:Nat)(r:Int×Int×MS)(e:Ending)(w':af):Prop:=
 ∃τ' A',e=.returned (.tuple #[.int .i64 r.1,.int .i64 r.2.1])/\a9 w' τ' aO b r.2.2 A'/\Stp aO τ w τ' w'
def jB{s:Nat}{τ:Nat->Tag}(h:Below w.heap.size w w'):Stp s τ w τ w':=⟨h.os,h.tape,h.output,h.size,fun _ _=>rfl,fun k hk _=>h.block k hk⟩
def vu{L:List KV}(h:ez L=0):1<=L.length/\L.length<=8/\∀x∈L,fU x=true:=by
 unfold ez at h;split at h
 ·cases h
 ·exact⟨by omega,by omega,GY h⟩
def Gr(h:a9 w τ aO b s A)(a:Option aA)(cap:Nat)(hL:L.length<=maxLen)(Tq:L.length<=cap)(hcm:cap<=maxLen)(hz:wU L)(hI:wT w a L)(hf:∀ib io,a=some ⟨ib,io,none⟩->(τ ib).1≠aO):
 Calls prog 26 #[ptr b,.slice a L.length cap] w (PI w τ aO b (jA s L)):=by
 have cc:=yg a L cap hL Tq hcm hz hI;by_cases hc:ez L=0
 ·obtain⟨h1,h8,hg⟩:=vu hc;rw[hc]at cc;obtain⟨gb,go,rfl,hc0,_⟩:=hI 0 L[0] (zag (by omega));have hgb:gb<w.heap.size:=zaj w _ hc0;have zX:=hf gb go rfl;have hcell:∀(k:Nat) (x:KV),L[k]?=some x->w.cell? ⟨gb,go+k*2,none⟩=some (.string x.1)/\w.cell? ⟨gb,go+k*2+1,none⟩=some (.string x.2):=fun k x hx=>by obtain⟨ib',io',e,r⟩:=hI k x hx;cases e;exact r
  have hlen:=h.ok.len;have hp1:=h.ok.p1;have FX:=h.ok.p4;by_cases hfull:200<=s.ws.length
  ·have Hr:Hid (jA s L=(0,6,s)):=by unfold Hid jA;rw[hc];simp[hfull]
   unfold ptr;clear hcell hI hf;go_enter_defers func26,ntmps26;go_wp2_with fail
   refine cc.mono ?_;rintro e w1 ⟨rfl,hB⟩;have hR:=h.below hB;have c2:w1.cell? ⟨b,2,none⟩=some (.int .i32 0):=hR.blk.cell (o:=2) rfl;have f2:=hR.blk.frozen 2;have iz:=hR.blk.set 2 (.int .i32 1);have c4:(w1.setCell ⟨b,2,none⟩ (.int .i32 1)).cell? ⟨b,4,none⟩=some (.int .i64 s.ws.length):=iz.cell (o:=4) rfl;have eD:=fX hR.blk (o:=2) rfl (.int .i32 1);unfold eN at eD;clear cc;go_wp2_with fail
   refine(lock_free Tryz.bA ⟨b,2,none⟩ _ c2 f2).mono ?_;rintro e w' ⟨rfl,rfl⟩;go_wp2_with fail
   refine leaves_cons (f:=38) (args:=#[.pointer (some ⟨b,2,none⟩)]) (by simp) (by simp[go_sem]) ?_;refine(unlock_deferred Tryz.bA ⟨b,2,none⟩ .returning _ (iz.cell (o:=2) rfl) (iz.frozen 2)).mono ?_;rintro e u' w'' ⟨rfl,rfl,rfl⟩;rw[Hr.out];exact⟨_,results_tmp2 rfl _ _ _,τ,A,rfl,hR.same eD,(jB hB).trans (eD.ou _ _)⟩
  ·have Hr:Hid (jA s L=((s.ws.length:Int)+1,0,fW s L)):=by unfold Hid jA;rw[hc];simp only[ne_eq,not_true,if_false,if_neg hfull];rfl
   unfold ptr;clear hI hf;go_enter_defers func26,ntmps26;go_wp2_with fail
   refine cc.mono ?_;rintro e w1 ⟨rfl,hB⟩;have hR:=h.below hB;have c2:w1.cell? ⟨b,2,none⟩=some (.int .i32 0):=hR.blk.cell (o:=2) rfl;have f2:=hR.blk.frozen 2;have iz:=hR.blk.set 2 (.int .i32 1);have c4:(w1.setCell ⟨b,2,none⟩ (.int .i32 1)).cell? ⟨b,4,none⟩=some (.int .i64 s.ws.length):=iz.cell (o:=4) rfl;have f4:(w1.setCell ⟨b,2,none⟩ (.int .i32 1)).frozen? ⟨b,4,none⟩=false:=iz.frozen 4;have j9:=iz.set 4 (.int .i64 ((s.ws.length:Int)+1));clear cc;go_wp2_with fail
   refine(lock_free Tryz.bA ⟨b,2,none⟩ _ c2 f2).mono ?_;rintro e w' ⟨rfl,rfl⟩;have Ln:gb≠b:=fun e=>zX (by rw[e,h.tag]);have eH:∀k,k≠b->((w1.setCell ⟨b,2,none⟩ (.int .i32 1)).setCell ⟨b,4,none⟩ (.int .i64 ((s.ws.length:Int)+1))).heap[k]?=w1.heap[k]? :=fun k hk=>(zac _ _ _ _ hk).trans (zac _ _ _ _ hk);have XO:((w1.setCell ⟨b,2,none⟩ (.int .i32 1)).setCell ⟨b,4,none⟩ (.int .i64 ((s.ws.length:Int)+1))).heap.size=w1.heap.size:=by simp[World.setCell]
   have Hh:((w1.setCell ⟨b,2,none⟩ (.int .i32 1)).setCell ⟨b,4,none⟩ (.int .i64 ((s.ws.length:Int)+1))).os=w1.os/\((w1.setCell ⟨b,2,none⟩ (.int .i32 1)).setCell ⟨b,4,none⟩ (.int .i64 ((s.ws.length:Int)+1))).tape=w1.tape/\((w1.setCell ⟨b,2,none⟩ (.int .i32 1)).setCell ⟨b,4,none⟩ (.int .i64 ((s.ws.length:Int)+1))).output=w1.output:=⟨rfl,rfl,rfl⟩
   go_wp2_with fail
   generalize (w1.setCell ⟨b,2,none⟩ (.int .i32 1)).setCell ⟨b,4,none⟩ (.int .i64 ((s.ws.length:Int)+1))=wC at *;have s0:wC.cell? ⟨b,0,none⟩=some (.int .i64 s.mode):=j9.cell (o:=0) rfl;have s1:wC.cell? ⟨b,1,none⟩=some A.cG:=j9.cell (o:=1) rfl;have s4:wC.cell? ⟨b,4,none⟩=some (.int .i64 ((s.ws.length:Int)+1)):=j9.cell (o:=4) rfl;have s5:wC.cell? ⟨b,6,none⟩=some (.map (some A.wm)):=j9.cell (o:=6) rfl;have EG:wC.ownsRow 0 130 1 A.cG s.parts ((List.range s.parts).map (fun q=>ptr (A.pb q))):=aH hR.cG (fun k hk=>eH k (fun e=>by have h1:=h.eF k hk;rw[e,h.tag]at h1;simp at h1));have yp:∀(k:Nat) (x:KV),L[k]?=some x->wC.cell? ⟨gb,go+k*2,none⟩=some (.string x.1)/\wC.cell? ⟨gb,go+k*2+1,none⟩=some (.string x.2):=fun k x hx=>
    ⟨(zah (w:=w1) (eH gb Ln)).trans ((hB.cell (p:=⟨gb,go+k*2,none⟩) hgb).trans (hcell k x hx).1),(zah (w:=w1) (eH gb Ln)).trans ((hB.cell (p:=⟨gb,go+k*2+1,none⟩) hgb).trans (hcell k x hx).2)⟩
   have cn:=Cv (w:=wC.drew) (τ:=τ) (aO:=aO) (i:=s.ws.length) (P:=s.parts) (pb:=A.pb) (L:=L) b s.mode s0 A.cG s1 EG hp1 FX gb go cap h1 h8 hg yp;unfold ptr at cn;have PK:A.wm≠b:=fun e=>by have h1:=h.iJ;rw[e,h.tag]at h1;simp at h1
   have hMC:aS wC prog 3 A.wm (cQ s A):=hR.rE.of_eq (eH _ PK);have XP:=j9.lt;have hn1: -9223372036854775808<=(s.ws.length:Int)+1:=by omega
   have hn2:(s.ws.length:Int)+1<=9223372036854775807:=by omega
   clear hcell yp EG c4 f4 s0;go_region_held3 (fun W=>W.cell? ⟨b,4,none⟩=some (.int .i64 ((s.ws.length:Int)+1))/\W.cell? ⟨b,6,none⟩=some (.map (some A.wm))) (simp[*]) ((go_at_call 48;refine cn.mono ?_;rintro e w2 ⟨τ',pw,sm,sh,iv,sv,kv,rfl,hPW,Ty,dQ,sn⟩;have k4:=(dQ.cell (p:=⟨b,4,none⟩) XP).trans s4;have k5:=(dQ.cell (p:=⟨b,6,none⟩) XP).trans s5;obtain⟨w3,hup,JC,hTu⟩:=(hMC.of_eq (w':=w2) (dQ.block _ hMC.lt)).store (t:=102) (e:=118) eB underlying102 jF (Cx hlen) pe (keyOf_int hn1 hn2) (.pointer (some ⟨pw,0,none⟩));have xA:=qC.fK hTu;have m4:=(zah (w:=w2) (a:=⟨b,4,none⟩) (xA.block b (fun e=>PK e.symm))).trans k4;have m5:=(zah (w:=w2) (a:=⟨b,6,none⟩) (xA.block b (fun e=>PK e.symm))).trans k5))
   clear cn;go_wp2_with fail
   have DG:bg w3 b _ _:=(j9.of_eq (dQ.block b XP)).of_eq (xA.block b (fun e=>PK e.symm));refine leaves_cons (f:=38) (args:=#[.pointer (some ⟨b,2,none⟩)]) (by simp) (by simp[go_sem]) ?_;refine(unlock_deferred Tryz.bA ⟨b,2,none⟩ .returning _ (DG.cell (o:=2) rfl) (DG.frozen 2)).mono ?_;rintro e u' w'' ⟨rfl,rfl,rfl⟩;rw[Hr.out];have Hj:wC.drew.heap.size=w1.heap.size:=XO;rw[Hj]at hPW sn;have Ro:w1.heap.size<=w2.heap.size:=by have:=dQ.size;rw[Hj]at this;exact this
   have Wc:=hB.size;have hold:∀k,k<w1.heap.size->k≠b->k≠A.wm->(w3.setCell ⟨b,2,none⟩ (.int .i32 0)).heap[k]?=w1.heap[k]? :=fun k hk hkb hkm=>
    (zac _ _ _ _ hkb).trans ((xA.block k hkm).trans ((dQ.block k (by rw[Hj];exact hk)).trans (eH k hkb)))
   have agL:=hR.rE.lt;have wJ:=hR.blk.lt;refine⟨_,results_tmp2 rfl _ _ _,τ',_,rfl,hR.push h8 hg (by omega) (w':=w3.setCell ⟨b,2,none⟩ (.int .i32 0)) Ty (hPW.frame (fun k hk ot=>(zac _ _ _ _ (by simp only;omega)).trans (xA.block k (by omega)))) sn hold ?_ (JC.of_eq (zac _ _ _ _ PK)),?_⟩
   ·have:=DG.set 2 (.int .i32 0);simpa[eN,fV]using this
   ·refine⟨xA.os.trans (dQ.os.trans (Hh.1.trans hB.os)),xA.tape.trans (dQ.tape.trans (Hh.2.1.trans hB.tape)),xA.output.trans (dQ.output.trans (Hh.2.2.trans hB.output)),?_,fun k hk=>sn k (by omega),fun k hk hs=>?_⟩
    ·have:=xA.size;simp[World.setCell];omega
    ·exact(hold k (by omega) (fun e=>hs (by rw[e,h.tag])) (fun e=>hs (by rw[e,h.iJ]))).trans (hB.block k hk)
 ·have Hr:Hid (jA s L=(0,ez L,s)):=by unfold Hid jA;simp[hc]
  have hne:(ez L != 0)=true:=by rw[bne_iff_ne];exact hc
  generalize ez L=c at *;unfold ptr;clear hI hf;go_enter_defers func26,ntmps26;go_wp2_with fail
  refine cc.mono ?_;rintro e w1 ⟨rfl,hB⟩;clear cc;go_wp2_with fail
  rw[Hr.out];exact⟨_,results_tmp2 rfl _ _ _,τ,A,rfl,h.below hB,jB hB⟩
end
end
section
open Go Go.RowKit
def Vm{s:MS}(h:fP s n=none):n<1\/(s.rs.length:Int)<n\/(1<=n/\n<=s.rs.length/\∃r,s.rs[(n-1).toNat]?=some r/\r.fin=true):=by
 unfold fP ed at h;split at h
 ·omega
 ·rename_i hb;have hlt:(n-1).toNat<s.rs.length:=by omega
  rw[zag hlt]at h;simp only at h;refine Or.inr (Or.inr ⟨by omega,by omega,_,zag hlt,?_⟩);cases hc:s.rs[(n-1).toNat].fin
  ·rw[hc]at h;simp at h
  ·rfl
def vw{s:MS}{r:MR}(h:fP s n=some r):1<=n/\n<=s.rs.length/\s.rs[(n-1).toNat]?=some r/\r.fin=false:=by
 unfold fP ed at h;split at h
 ·cases h
 ·rename_i hb;have hlt:(n-1).toNat<s.rs.length:=by omega
  rw[zag hlt]at h;simp only at h;split at h
  ·cases h
  ·rename_i hc;cases h;exact⟨by omega,by omega,zag hlt,by simpa using hc⟩
section
variable {w:af}{τ:Nat->Tag}{aO b:Nat}{s:MS}
def valueOf(l:List KV)(key:ah):ah:=match l.find? (fun x=>decide (x.1=key))with
 |some x=>x.2
 |none=>ByteArray.empty
def Bj{l:List KV}{key:ah}(h:∀j x,j<l.length->l[j]?=some x->x.1≠key):valueOf l key=ByteArray.empty/\aP l key=false:=by
 have h1:l.find? (fun x=>decide (x.1=key))=none:=by rw[List.find?_eq_none];intro x hx;obtain⟨j,hj,rfl⟩:=List.mem_iff_getElem.1 hx;simpa using h j _ hj (zag hj)
 refine⟨by unfold valueOf;rw[h1],?_⟩;simp only[aP,List.any_eq_false,decide_eq_true_eq];rw[List.find?_eq_none]at h1;intro x hx;simpa using h1 x hx
def Bi{l:List KV}{key:ah}{x:KV}(hx:l[k]?=some x)(he:x.1=key)(h:∀j y,j<k->l[j]?=some y->y.1≠key):valueOf l key=x.2/\aP l key=true:=by
 have h1:l.find? (fun x=>decide (x.1=key))=some x:=by obtain⟨hk,rfl⟩:=List.getElem?_eq_some_iff.1 hx;rw[List.find?_eq_some_iff_getElem];refine⟨by simpa using he,k,hk,rfl,fun j hj=>?_⟩;simpa using h j _ hj (zag (by omega))
 refine⟨by unfold valueOf;rw[h1],?_⟩;simp only[aP,List.any_eq_true,decide_eq_true_eq];exact⟨x,zal hx,he⟩
end
end
section
open Go Go.RowKit Go.MuLone
open Go.Maps (Keyed)
def bT(w:af):af:=((w.alloc (.map #[] 0)).alloc (.map #[] 0)).alloc (.cells #[eN,fV,.map (some w.heap.size),.map (some (w.heap.size+1))] 202)
def EH(w:af):Calls prog 67 #[] w fun e w'=>e=.returned (ptr (w.heap.size+2))/\w'=bT w:=by have hmm:=@run_makeMap prog;unfold ptr;go_enter func67,ntmps67;go_wp2;go_ret;exact⟨rfl,rfl⟩
def PL:(prog.info? 130).map (fun i=>(i.zero,i.size,i.bytes))=some (some (.pointer none),1,8):=by kernel_rfl
structure Lq(w:af)(τ:Nat->Tag)(aO q pb kb vb:Nat):Prop where
 blk:bg w pb #[eN,fV,.map (some kb),.map (some vb)] 202
 kept:aS w prog 3 kb (fun _=>none)
 vis:aS w prog 9 vb (fun _=>none)
 t1:τ pb=(aO,2,q)
 t2:τ kb=(aO,3,q)
 t3:τ vb=(aO,4,q)
structure A7(w:af)(τ:Nat->Tag)(aO sb wm rm:Nat)(mode:Int)(k:Nat)(cG:aj)(pb kb vb:Nat->Nat)(B0:Nat):Prop where
 blk:bg w sb #[.int .i64 mode,cG,eN,fV,.int .i64 0,.int .i64 0,.map (some wm),.map (some rm)] 105
 tag:τ sb=(aO,0,0)
 rE:aS w prog 3 wm (fun _=>none)
 iJ:τ wm=(aO,5,0)
 rC:aS w prog 3 rm (fun _=>none)
 iq:τ rm=(aO,10,0)
 row:w.ownsRow 0 130 1 cG k ((List.range k).map (fun q=>ptr (pb q)))
 eF:∀j,cG.ownBlock=some j->τ j=(aO,1,0)
 part:∀q,q<k->Lq w τ aO q (pb q) (kb q) (vb q)
 lo:B0<=sb/\B0<=wm/\B0<=rm/\∀j,cG.ownBlock=some j->B0<=j
def A7.rep{τ:Nat->Tag}{sb wm rm:Nat}{mode:Int}{cG:aj}{pb kb vb:Nat->Nat}(h:A7 w τ aO sb wm rm mode k cG pb kb vb B0)(h1:1<=k)(h4:k<=4):
 ∃A,a9 w τ aO sb {parts:=k,mode:=mode,ws:= [],rs:= []} A:=by
 refine⟨{cG:=cG,pb:=pb,kb:=kb,vb:=vb,wm:=wm,pw:=fun _=>0,sm:=fun _=>0,sh:=fun _ _=>0,iv:=fun _ _=>.slice none 0 0,sv:=fun _=>.nilIface,vis:=fun _ _=>0,R:={rm:=rm,pr:=fun _=>0,qm:=fun _=>0,qb:=fun _ _=>0,no:=fun _=>false,ks:=fun _=>.slice none 0 0,hv:=fun _ _=>false,tv:=fun _ _=>⟨#[]⟩,ts:=fun _ _=>.nilIface}},⟨h1,h4,by simp,fun i m hm=>by simp at hm,fun i m hm=>by simp at hm,by simp[bq]⟩,⟨fun i m q hm=>by simp at hm,fun i m q hm=>by simp at hm,fun i m q hm=>by simp at hm⟩,⟨fun i m hm=>by simp at hm,fun i m hm=>by simp at hm,fun i m j hm=>by simp at hm,fun i m j x hm=>by simp at hm,fun i m j x hm=>by simp at hm,fun i m j x hm=>by simp at hm,fun i m j x hm=>by simp at hm⟩,h.blk,h.tag,h.row,h.eF,fun q hq=>(h.part q hq).blk,fun q hq=>(h.part q hq).t1,fun q hq=>?_,fun q hq=>(h.part q hq).t2,fun q hq=>?_,fun q hq=>(h.part q hq).t3,fun q hq=>⟨fun l hl=>absurd rfl hl,fun i m x hm=>by simp at hm⟩,?_,h.iJ,fun i m hm=>by simp at hm,fun i m hm=>by simp at hm,fun i m hm=>by simp at hm,fun i m hm=>by simp at hm,fun i m q hm=>by simp at hm,fun i m q hm=>by simp at hm,fun i m q hm=>by simp at hm,fun i m q j hm=>by simp at hm,⟨h.rC.congr (fun kl=>?_),h.iq,fun i m hm=>by simp at hm,fun i m hm=>by simp at hm,fun i m hm=>by simp at hm,fun i m hm=>by simp at hm,fun i m q x hm=>by simp at hm,fun i m q x hm=>by simp at hm,fun i m hm=>by simp at hm,fun i m q hm=>by simp at hm⟩,fun i m hm=>by simp at hm⟩
 ·refine(h.part q hq).kept.congr (fun kl=>?_);cases kl with
  |int kd n=>cases kd<;>first|rfl|simp[bM,bI]
  |_=>rfl
 ·refine(h.part q hq).vis.congr (fun kl=>?_);cases kl<;>simp[Cy]
 ·refine h.rE.congr (fun kl=>?_);cases kl with
  |int kd n=>cases kd<;>first|rfl|simp[cQ,bI]
  |_=>rfl
 ·cases kl with
  |int kd n=>cases kd<;>first|rfl|simp[dK,ed]
  |_=>rfl
def yq(w:af):Below w.heap.size w (bT w.drew):=
 (((Below.refl _ w).drew.alloc (zae _) _).alloc (by simp) _).alloc (by simp;omega) _
def A8(w:af):(bT w.drew).heap.size=w.heap.size+3:=by simp[bT]
def Lr{wr:af}{τ τ1:Nat->Tag}{mode:Int}{cG:aj}{pb kb vb:Nat->Nat}(hM:A7 wr τ1 aO (w.heap.size+2) w.heap.size (w.heap.size+1) mode k cG pb kb vb w.heap.size)(hB:Below w.heap.size w wr)(HT:∀k,k<w.heap.size->τ1 k=τ k)
 (hO:w2.ownsRow 0 130 1 v2 (k+1) ((List.range k).map (fun q=>ptr (pb q))++ [.pointer (some ⟨wr.heap.size+2,0,none⟩)])) (hG:((bT wr.drew).alloc o).grownBy w2 cG.ownBlock) (hA:v2.ownBlock=cG.ownBlock\/v2.ownBlock=some ((bT wr.drew).alloc o).heap.size):
 ∃(τ':Nat->Tag) (pb' kb' vb':Nat->Nat),A7 (w2.setCell ⟨w.heap.size+2,1,none⟩ v2) τ' aO (w.heap.size+2) w.heap.size (w.heap.size+1) mode (k+1) v2 pb' kb' vb' w.heap.size/\Below w.heap.size w (w2.setCell ⟨w.heap.size+2,1,none⟩ v2)/\∀k,k<w.heap.size->τ' k=τ k:=by
 have gW:=hM.blk.lt;have PD:=hM.rE.lt;have hps:=A8 wr;have XQ:=yq wr;have hsz:wr.heap.size+4<=w2.heap.size:=by have:=hG.size;simp at this;omega
 have YN:=hB.size;have zb:∀j,j<wr.heap.size+3->j≠w.heap.size+2->cG.ownBlock≠some j->(w2.setCell ⟨w.heap.size+2,1,none⟩ v2).heap[j]?=(bT wr.drew).heap[j]? :=fun j hj h1 h2=>
  (zac _ _ _ _ h1).trans ((hG.block j (by simp;omega) (fun e=>h2 e.symm)).trans (zad _ _ _ (by omega)))
 have zo:∀j,j<wr.heap.size->j≠w.heap.size+2->cG.ownBlock≠some j->(w2.setCell ⟨w.heap.size+2,1,none⟩ v2).heap[j]?=wr.heap[j]? :=fun j hj h1 h2=>(zb j (by omega) h1 h2).trans (XQ.block j hj);have hpl:∀j,cG.ownBlock=some j->j<wr.heap.size:=fun j hj=>(aQ hM.row j hj).2;have hv:∀j,v2.ownBlock=some j->cG.ownBlock=some j\/wr.heap.size+4<=j:=fun j hj=>by
  rcases hA with e|e
  ·exact Or.inl (by rw[<-e];exact hj)
  ·rw[hj]at e;have:=Option.some.inj e;simp at this;exact Or.inr (by omega)
 have MX:∀{j a c:Nat},τ1 j=(aO,a,c)->a≠1->cG.ownBlock≠some j:=fun ht ha e=>by have:=hM.eF _ e;rw[ht]at this;simp at this;omega
 have hst:∀{j a c:Nat},τ1 j=(aO,a,c)->a≠0->j≠w.heap.size+2:=fun ht ha e=>by have:=hM.tag;rw[<-e,ht]at this;simp at this;omega
 have hrb:cG.ownBlock≠some (w.heap.size+2):=MX hM.tag (by omega);have j6:∀j,j<wr.heap.size->(if j=wr.heap.size+2 then(aO,2,k)else if j=wr.heap.size then(aO,3,k)else if j=wr.heap.size+1 then(aO,4,k)else if v2.ownBlock=some j then(aO,1,0)else τ1 j)=τ1 j:=by
  intro j hj;rw[if_neg (by omega),if_neg (by omega),if_neg (by omega)];split
  ·rename_i e;rcases hv j e with e1|e1
   ·rw[hM.eF j e1]
   ·omega
  ·rfl
 refine⟨fun j=>if j=wr.heap.size+2 then(aO,2,k)else if j=wr.heap.size then(aO,3,k)else if j=wr.heap.size+1 then(aO,4,k)else if v2.ownBlock=some j then(aO,1,0)else τ1 j,
  fun q=>if q=k then wr.heap.size+2 else pb q,fun q=>if q=k then wr.heap.size else kb q,fun q=>if q=k then wr.heap.size+1 else vb q,⟨?_,?_,?_,?_,?_,?_,?_,fun j hj=>?_,fun q hq=>?_,hM.lo.1,hM.lo.2.1,hM.lo.2.2.1,fun j hj=>?_⟩,?_,?_⟩
 ·have h1:bg w2 (w.heap.size+2) _ _:=hM.blk.of_eq ((hG.block _ (by simp;omega) (fun e=>hrb e.symm)).trans ((zad _ _ _ (by omega)).trans (XQ.block _ gW)));simpa using h1.set 1 v2
 ·rw[j6 _ gW,hM.tag]
 ·exact hM.rE.of_eq (zo _ PD (by omega) (MX hM.iJ (by omega)))
 ·rw[j6 _ PD,hM.iJ]
 ·exact hM.rC.of_eq (zo _ hM.rC.lt (by omega) (MX hM.iq (by omega)))
 ·rw[j6 _ hM.rC.lt,hM.iq]
 ·have e:(List.range (k+1)).map (fun q=>ptr (if q=k then wr.heap.size+2 else pb q))=(List.range k).map (fun q=>ptr (pb q))++ [.pointer (some ⟨wr.heap.size+2,0,none⟩)]:=by
   rw[List.range_succ,List.map_append];congr 1
   ·refine List.map_congr_left (fun q hq=>?_);have:q≠k:=by have:=zau.1 hq;omega
    simp[this]
   ·simp[ptr]
  rw[e];exact aH hO (fun j hj=>zac _ _ _ _ (fun e=>by
   rcases hv j hj with e1|e1
   ·exact hrb (by rw[e1,e])
   ·have:j=w.heap.size+2:=e;omega))
 ·rcases hv j hj with e1|e1
  ·rw[j6 j (hpl j e1),hM.eF j e1]
  ·rw[if_neg (by omega),if_neg (by omega),if_neg (by omega),if_pos hj]
 ·by_cases e:q=k
  ·subst e;simp only[if_true];have hno:∀j,wr.heap.size<=j->cG.ownBlock≠some j:=fun j hj e=>by have:=hpl j e;omega
   have f3:∀(o1 o2:Obj) (j:Nat),j<wr.heap.size+1->((wr.drew.alloc o1).alloc o2).heap[j]?=(wr.drew.alloc o1).heap[j]? :=fun o1 o2 j hj=>zad _ _ _ (by simp;omega);refine⟨?_,?_,?_,?_,?_,?_⟩
   ·have h1:bg (bT wr.drew) (wr.heap.size+2) #[eN,fV,.map (some wr.heap.size),.map (some (wr.heap.size+1))] 202:=by have:=bg.new ((wr.drew.alloc (.map #[] 0)).alloc (.map #[] 0)) #[eN,fV,.map (some wr.drew.heap.size),.map (some (wr.drew.heap.size+1))] 202;simpa[bT]using this
    exact h1.of_eq (zb _ (by omega) (by omega) (hno _ (by omega)))
   ·have h1:aS (bT wr.drew) prog 3 wr.heap.size (fun _=>none):=(aS.made wr.drew prog 3).of_eq ((zad _ _ _ (by show wr.heap.size< ((wr.drew.alloc _).alloc _).heap.size;simp;omega)).trans (f3 _ _ _ (by show wr.heap.size<wr.heap.size+1;omega)));exact h1.of_eq (zb _ (by omega) (by omega) (hno _ (by omega)))
   ·have h1:aS (bT wr.drew) prog 9 (wr.heap.size+1) (fun _=>none):=by have:=(aS.made (wr.drew.alloc (.map #[] 0)) prog 9).of_eq (w':=bT wr.drew) (zad _ _ _ (by simp));simpa using this
    exact h1.of_eq (zb _ (by omega) (by omega) (hno _ (by omega)))
   ·simp
   ·simp
   ·simp
  ·have fA:q<k:=by omega
   have hF:=hM.part q fA;simp only[e,if_false];exact⟨hF.blk.of_eq (zo _ hF.blk.lt (hst hF.t1 (by omega)) (MX hF.t1 (by omega))),hF.kept.of_eq (zo _ hF.kept.lt (hst hF.t2 (by omega)) (MX hF.t2 (by omega))),hF.vis.of_eq (zo _ hF.vis.lt (hst hF.t3 (by omega)) (MX hF.t3 (by omega))),
    by rw[j6 _ hF.blk.lt,hF.t1],by rw[j6 _ hF.kept.lt,hF.t2],by rw[j6 _ hF.vis.lt,hF.t3]⟩
 ·rcases hv j hj with e1|e1
  ·exact hM.lo.2.2.2 j e1
  ·omega
 ·refine⟨hG.os.trans (XQ.os.trans hB.os),hG.tape.trans (XQ.tape.trans hB.tape),hG.output.trans (XQ.output.trans hB.output),by simp[World.setCell];omega,fun j hj=>?_⟩;exact(zo j (by omega) (by omega) (fun e=>by have:=hM.lo.2.2.2 j e;omega)).trans (hB.block j hj)
 ·intro j hj;simp only;rw[j6 j (by omega)];exact HT j hj
def Y5(parts mode:Int)(w:af)(h1:1<=parts)(h2:parts<=4)(h:oL mode=false):
 Calls prog 34 #[.int .i64 parts,.int .i64 mode] w fun e w'=>e=.returned (.tuple #[.pointer none,.int .i64 2])/\w'=w:=by
 have g1:¬parts<1:=by omega
 have g2:¬4<parts:=by omega
 have c:=yc mode w;rw[h]at c;clear h;go_enter func34,ntmps34;go_wp2_with (go_at_call 66;refine c.mono ?_;rintro e w' ⟨rfl,rfl⟩)
 go_ret2
 exact⟨rfl,rfl⟩
def AI(parts mode:Int)(w:af)(τ:Nat->Tag)(aO:Nat)(h1:1<=parts)(h2:parts<=4)(h:oL mode=true):
 Calls prog 34 #[.int .i64 parts,.int .i64 mode] w fun e w'=>∃τ' sb A,e=.returned (.tuple #[ptr sb,.int .i64 0])/\a9 w' τ' aO sb {parts:=parts.toNat,mode:=mode,ws:= [],rs:= []} A/\Below w.heap.size w w'/\(∀k,k<w.heap.size->τ' k=τ k)/\w.heap.size<=sb:=by
 have g1:¬parts<1:=by omega
 have g2:¬4<parts:=by omega
 have c:=yc mode w;rw[h]at c;clear h;have hmm:=@run_makeMap prog;obtain⟨pi,hpi,hp0,agQ,SH⟩:=info_parts PL;obtain⟨n,rfl⟩:=zao (show 0<=parts by omega);go_enter func34,ntmps34;go_wp2_with (go_at_call 66;refine c.mono ?_;rintro e w' ⟨rfl,hw⟩;obtain rfl:=hw.symm)
 go_loopw [22] (fun u wr=>∃(k:Nat) (τ':Nat->Tag) (cG:aj) (pb kb vb:Nat->Nat),k<=n/\u=.int .i64 k/\A7 wr τ' aO (w.heap.size+2) w.heap.size (w.heap.size+1) mode k cG pb kb vb w.heap.size/\Below w.heap.size w wr/\Hid (∀k,k<w.heap.size->τ' k=τ k)) (fun u _=>n-(intOf u).toNat)
 case atStart=>
  refine⟨0,fun k=>if k=w.heap.size+2 then(aO,0,0)else if k=w.heap.size then(aO,5,0)else if k=w.heap.size+1 then(aO,10,0)else τ k,.slice none 0 0,fun _=>0,fun _=>0,fun _=>0,zak _,rfl,⟨?_,by simp,(aS.made w prog 3).of_eq ((zad _ _ _ (by simp;omega)).trans (zad _ _ _ (by simp))),by simp,?_,by simp,World.ownsRow_nil _ _ _ _,fun j hj=>(by cases hj),fun q hq=>(by omega),by omega,by omega,by omega,fun j hj=>(by cases hj)⟩,?_,fun k hk=>?_⟩
  ·have:=bg.new ((w.alloc (.map #[] 0)).alloc (.map #[] 0)) #[.int .i64 mode,.slice none 0 0,eN,fV,.int .i64 0,.int .i64 0,.map (some w.heap.size),.map (some (w.heap.size+1))] 105;simpa[eN,fV]using this
  ·have:=(aS.made (w.alloc (.map #[] 0)) prog 3)
   have e:(w.alloc (.map #[] 0)).heap.size=w.heap.size+1:=by simp
   rw[e]at this;exact this.of_eq (zad _ _ _ (by simp))
  ·exact(((Below.refl _ _).alloc (zae _) _).alloc (by simp) _).alloc (by simp;omega) _
  ·have e1:k≠w.heap.size+2:=by omega
   have e2:k≠w.heap.size:=by omega
   have e3:k≠w.heap.size+1:=by omega
   simp[e1,e2,e3]
 case round=>
  obtain⟨k,τ1,cG,pb,kb,vb,hk,rfl,hM,hB,HT⟩:=hrel;by_cases hlt:k<n
  ·obtain⟨av,cv,hpv⟩:=cy hM.row;have c1:wr.cell? ⟨w.heap.size+2,1,none⟩=some cG:=hM.blk.cell (o:=1) rfl;have wJ:=hM.blk.lt;have HS:Hid (∀(w2:af) (v2:aj) (o:Obj),w2.ownsRow 0 130 1 v2 (k+1) ((List.range k).map (fun q=>ptr (pb q))++ [.pointer (some ⟨wr.heap.size+2,0,none⟩)])->((bT wr.drew).alloc o).grownBy w2 cG.ownBlock->(v2.ownBlock=cG.ownBlock\/v2.ownBlock=some ((bT wr.drew).alloc o).heap.size)->
    ∃(τ':Nat->Tag) (pb' kb' vb':Nat->Nat),A7 (w2.setCell ⟨w.heap.size+2,1,none⟩ v2) τ' aO (w.heap.size+2) w.heap.size (w.heap.size+1) mode (k+1) v2 pb' kb' vb' w.heap.size/\Below w.heap.size w (w2.setCell ⟨w.heap.size+2,1,none⟩ v2)/\∀k,k<w.heap.size->τ' k=τ k):=
    fun w2 v2 o a1 a2 a3=>Lr hM hB HT.out a1 a2 a3
   have Ru:Below wr.heap.size wr (bT wr.drew):=yq wr;have hPs:(bT wr.drew).heap.size=wr.heap.size+3:=A8 wr;have cP:(bT wr.drew).cell? ⟨w.heap.size+2,1,none⟩=some cG:=(Ru.cell (p:=⟨w.heap.size+2,1,none⟩) wJ).trans c1;have cPa:∀o,((bT wr.drew).alloc o).cell? ⟨w.heap.size+2,1,none⟩=some cG:=fun o=>(zah (w:=bT wr.drew) (zad _ _ _ (by rw[hPs];simp only;omega))).trans cP;have abY:(bT wr.drew).ownsRow 0 130 1 cG k ((List.range k).map (fun q=>ptr (pb q))):=aH hM.row (fun j hj=>Ru.block j (aQ hM.row j hj).2);have hrb:cG.ownBlock≠some (w.heap.size+2):=fun e=>by have h1:=hM.eF _ e;rw[hM.tag]at h1;simp at h1
   have HBG:Hid (∀(w2:af) (o:Obj),((bT wr.drew).alloc o).grownBy w2 cG.ownBlock->bg w2 (w.heap.size+2) #[.int .i64 mode,cG,eN,fV,.int .i64 0,.int .i64 0,.map (some w.heap.size),.map (some (w.heap.size+1))] 105):=
    fun w2 o hG=>hM.blk.of_eq ((hG.block _ (by simp;omega) (fun e=>hrb e.symm)).trans ((zad _ _ _ (by omega)).trans (Ru.block _ wJ)))
   clear hPs;have cn:=EH wr.drew;unfold ptr at cn;have hdz:wr.drew.heap.size+2=wr.heap.size+2:=rfl;rw[hdz]at cn;subst hpv;generalize (List.range k).map (fun q=>ptr (pb q))=xs at *;go_wp2_with fail
   go_region_law (first|(refine iD rfl (.tmp 28) (.tmp 30) 94 rfl 0 130 pi _ 1 8 underlying94 hpi hp0 agQ SH rfl (by decide) (.slice av k cv) k xs rfl (abY.alloc _) ⟨_,0,none⟩ 1 1 [.pointer (some ⟨wr.heap.size+2,0,none⟩)] rfl rfl (cell_one_new _ _ _) (by simp[Value.oneCell']) (by unfold maxLen;omega) (by omega) (zak _) ?_;intro v2 w2 vR oG Ja hA2;have j9:=HBG.out w2 _ oG;have d1:=j9.cell (o:=1) (v:=.slice av k cv) rfl;have e1:=j9.frozen 1;obtain⟨g2,cap2,Hf,-⟩:=cJ vR (by omega);rw[Hf])|(go_simp;go_at_call 67;refine cn.mono ?_;rintro e w5 ⟨rfl,rfl⟩))
   all_goals
    obtain⟨τ2,pb2,kb2,vb2,r1,r2,r3⟩:=HS.out w2 v2 _ vR oG hA2
    have R3:Hid (∀k,k<w.heap.size->τ2 k=τ k):=r3
    rw[Hf]at r1 r2
    clear r3 cn
    go_wp2_with fail
    go_roundw
    case rel=>exact⟨k+1,τ2,_,pb2,kb2,vb2,by omega,by go_num,r1,r2,R3⟩
    case measure=>simp[intOf];omega
  ·have hkn:k=n:=by omega
   obtain⟨A,hA⟩:=hM.rep (by omega) (by omega);go_wp2_with fail
   go_ret2
   refine⟨τ1,w.heap.size+2,A,rfl,?_,hB,HT.out,by omega⟩;rw[Int.toNat_natCast,<-hkn];exact hA
end
section
open Go Go.RowKit
def Lv{ws:List MW}{key:ah}{m:MW}(hm:ws[k]?=some m)(h1:aP m.items key=true)(h2:m.comm (partOf n key).toNat=true):oD n ws key (k+1)=k+1:=by simp only[oD,hm];rw[if_pos (by rw[h1,h2];rfl)]
def z4{l:List MR}{r r':MR}(hr:l[i]?=some r)(hf:r'.fin=r.fin):bq (l.set i r')=bq l:=by
 unfold bq;induction l generalizing i with
 |nil=>simp at hr
 |cons x l ih=>
  cases i with
  |zero=>simp at hr;subst hr;simp[List.countP_cons,hf]
  |succ i=>simp at hr;simp[List.countP_cons,ih hr]
section
variable {w:af}{τ:Nat->Tag}{aO b:Nat}{s:MS}
def LA{key:ah}(hf:fP s n=none):kE s n key=(7,s):=by unfold kE;rw[hf]
def P2{key:ah}{r:MR}(hf:fP s n=some r)(hk:¬bH r.keys key<r.keys.length):kE s n key=(4,s):=by unfold kE;rw[hf];simp only[if_neg hk]
def Ly{key:ah}{r:MR}(hf:fP s n=some r)(hj:bH r.keys key=j)(hl:j<r.keys.length)(ha:r.asked j=true):kE s n key=(10,s):=by unfold kE;rw[hf];simp only[hj,if_pos hl,ha,if_true]
def TC{key:ah}{r:MR}(hf:fP s n=some r)(hi:(n-1).toNat=i)(hj:bH r.keys key=j)(hl:j<r.keys.length)(ha:r.asked j=false):
 kE s n key=(0,{s with rs:=s.rs.set i {r with asked:=put r.asked j,found:=fun q=>if q=j then aY s key else r.found q}}):=by unfold kE;rw[hf];simp only[hj,if_pos hl,ha,V8,w9,hi];rfl
end
end
section
open Go Go.RowKit
def Tb:(prog.info? 3).map (fun i=>(i.zero,i.size,i.bytes))=some (some (.int .i64 0),1,8):=by kernel_rfl
def Tz{a:List ah}(h:bK x=false):fy a (x :: r)=4:=by simp[fy,h]
def Lu{a:List ah}(h:bK x=true)(h2:cg a x=true):fy a (x :: r)=5:=by simp[fy,h,h2]
def XR{a:List ah}(h:bK x=true)(h2:cg a x=false):fy a (x :: r)=fy (a++ [x]) r:=by simp[fy,h,h2]
def gp{l:List ah}:cg l x=true↔x∈l:=by simp only[cg,List.any_eq_true,decide_eq_true_eq];exact⟨fun⟨y,hy,e⟩=>e▸hy,fun h=>⟨x,h,rfl⟩⟩
def P8:∀{a:List ah},fy a r=0->(∀x∈r,bK x=true/\x ∉ a)/\r.Nodup:=by
 induction r with
 |nil=>intro a _;exact⟨fun x hx=>by simp at hx,List.nodup_nil⟩
 |cons y r ih=>
  intro a h;simp only[fy]at h;split at h
  ·cases h
  ·rename_i hg;split at h
   ·cases h
   ·rename_i hn;obtain⟨h1,h2⟩:=ih h;have hya:y ∉ a:=fun e=>hn (gp.2 e);refine⟨fun x hx=>?_,List.nodup_cons.2 ⟨fun e=>(h1 y e).2 (by simp),h2⟩⟩;rcases List.mem_cons.1 hx with rfl|hx
    ·exact⟨by simpa using hg,hya⟩
    ·exact⟨(h1 x hx).1,fun e=>(h1 x hx).2 (List.mem_append_left _ e)⟩
def yw(h:L[k]?=some x):L.drop k=x :: L.drop (k+1):=by obtain⟨hk,rfl⟩:=List.getElem?_eq_some_iff.1 h;exact zaq hk
def PM(h:L[k]?=some x):L.take (k+1)=L.take k++ [x]:=by obtain⟨hk,rfl⟩:=List.getElem?_eq_some_iff.1 h;exact zax hk
def xO{key:ah}(h:∀j x,j<k->L[j]?=some x->x≠key):cg (L.take k) key=false:=by
 cases hh:cg (L.take k) key
 ·rfl
 ·have hx:=gp.1 hh;obtain⟨j,hj,he⟩:=List.mem_iff_getElem.1 hx;simp only[List.length_take]at hj;refine absurd ?_ (h j key (by omega) ?_)
  ·rfl
  ·rw[List.getElem_take]at he;rw[<-he];exact zag (by omega)
def xN{key:ah}(hj:j<k)(hx:L[j]?=some x)(h:x=key):cg (L.take k) key=true:=by
 refine gp.2 ?_;have:(L.take k)[j]?=some x:=by rw[List.getElem?_take_of_lt hj];exact hx
 rw[<-h];exact zal this
section
variable {w:af}{τ:Nat->Tag}{aO b:Nat}{s:MS}
end
end
section
open Go Go.RowKit Go.MuLone
section
variable {w:af}
def Lt(key:ah)(gb go:Nat)(L:List ah)(cap:Nat)(h8:L.length<=8)(hcell:∀(k:Nat) (x:ah),L[k]?=some x->w.cell? ⟨gb,go+k,none⟩=some (.string x))(n:Nat)(hn:n<=L.length):
 Calls prog 106 #[.slice (some ⟨gb,go,none⟩) n cap,.string key] w fun e w'=>(∃i:Int,e=.returned (.int .i64 i)/\(cg (L.take n) key=decide (0<=i)))/\w'=w:=by
 go_enter func106,ntmps106;go_wp2_with fail
 go_loop [8] (fun u=>∃k:Nat,k<=n/\u=.int .i64 k/\Hid (∀j y,j<k->L[j]?=some y->y≠key)) (fun u=>n-(intOf u).toNat)
 case atStart=>exact⟨0,zak _,rfl,fun j y hj=>by omega⟩
 case round=>
  obtain⟨k,hk,rfl,HO⟩:=hrel;by_cases hlt:k<n
  ·have MZ:k<L.length:=by omega
   have hx:L[k]?=some L[k]:=zag MZ;have ck:=hcell k _ hx;clear hcell;generalize L[k]=kk at *;by_cases he:key=kk
   ·have Hr:Hid (cg (L.take n) key=true):=xN hlt hx he.symm;have hb:=pS he;clear he hx;go_wp2_with fail
    go_ret;exact⟨⟨k,rfl,by rw[Hr.out];simp⟩,rfl⟩
   ·have WZ:Hid (∀j y,j<k+1->L[j]?=some y->y≠key):=by
     intro j y hj hy;by_cases e:j=k
     ·subst e;rw[hx]at hy;cases hy;exact fun e=>he e.symm
     ·exact HO.out j y (by omega) hy
    have hb:=pU he;clear he hx;go_wp2_with fail
    go_round
    case rel=>exact⟨k+1,by omega,by go_num,WZ⟩
    case measure=>simp[intOf];omega
  ·have Hr:Hid (cg (L.take n) key=false):=xO (fun j y hj=>HO.out j y (by omega));clear hcell;go_wp2_with fail
   go_ret;exact⟨⟨-1,rfl,by rw[Hr.out];simp⟩,rfl⟩
def zZ(key:ah)(gb go:Nat)(L:List ah)(cap:Nat)(h8:L.length<=8)(hcell:∀(k:Nat) (x:ah),L[k]?=some x->w.cell? ⟨gb,go+k,none⟩=some (.string x))(n:Nat)(hn:n<=L.length):
 Calls prog 69 #[.slice (some ⟨gb,go,none⟩) n cap,.string key] w fun e w'=>e=.returned (.bool (cg (L.take n) key))/\w'=w:=by
 have c:=Lt key gb go L cap h8 hcell n hn;clear hcell;go_enter func69,ntmps69;go_wp2_with fail
 refine c.mono ?_;rintro e w' ⟨⟨i,rfl,Hi⟩,rfl⟩;have HI:Hid (cg (L.take n) key=decide (0<=i)):=Hi;clear c Hi;go_wp2_with fail
 go_ret;exact⟨cL HI.out.symm,rfl⟩
def yt(a:Option aA)(L:List ah)(cap:Nat)(hL:L.length<=maxLen)(hs:L.length<1\/8<L.length):
 Calls prog 36 #[.slice a L.length cap] w fun e w'=>e=.returned (.int .i64 (gY L))/\w'=w:=by
 have Hr:Hid (gY L=3):=by unfold Hid gY;rw[if_pos hs]
 unfold maxLen at hL;have cz:=nF L.length w;have hg:gj L.length=false:=by
  unfold gj;rcases hs with e|e
  ·rw[decide_eq_false (by omega)];rfl
  ·rw[Bool.and_eq_false_iff];exact Or.inr (decide_eq_false (by omega))
 rw[hg]at cz;clear hs hg;go_enter func36,ntmps36;go_wp2_with (go_at_call 68;refine cz.mono ?_;rintro e w' ⟨rfl,rfl⟩)
 go_ret;exact⟨gX Hr.out.symm,rfl⟩
def yu(gb go:Nat)(L:List ah)(cap:Nat)(h1:1<=L.length)(h8:L.length<=8)(Tq:L.length<=cap)(hcm:cap<=maxLen)(hz:∀x∈L,x.size<=maxLen)
 (hcell:∀(k:Nat) (x:ah),L[k]?=some x->w.cell? ⟨gb,go+k,none⟩=some (.string x)):
 Calls prog 36 #[.slice (some ⟨gb,go,none⟩) L.length cap] w fun e w'=>e=.returned (.int .i64 (gY L))/\w'=w:=by
 have HC:Hid (gY L=fy [] L):=by unfold Hid gY;rw[if_neg (by omega)]
 unfold maxLen at hcm;have cz:=nF L.length w;have zX:gj L.length=true:=by unfold gj;rw[decide_eq_true (show (1:Int)<=L.length by omega),decide_eq_true (show (L.length:Int)<=8 by omega)];rfl
 rw[zX]at cz;clear zX;go_enter func36,ntmps36;go_wp2_with (go_at_call 68;refine cz.mono ?_;rintro e w' ⟨rfl,hw0⟩;obtain rfl:=hw0.symm)
 clear cz;go_loop [11] (fun u=>∃k:Nat,k<=L.length/\u=.int .i64 k/\Hid (fy [] L=fy (L.take k) (L.drop k))) (fun u=>L.length-(intOf u).toNat)
 case atStart=>exact⟨0,zak _,rfl,by simp[Hid]⟩
 case round=>
  obtain⟨k,hk,rfl,HK⟩:=hrel;by_cases hlt:k<L.length
  ·have hx:L[k]?=some L[k]:=zag hlt;have c1:=hcell k _ hx;have hs1:=hz _ (zar hlt);have ck:=uH L[k] w hs1;have cc:=zZ (w:=w) L[k] gb go L cap h8 hcell k hk;generalize L[k]=kk at *;unfold maxLen at hs1;cases xY:bK kk with
   |false=>
    have Hr:Hid (gY L=4):=by unfold Hid;rw[HC.out,HK.out,yw hx,Tz xY]
    rw[xY]at ck;clear xY hx hcell cc;go_wp2_with (go_at_call 49;refine ck.mono ?_;rintro e w' ⟨rfl,rfl⟩)
    go_ret;exact⟨gX Hr.out.symm,rfl⟩
   |true=>
    rw[xY]at ck;cases hh:cg (L.take k) kk with
    |true=>
     have Hr:Hid (gY L=5):=by unfold Hid;rw[HC.out,HK.out,yw hx,Lu xY hh]
     rw[hh]at cc;clear xY hx hh hcell;go_wp2_with (first|(go_at_call 49;refine ck.mono ?_;rintro e w' ⟨rfl,rfl⟩)|(go_at_call 69;refine cc.mono ?_;rintro e w' ⟨rfl,rfl⟩))
     go_ret;exact⟨gX Hr.out.symm,rfl⟩
    |false=>
     have HK':Hid (fy [] L=fy (L.take (k+1)) (L.drop (k+1))):=by unfold Hid;rw[HK.out,yw hx,XR xY hh,PM hx]
     rw[hh]at cc;clear xY hx hh hcell;go_wp2_with (first|(go_at_call 49;refine ck.mono ?_;rintro e w' ⟨rfl,rfl⟩)|(go_at_call 69;refine cc.mono ?_;rintro e w' ⟨rfl,rfl⟩))
     go_round
     case rel=>exact⟨k+1,by omega,by go_num,HK'⟩
     case measure=>simp[intOf];omega
  ·have Hr:Hid (gY L=0):=by unfold Hid;rw[HC.out,HK.out,show k=L.length from by omega,List.drop_length];rfl
   clear hcell;go_wp2_with fail
   go_ret;exact⟨gX Hr.out.symm,rfl⟩
end
end
section
open Go Go.RowKit Go.MuLone
open Go.Maps (Keyed)
def Hit(n:Int)(ws:List MW)(key:ah)(i:Nat):Prop:=∃m,ws[i]?=some m/\aP m.items key=true/\m.comm (partOf n key).toNat=true
def PO{ws:List MW}{key:ah}:∀(k v:Nat),v<=k->(v≠0->Hit n ws key (v-1))->(∀i,i<k->Hit n ws key i->i+1<=v)->oD n ws key k=v:=by
 intro k;induction k with
 |zero=>intro v h1 _ _;simp[oD];omega
 |succ k ih=>
  intro v h1 hs ht;by_cases hh:Hit n ws key k
  ·have:=ht k (by omega) hh;obtain⟨m,hm,a,b⟩:=hh;rw[Lv hm a b];omega
  ·have hv:v<=k:=by
    apply Classical.byContradiction;intro e;have:v=k+1:=by omega
    subst this;exact hh (hs (by omega))
   have hr:=ih v hv hs (fun i hi=>ht i (by omega));rw[<-hr];show oD n ws key (k+1)=_;simp only[oD];split
   ·rename_i m hm;rw[if_neg (fun e=>hh ⟨m,hm,by simpa using e⟩)]
   ·rfl
def EI(w:af):(zeroValue 106).run prog w=.ok (.pointer none) w:=by rw[Tryz.zeroValue106]
def mE(w:af):(zeroValue 139).run prog w=.ok (.pointer none) w:=by rw[Tryz.zeroValue139]
section
variable {w:af}{τ:Nat->Tag}{aO b:Nat}{s:MS}{A:SA}
def a9.PR(h:a9 w τ aO b s A)(key:ah):A.vis (partOf s.parts key).toNat key.data.toList=aY s key:=by
 have hp1:=h.ok.p1;obtain⟨h0,h1⟩:=dW s.parts key (by omega);have hq:(partOf s.parts key).toNat<s.parts:=by omega
 have hv:=h.lB _ hq;symm;unfold aY;refine PO _ _ ?_ (fun hne=>?_) (fun i hi hh=>?_)
 ·by_cases e:A.vis (partOf s.parts key).toNat key.data.toList=0
  ·omega
  ·obtain⟨m,hm,_⟩:=hv.seen _ e;have:=aM hm;omega
 ·obtain⟨m,hm,hc,x,hx,hxl,_⟩:=hv.seen _ hne;refine⟨m,hm,?_,hc⟩;simp only[aP,List.any_eq_true,decide_eq_true_eq];exact⟨x,hx,WideShapes.bytes_inj hxl⟩
 ·obtain⟨m,hm,hk,hc⟩:=hh;simp only[aP,List.any_eq_true,decide_eq_true_eq]at hk;obtain⟨x,hx,rfl⟩:=hk;exact hv.top i m x hm hc hx (by omega)
def gR{o:Nat}{t:az}(h:bg w b c t)(hv:c[o]?=some v):w.setCell ⟨b,o,none⟩ v=w:=by
 have e:(w.setCell ⟨b,o,none⟩ v).heap=w.heap:=by
  apply zam;intro i;by_cases ei:i=b
  ·subst ei;have h1:(w.setCell ⟨i,o,none⟩ v).heap[i]?=some (.cells (c.setIfInBounds o v) t (0,0)):=h.set o v;have h2:w.heap[i]?=some (.cells c t (0,0)):=h;rw[h1,h2];congr 2;obtain⟨ho,hv'⟩:=zai.1 hv;apply zam;intro j;by_cases ej:o=j
   ·subst ej;simp[ho,hv']
   ·simp[ej]
  ·rw[zac _ _ _ _ ei]
 show {w with heap:=(w.setCell ⟨b,o,none⟩ v).heap}=w;rw[e]
def EJ:(prog.info? 144).map (·.size)=some 4:=by kernel_rfl
def PS(pb kb vb:Nat)(f:Lit->Option aj)(hb:bg w pb #[eN,fV,.map (some kb),.map (some vb)] 202)(hM:aS w prog 9 vb f)(key:ah)(hk:key.size<=maxLen)(v:Nat)(hf:(f (.string key.data.toList)).getD (.int .i64 0)=.int .i64 v):
 Calls prog 74 #[ptr pb,.string key] w fun e w'=>e=.returned (.agg #[.int .i64 v,.bool false,.string ⟨#[]⟩,.nilIface])/\Below w.heap.size w w':=by
 have hpl:=hb.lt;have hvl:=hM.lt;have hne:=dm hb hM;have iz:bg (w.alloc (.cells #[.int .i64 0,.bool false,.string ⟨#[]⟩,.nilIface] 144)) pb _ _:=hb.of_eq (zad _ _ _ hpl);have nZ:aS (w.alloc (.cells #[.int .i64 0,.bool false,.string ⟨#[]⟩,.nilIface] 144)) prog 9 vb f:=hM.of_eq (zad _ _ _ hvl);have hT:=bg.new w #[.int .i64 0,.bool false,.string ⟨#[]⟩,.nilIface] 144;have hBo:∀k,k<w.heap.size->(w.alloc (.cells #[.int .i64 0,.bool false,.string ⟨#[]⟩,.nilIface] 144)).heap[k]?=w.heap[k]? :=fun k hk=>zad _ _ _ hk;have hsz:(w.alloc (.cells #[.int .i64 0,.bool false,.string ⟨#[]⟩,.nilIface] 144)).heap.size=w.heap.size+1:=by simp
 have hos:(w.alloc (.cells #[.int .i64 0,.bool false,.string ⟨#[]⟩,.nilIface] 144)).os=w.os/\(w.alloc (.cells #[.int .i64 0,.bool false,.string ⟨#[]⟩,.nilIface] 144)).tape=w.tape/\(w.alloc (.cells #[.int .i64 0,.bool false,.string ⟨#[]⟩,.nilIface] 144)).output=w.output:=⟨rfl,rfl,rfl⟩
 unfold ptr;go_enter_defers func74,ntmps74;go_wp2_with fail
 generalize w.alloc (.cells #[.int .i64 0,.bool false,.string ⟨#[]⟩,.nilIface] 144)=wa at *;have c0:wa.cell? ⟨pb,0,none⟩=some (.int .i32 0):=iz.cell (o:=0) rfl;have f0:=iz.frozen 0;refine(lock_free Tryz.bA ⟨pb,0,none⟩ _ c0 f0).mono ?_;rintro e w' ⟨rfl,rfl⟩;have j9:=iz.set 0 (.int .i32 1);have sC:aS (wa.setCell ⟨pb,0,none⟩ (.int .i32 1)) prog 9 vb f:=nZ.of_eq (zac _ _ _ _ (fun e=>hne e.symm));have sn:bg (wa.setCell ⟨pb,0,none⟩ (.int .i32 1)) w.heap.size _ _:=hT.of_eq (zac _ _ _ _ (by simp only;omega));generalize PT:wa.setCell ⟨pb,0,none⟩ (.int .i32 1)=wb at *;have d3:wb.cell? ⟨pb,3,none⟩=some (.map (some vb)):=j9.cell (o:=3) rfl;have t0:=sn.cell (o:=0) (v:=.int .i64 0) rfl;have t1:=sn.cell (o:=1) (v:=.bool false) rfl;have t2:=sn.cell (o:=2) (v:=.string ⟨#[]⟩) rfl;have t3:=sn.cell (o:=3) (v:=.nilIface) rfl;have g0:=sn.frozen 0;have g1:=sn.frozen 1;have g2:=sn.frozen 2;have g3:=sn.frozen 3;have hlk:(Instr.lookup 200 (.map (some vb)) (.string key) false).run prog wb.drew=.ok (.int .i64 v) wb.drew:=by have:=aS.look (w:=wb.drew) (e:=3) sC fT underlying200 (Cz _) (fG hk);rw[hf]at this;exact this
 go_wp2_with fail
 have PU:pb≠w.heap.size:=by omega
 have KC:bg wb.drew w.heap.size _ _:=sn;have TA:∀x,(wb.setCell ⟨w.heap.size,0,none⟩ x).drew.cell? ⟨pb,3,none⟩=some (.map (some vb)):=fun x=>(ij (w:=wb) PU).trans d3;have z0:wb.drew.setCell ⟨w.heap.size,0,none⟩ (.int .i64 0)=wb.drew:=gR KC rfl;have z1:wb.drew.setCell ⟨w.heap.size,1,none⟩ (.bool false)=wb.drew:=gR KC rfl;have z2:wb.drew.setCell ⟨w.heap.size,2,none⟩ (.string ⟨#[]⟩)=wb.drew:=gR KC rfl;have z3:wb.drew.setCell ⟨w.heap.size,3,none⟩ .nilIface=wb.drew:=gR KC rfl;go_region_held3 (fun W=>W.cell? ⟨pb,3,none⟩=some (.map (some vb))) (first|exact TA _|(simp[*];done)) (fail)
 all_goals
  go_wp2_with fail
  have DG:bg (wb.setCell ⟨w.heap.size,0,none⟩ (.int .i64 v)).drew pb _ _:=j9.of_eq (zac _ _ _ _ PU)
  have G2:bg (wb.setCell ⟨w.heap.size,0,none⟩ (.int .i64 v)).drew w.heap.size #[.int .i64 v,.bool false,.string ⟨#[]⟩,.nilIface] 144:=by
   have this:bg (wb.setCell ⟨w.heap.size,0,none⟩ (.int .i64 v)) w.heap.size #[.int .i64 v,.bool false,.string ⟨#[]⟩,.nilIface] 144:=by simpa using sn.set 0 (.int .i64 v)
   exact this
  have OK:bg ((wb.setCell ⟨w.heap.size,0,none⟩ (.int .i64 v)).drew.setCell ⟨pb,0,none⟩ eN) w.heap.size _ _:=G2.of_eq (zac _ _ _ _ (fun e=>PU e.symm))
  refine leaves_cons (f:=38) (args:=#[.pointer (some ⟨pb,0,none⟩)]) (by simp) (by simp[go_sem]) ?_
  refine(unlock_deferred Tryz.bA ⟨pb,0,none⟩ .returning _ (DG.cell (o:=0) rfl) (DG.frozen 0)).mono ?_
  rintro e u' w'' ⟨rfl,rfl,rfl⟩
  refine⟨_,results_cell_row rfl _ _ w.heap.size _ _ (0,0) _ rfl OK underlying144 rfl EJ,rfl,?_,?_,?_,?_,?_⟩
  ·rw[<-PT];exact hos.1
  ·rw[<-PT];exact hos.2.1
  ·rw[<-PT];exact hos.2.2
  ·have:wb.heap.size=wa.heap.size:=by rw[<-PT];simp[World.setCell]
   simp[World.setCell];omega
  ·intro k hk
   refine(eM iz rfl (v:=.int .i32 1) (p:=fun k=>k<w.heap.size) (fun k hk=>?_) k hk).trans (hBo k hk)
   rw[PT]
   exact zac _ _ _ _ (by simp only;omega)
def gP(s:MS)(A:SA)(n:Int):aj×Bool:=match fP s n with
 |some _=>(ptr (A.R.pr (n-1).toNat),true)
 |none=>(.pointer none,false)
def tu(h:a9 w τ aO b s A)(n:Int)(hn: -9223372036854775808<=n)(hn':n<=9223372036854775807):
 Calls prog 40 #[ptr b,.int .i64 n] w fun e w'=>e=.returned (.tuple #[(gP s A n).1,.bool (gP s A n).2])/\vX w w':=by
 have c2:w.cell? ⟨b,2,none⟩=some (.int .i32 0):=h.blk.cell (o:=2) rfl;have c7:w.cell? ⟨b,7,none⟩=some (.map (some A.R.rm)):=h.blk.cell (o:=7) rfl;have f2:=h.blk.frozen 2;have hM:∀v,aS (w.setCell ⟨b,2,none⟩ v) prog 3 A.R.rm (dK s.rs A.R):=fun v=>h.reads.rC.of_eq (zac _ _ _ _ (fun e=>by have:=h.reads.iq;rw[e,h.tag]at this;simp at this));have eD:=fX h.blk (o:=2) rfl (.int .i32 1);unfold eN at eD;obtain⟨fv,aL,hval⟩:∃fv,dK s.rs A.R (.int .i64 n)=fv/\(gP s A n).1=fv.getD (.pointer none)/\(gP s A n).2=fv.isSome:=by refine⟨_,rfl,?_⟩;unfold dK gP fP;cases hf:ed s.rs n<;>simp only[hf]<;>exact⟨rfl,rfl⟩
 rw[hval.1,hval.2];unfold ptr;go_enter_defers func40,ntmps40;go_wp2_with (first|(go_at_call 37;refine(lock_free Tryz.bA ⟨b,2,none⟩ _ c2 f2).mono ?_;rintro e w' ⟨rfl,rfl⟩)|(at_lookup;refine bZ _ rfl _ _ 103 rfl 3 106 eB underlying103 (EI _) A.R.rm (dK s.rs A.R) rfl (hM _) _ (.int .i64 n) rfl (keyOf_int hn hn') fv aL ?_))
 refine leaves_cons (f:=38) (args:=#[.pointer (some ⟨b,2,none⟩)]) (by simp) (by simp[go_sem]) ?_;refine(unlock_deferred Tryz.bA ⟨b,2,none⟩ .returning _ ?_ ?_).mono ?_
 ·exact World.cell?_setCell_same w ⟨b,2,none⟩ (.int .i32 1) c2
 ·simp[f2]
 rintro e u' w'' ⟨rfl,rfl,rfl⟩;exact⟨_,results_tmp2 rfl _ _ _,rfl,eD⟩
end
end
section
open Go Go.RowKit Go.MuLone
open Go.Maps (Keyed)
section
variable {w:af}
def CH:(prog.info? 62).map (·.size)=some 3:=by kernel_rfl
def ya(wb rm:Nat)(c:Array aj)(f:Lit->Option aj)(hb:bg w wb c 105)(e2:c[2]?=some eN)(e7:c[7]?=some (.map (some rm)))(hM:aS w prog 3 rm f)(n:Int)(h1: -9223372036854775808<=n)(h2:n<=9223372036854775807):
 Calls prog 43 #[ptr wb,.int .i64 n] w fun e w'=>e=.returned (.bool (f (.int .i64 n)).isSome)/\aS w' prog 3 rm (del f (.int .i64 n))/\qC w w' rm:=by
 have c2:w.cell? ⟨wb,2,none⟩=some (.int .i32 0):=hb.cell e2;have c5:w.cell? ⟨wb,7,none⟩=some (.map (some rm)):=hb.cell e7;have f2:=hb.frozen 2;have hne:=dm hb hM;have nZ:∀v,aS (w.setCell ⟨wb,2,none⟩ v) prog 3 rm f:=fun v=>hM.of_eq (zac _ _ _ _ (fun e=>hne e.symm));have Y8:(c.setIfInBounds 2 (.int .i32 1))[2]?=some (.int .i32 1):=by have:=(zai.1 e2).1;simp[this]
 unfold ptr;go_enter_defers func43,ntmps43;go_wp2_with (first|(go_at_call 37;refine(lock_free Tryz.bA ⟨wb,2,none⟩ _ c2 f2).mono ?_;rintro e w' ⟨rfl,rfl⟩)|(at_lookup;refine bZ _ rfl _ _ 103 rfl 3 106 eB underlying103 (EI _) rm f rfl (nZ _) _ (.int .i64 n) rfl (keyOf_int h1 h2) _ rfl ?_)|(at_delete;refine oX _ rfl _ _ 103 3 rfl 106 eB underlying103 rm f rfl (nZ _) _ (.int .i64 n) rfl (keyOf_int h1 h2) ?_;intro w1 sC hT))
 have hB:=qC.fK hT;have iz:bg w1 wb _ 105:=(hb.set 2 (.int .i32 1)).of_eq (hB.block wb hne);refine leaves_cons (f:=38) (args:=#[.pointer (some ⟨wb,2,none⟩)]) (by simp) (by simp[go_sem]) ?_;refine(unlock_deferred Tryz.bA ⟨wb,2,none⟩ .returning _ (iz.cell (o:=2) Y8) (iz.frozen 2)).mono ?_;rintro e u' w'' ⟨rfl,rfl,rfl⟩;exact⟨_,results_tmp rfl _ _ _,rfl,sC.of_eq (zac _ _ _ _ (fun e=>hne e.symm)),qC.locked hb e2 _ hB hne⟩
end
end
section
open Go
def JL(v w:af)(n:Nat):Prop:=∀k,k<n->∀q,v.tape (v.drawn+k) q=w.tape (w.drawn+k) q
section
variable {Sb:Nat->Prop}{v w:af}
end
end
section
open Go
inductive NM{α:Type}:Sem α->Prop
 |pure {a:α}:NM (.pure a)
 |load {m:Mode} {a:aA} {k:aj->Sem α}:(∀v,NM (k v))->NM (.load m a k)
 |store {m:Mode} {a:aA} {v:aj} {k:Sem α}:NM k->NM (.store m a v k)
 |new {o:Obj} {k:Nat->Sem α}:(∀r,NM (k r))->NM (.new o k)
 |shape {r:Nat} {k:Option (az×Nat)->Sem α}:(∀s,NM (k s))->NM (.shape r k)
 |freeze {a:aA} {n:Nat} {k:Sem α}:NM k->NM (.freeze a n k)
 |frozen {a:aA} {k:Bool->Sem α}:(∀b,NM (k b))->NM (.frozen a k)
 |getObj {r:Nat} {k:Obj->Sem α}:(∀o,NM (k o))->NM (.getObj r k)
 |setObj {r:Nat} {o:Obj} {k:Sem α}:NM k->NM (.setObj r o k)
 |choose {q:Question} {k:Nat->Sem α}:(∀n,NM (k n))->NM (.choose q k)
 |sys {c:Sys} {k:SysRet->Sem α}:(∀r,NM (k r))->NM (.sys c k)
 |program {k:aB->Sem α}:(∀p,NM (k p))->NM (.program k)
 |mark {m:Mark} {k:Sem α}:m≠.disable->m≠.enable->NM k->NM (.mark m k)
 |halt {h:Halt}:NM (.halt h)
def NM.bind{α β:Type}{s:Sem α}{f:α->Sem β}(h:NM s)(hf:∀a,NM (f a)):NM (s >>= f):=by
 show NM (s.bind f);induction h with
 |pure=>exact hf _
 |load _ ih=>exact .load fun v=>ih v
 |store _ ih=>exact .store ih
 |new _ ih=>exact .new fun r=>ih r
 |shape _ ih=>exact .shape fun s=>ih s
 |freeze _ ih=>exact .freeze ih
 |frozen _ ih=>exact .frozen fun b=>ih b
 |getObj _ ih=>exact .getObj fun o=>ih o
 |setObj _ ih=>exact .setObj ih
 |choose _ ih=>exact .choose fun n=>ih n
 |sys _ ih=>exact .sys fun n=>ih n
 |program _ ih=>exact .program fun p=>ih p
 |mark h1 h2 _ ih=>exact .mark h1 h2 ih
 |halt=>exact .halt
def NM.pure'{α:Type}(a:α):NM (Pure.pure a:Sem α):=.pure
def J6(a:aA)(m:Mode):NM (load a m):=.load fun _=>.pure
def mX(a:aA)(v:aj)(m:Mode):NM (store a v m):=.store .pure
def MB(o:Obj):NM (newObj o):=.new fun _=>.pure
def zB(r:Nat):NM (shape r):=.shape fun _=>.pure
def qh(a:aA):NM (frozen a):=.frozen fun _=>.pure
def MC(r:Nat):NM (getObj r):=.getObj fun _=>.pure
def BD(q:Question):NM (choose q):=.choose fun _=>.pure
def Yy(c:Sys):NM (sys c):=.sys fun _=>.pure
def rX:NM program:=.program fun _=>.pure
def gU{α:Type}(s:String):NM (stuck s:Sem α):=.halt
def pP{α:Type}(u:Unsupported):NM (unsupported u:Sem α):=.halt
def Rb{α:Type}(v:aj):NM (goPanic v:Sem α):=.halt
end
section
open Go
def pQ{α:Type}{c:Prop}[Decidable c]{s s':Sem α}(h:NM s)(h':NM s'):NM (if c then s else s'):=by split;exact h;exact h'
def BC(r:Nat):NM (viewAt r):=by unfold viewAt;(repeat' (first|(with_reducible first|exact NM.pure' _|exact zB ..|exact MC ..|refine NM.bind ?_ (fun _=>?_)|refine pQ ?_ ?_)|dsimp only|split|intro _))
def MD(a:aA):NM (noView a):=by unfold noView;(repeat' (first|(with_reducible first|exact NM.pure' _|exact pP ..|exact BC ..|refine NM.bind ?_ (fun _=>?_)|refine pQ ?_ ?_)|dsimp only|split|intro _))
def Dm(a:aA):NM (stringish a):=by unfold stringish;(repeat' (first|(with_reducible first|exact NM.pure' _|exact zB ..|exact qh ..|refine NM.bind ?_ (fun _=>?_)|refine pQ ?_ ?_)|dsimp only|split|intro _))
def FN(a b:aA):NM (mayBeOne a b):=by unfold mayBeOne;(repeat' (first|(with_reducible first|exact NM.pure' _|exact zB ..|exact Dm ..|refine NM.bind ?_ (fun _=>?_))|dsimp only|split|intro _))
def FO(a b:aA):NM (sameAddr a b):=by unfold sameAddr;(repeat' (first|(with_reducible first|exact NM.pure' _|exact qh ..|exact BD ..|exact pP ..|exact MD ..|exact FN ..|refine NM.bind ?_ (fun _=>?_)|refine pQ ?_ ?_)|dsimp only|split|intro _))
def zA(a b:Option aA):NM (samePointer a b):=by unfold samePointer;(repeat' (first|(with_reducible first|exact NM.pure' _|exact FO ..)|dsimp only|split|intro _))
def FI(t:az):NM (typeInfo t):=by unfold typeInfo;(repeat' (first|(with_reducible first|exact NM.pure' _|exact rX ..|exact gU ..|refine NM.bind ?_ (fun _=>?_))|dsimp only|split|intro _))
def Au(t:az):NM (underlying t):=by unfold underlying;(repeat' (first|(with_reducible first|exact NM.pure' _|exact rX ..|exact gU ..|refine NM.bind ?_ (fun _=>?_))|dsimp only|split|intro _))
def ME(t:az)(c:Array aj):NM (newRow t c):=by unfold newRow;(repeat' (first|(with_reducible first|exact NM.pure' _|exact MB ..|refine NM.bind ?_ (fun _=>?_))|dsimp only|split|intro _))
def MF(t:az)(v:aj):NM (newVar t v):=by unfold newVar;(repeat' (first|with_reducible exact ME ..|dsimp only|split|intro _))
def MG(t:az):NM (elemOf t):=by unfold elemOf;(repeat' (first|(with_reducible first|exact NM.pure' _|exact gU ..|exact Au ..|refine NM.bind ?_ (fun _=>?_))|dsimp only|split|intro _))
def wH{α:Type}(e:RuntimeError):NM (runtimePanic e:Sem α):=by unfold runtimePanic;(repeat' (first|(with_reducible first|exact rX ..|exact Rb ..|exact MF ..|exact MG ..|refine NM.bind ?_ (fun _=>?_))|dsimp only|split|intro _))
def I1(v:aj):NM (asIntOf v):=by unfold asIntOf;(repeat' (first|(with_reducible first|exact NM.pure' _|exact gU ..|exact pP ..)|dsimp only|split|intro _))
def Q6(v:aj):NM (asInt v):=by unfold asInt;(repeat' (first|(with_reducible first|exact NM.pure' _|exact I1 ..|refine NM.bind ?_ (fun _=>?_))|dsimp only|split|intro _))
def ku(v:aj):NM (asAddr v):=by unfold asAddr;(repeat' (first|(with_reducible first|exact NM.pure' _|exact gU ..|exact wH ..)|dsimp only|split|intro _))
end
section
open Go Go.RowKit Go.MuLone
open Go.Maps (Keyed)
def qF(qb:Nat->Nat)(L:List ah):Lit->Option aj
 |.string l=>if Hp L l<L.length then some (ptr (qb (Hp L l)))else none
 |_=>none
structure iu(w:af)(τ:Nat->Tag)(aO i P:Nat)(pb:Nat->Nat)(pr qm:Nat)(qb:Nat->Nat)(no:Bool)(ks:aj)(L:List ah)(B0:Nat):Prop where
 blk:bg w pr #[eN,fV,.bool no,ks,.map (some qm)] 137
 tag:τ pr=(aO,11,i)
 map:aS w prog 9 qm (qF qb L)
 gQ:τ qm=(aO,12,i)
 q:∀(j:Nat) (x:ah),L[j]?=some x->bg w (qb j) #[ptr (pb (partOf P x).toNat),.bool false,.int .i64 0,.bool false,.string ⟨#[]⟩,.nilIface] 146
 lu:∀(j:Nat) (x:ah),L[j]?=some x->τ (qb j)=(aO,13,i*8+j)
 ky:w.ownsRow 0 9 1 ks L.length (L.map Value.string)
 dJ:∀k,ks.ownBlock=some k->τ k=(aO,14,i)
 lo:B0<=pr/\B0<=qm
 loQ:∀(j:Nat) (x:ah),L[j]?=some x->B0<=qb j
 MY:∀k,ks.ownBlock=some k->B0<=k
section
variable {w:af}{τ:Nat->Tag}{aO i P:Nat}{pb:Nat->Nat}{pr qm:Nat}{qb:Nat->Nat}{no:Bool}{ks:aj}{L:List ah}{B0:Nat}
def iu.frame(h:iu w τ aO i P pb pr qm qb no ks L B0)(hB:∀k,B0<=k->k<w.heap.size->w'.heap[k]?=w.heap[k]?):iu w' τ aO i P pb pr qm qb no ks L B0:=
 ⟨h.blk.of_eq (hB _ h.lo.1 h.blk.lt),h.tag,h.map.of_eq (hB _ h.lo.2 h.map.lt),h.gQ,fun j x hx=>(h.q j x hx).of_eq (hB _ (h.loQ j x hx) (h.q j x hx).lt),h.lu,aH h.ky (fun k hk=>hB k (h.MY k hk) (aQ h.ky k hk).2),h.dJ,h.lo,h.loQ,h.MY⟩
def iu.below(h:iu w τ aO i P pb pr qm qb no ks L B0)(hB:Below w.heap.size w w'):iu w' τ aO i P pb pr qm qb no ks L B0:=h.frame (fun k _ hk=>hB.block k hk)
def XX(qb:Nat->Nat):qF qb []=fun _=>none:=by funext kl;cases kl<;>simp[qF]
def iu.made(w:af)(τ:Nat->Tag)(aO i P:Nat)(pb:Nat->Nat)(no:Bool):
 iu ((w.alloc (.map #[] 0)).alloc (.cells #[eN,fV,.bool no,.slice none 0 0,.map (some w.heap.size)] 137))
  (fun k=>if k=w.heap.size+1 then(aO,11,i)else if k=w.heap.size then(aO,12,i)else τ k) aO i P pb (w.heap.size+1) w.heap.size (fun _=>0) no (.slice none 0 0) [] w.heap.size:=by
 refine⟨?_,by simp,?_,by simp,fun j x hx=>by simp at hx,fun j x hx=>by simp at hx,World.ownsRow_nil _ _ _ _,fun k hk=>(by cases hk),⟨by omega,by omega⟩,fun j x hx=>by simp at hx,fun k hk=>(by cases hk)⟩
 ·have:=bg.new (w.alloc (.map #[] 0)) #[eN,fV,.bool no,.slice none 0 0,.map (some w.heap.size)] 137
  simpa using this
 ·rw[XX]
  exact(aS.made w prog 9).of_eq (zad _ _ _ (by simp))
def EM:Hp (L++ [x]) l=if Hp L l<L.length then Hp L l else if x.data.toList=l then L.length else L.length+1:=by
 unfold Hp;rw[List.findIdx_append];split
 ·rfl
 ·by_cases e:x.data.toList=l<;>simp[e,List.findIdx_cons]<;>omega
def CB:Hp L l<L.length↔∃x∈L,x.data.toList=l:=by unfold Hp;rw[List.findIdx_lt_length];simp
def TD{new:Nat}(hx:x ∉ L):qF (fun j=>if j=L.length then new else qb j) (L++ [x])=upd (qF qb L) (.string x.data.toList) (ptr new):=by
 funext kl;cases kl with
 |string l=>
  by_cases e:x.data.toList=l
  ·subst e;have hn:¬Hp L x.data.toList<L.length:=fun h=>by obtain⟨y,hy,he⟩:=CB.1 h;exact hx (WideShapes.bytes_inj he▸hy)
   rw[upd_same (by simp[WideAt.IsKeyLit])];simp only[qF,EM,if_neg hn,if_true,List.length_append,List.length_singleton];simp
  ·rw[fI (by simpa using fun e'=>e e'.symm)];simp only[qF,EM,List.length_append,List.length_singleton];by_cases hn:Hp L l<L.length
   ·have:Hp L l≠L.length:=by omega
    simp only[if_pos hn,if_neg this];rw[if_pos (by omega)]
   ·simp only[if_neg hn,if_neg e];rw[if_neg (by omega)]
 |_=>simp[qF,upd,Lit.sameKey]
def iu.push(h:iu w τ aO i P pb pr qm qb no ks L B0){new:Nat}(hx:x ∉ L)(hnew:w.heap.size<=new)(sK:B0<=w.heap.size)
 (hold:∀k,k<w.heap.size->k≠qm->k≠pr->ks.ownBlock≠some k->w'.heap[k]?=w.heap[k]?) (hb:bg w' new #[ptr (pb (partOf P x).toNat),.bool false,.int .i64 0,.bool false,.string ⟨#[]⟩,.nilIface] 146)
 (Rt:bg w' pr #[eN,fV,.bool no,ks',.map (some qm)] 137)
 (RD:w'.ownsRow 0 9 1 ks' (L.length+1) (L.map Value.string++ [.string x])) (hkb:∀k,ks'.ownBlock=some k->ks.ownBlock=some k\/(w.heap.size<=k/\k≠new))
 (hM:aS w' prog 9 qm (upd (qF qb L) (.string x.data.toList) (ptr new))):
 iu w' (fun k=>if k=new then(aO,13,i*8+L.length)else if ks'.ownBlock=some k then(aO,14,i)else τ k) aO i P pb pr qm (fun j=>if j=L.length then new else qb j) no ks' (L++ [x]) B0:=by
 have hin:∀{j:Nat} {y:ah},(L++ [x])[j]?=some y->(j<L.length/\L[j]?=some y)\/(j=L.length/\y=x):=by
  intro j y hj;by_cases e:j<L.length
  ·rw[List.getElem?_append_left e]at hj;exact Or.inl ⟨e,hj⟩
  ·rw[List.getElem?_append_right (by omega)]at hj;have hi':=aM hj;simp at hi';have:j=L.length:=by omega
   subst this;simp at hj;exact Or.inr ⟨rfl,hj.symm⟩
 have hpq:pr≠qm:=dm h.blk h.map;have hlt:∀{k:Nat},k<w.heap.size->k≠new:=fun hk=>by omega
 have j6:∀{k:Nat} {g:Nat×Nat},k<w.heap.size->τ k=(aO,g)->(g.1≠14)->(if k=new then(aO,13,i*8+L.length)else if ks'.ownBlock=some k then(aO,14,i)else τ k)=(aO,g):=by
  intro k g hk ht hg;rw[if_neg (hlt hk)];by_cases e:ks'.ownBlock=some k
  ·rcases hkb k e with e1|e1
   ·have:=h.dJ k e1;rw[ht]at this;simp at this;exact absurd (by rw[this]) hg
   ·omega
  ·rw[if_neg e,ht]
 have hkn:∀{k:Nat} {g:Nat×Nat},τ k=(aO,g)->g.1≠14->ks.ownBlock≠some k:=fun ht hg e=>by have:=h.dJ _ e;rw[ht]at this;simp at this;exact hg (by rw[this])
 refine⟨Rt,j6 h.blk.lt h.tag (by simp),?_,j6 h.map.lt h.gQ (by simp),fun j y hj=>?_,fun j y hj=>?_,?_,fun k hk=>?_,h.lo,fun j y hj=>?_,fun k hk=>?_⟩
 ·rw[TD hx];exact hM
 ·rcases hin hj with⟨hjl,e⟩|⟨rfl,rfl⟩
  ·have:j≠L.length:=by omega
   simp only[this,if_false];have ht:=h.lu j y e;exact(h.q j y e).of_eq (hold _ (h.q j y e).lt (dm (h.q j y e) h.map) (fun e'=>by rw[e',h.tag]at ht;simp at ht) (hkn ht (by simp)))
  ·simpa using hb
 ·rcases hin hj with⟨hjl,e⟩|⟨rfl,rfl⟩
  ·have:j≠L.length:=by omega
   simp only[this,if_false];exact j6 (h.q j y e).lt (h.lu j y e) (by simp)
  ·simp
 ·simpa using RD
 ·show (if k=new then _ else _)=_;have:k≠new:=by
   rcases hkb k hk with e|e
   ·exact hlt (aQ h.ky k e).2
   ·exact e.2
  rw[if_neg this,if_pos hk]
 ·rcases hin hj with⟨hjl,e⟩|⟨rfl,rfl⟩
  ·have:j≠L.length:=by omega
   simp only[this,if_false];exact h.loQ j y e
  ·simp;omega
 ·rcases hkb k hk with e|e
  ·exact h.MY k e
  ·omega
def TE:∀kl,qF qb L kl≠none->kl∈L.map (fun x=>Lit.string x.data.toList):=by
 intro kl hk;cases kl with
 |string l=>
  simp only[qF]at hk;split at hk
  ·rename_i e;obtain⟨y,hy,he⟩:=CB.1 e;exact zat.2 ⟨y,hy,by rw[he]⟩
  ·exact absurd rfl hk
 |_=>exact absurd rfl hk
def LB(h:iu w τ aO i P pb pr qm qb no ks L B0)(hx:kk ∉ L)(sK:B0<=w.heap.size)
 (hO:w2.ownsRow 0 9 1 v2 (L.length+1) (L.map Value.string++ [.string kk])) (hG:(w.alloc o).grownBy w2 ks.ownBlock) (hA:v2.ownBlock=ks.ownBlock\/v2.ownBlock=some (w.alloc o).heap.size)
 (hM:aS w3 prog 9 qm (upd (qF qb L) (.string kk.data.toList) (ptr w2.heap.size)))
 (hT:qC ((w2.setCell ⟨pr,3,none⟩ v2).alloc (.cells #[ptr (pb (partOf P kk).toNat),.bool false,.int .i64 0,.bool false,.string ⟨#[]⟩,.nilIface] 146)) w3 qm):
 ∃τ' P4 ks',iu w3 τ' aO i P pb pr qm P4 no ks' (L++ [kk]) B0/\Below B0 w w3/\∀k,k<w.heap.size->τ' k=τ k:=by
 have Te:=h.blk.lt;have XE:=h.map.lt;have hlo:=h.lo;have hsz:w.heap.size<w2.heap.size:=by have:=hG.size;simp at this;omega
 have XK:w3.heap.size=w2.heap.size+1:=by have:=hT.size;simpa[World.setCell]using this
 have XY:pr≠qm:=dm h.blk h.map;have hkp:ks.ownBlock≠some pr:=fun e=>by have:=h.dJ _ e;rw[h.tag]at this;simp at this
 have Y2:ks.ownBlock≠some qm:=fun e=>by have:=h.dJ _ e;rw[h.gQ]at this;simp at this
 have hnb:∀k,v2.ownBlock=some k->ks.ownBlock=some k\/w.heap.size<k:=fun k hk=>by
  rcases hA with e|e
  ·exact Or.inl (by rw[<-e];exact hk)
  ·rw[hk]at e;have:=Option.some.inj e;simp at this;exact Or.inr (by omega)
 have j9:∀k,k<w2.heap.size->k≠qm->k≠pr->w3.heap[k]?=w2.heap[k]? :=fun k hk h1 h2=>
  (hT.block k h1).trans ((zad _ _ _ (by simpa[World.setCell]using hk)).trans (zac _ _ _ _ h2))
 have agZ:bg w2 pr #[eN,fV,.bool no,ks,.map (some qm)] 137:=h.blk.of_eq ((hG.block pr (by simp;omega) (fun e=>hkp e.symm)).trans (zad _ _ _ Te));refine⟨_,_,v2,h.push (ks':=v2) (new:=w2.heap.size) hx (by omega) sK (fun k hk h1 h2 h3=>?_) ?_ ?_ ?_ (fun k hk=>?_) hM,⟨hT.os.trans hG.os,hT.tape.trans hG.tape,hT.output.trans hG.output,by omega,fun k hk=>?_⟩,fun k hk=>?_⟩
 ·exact(j9 k (by omega) h1 h2).trans ((hG.block k (by simp;omega) (fun e=>h3 e.symm)).trans (zad _ _ _ hk))
 ·have:=(bg.new (w2.setCell ⟨pr,3,none⟩ v2) #[ptr (pb (partOf P kk).toNat),.bool false,.int .i64 0,.bool false,.string ⟨#[]⟩,.nilIface] 146).of_eq (w':=w3) (hT.block _ (by simp[World.setCell];omega));simpa[World.setCell]using this
 ·have h1:=(agZ.set 3 v2).of_eq (w':=(w2.setCell ⟨pr,3,none⟩ v2).alloc (.cells #[ptr (pb (partOf P kk).toNat),.bool false,.int .i64 0,.bool false,.string ⟨#[]⟩,.nilIface] 146)) (zad _ _ _ (by simp[World.setCell];omega));have:=h1.of_eq (hT.block pr XY);simpa using this
 ·refine aH hO (fun k hk=>j9 k (aQ hO k hk).2 (fun e=>?_) (fun e=>?_))
  ·rcases hnb k hk with e1|e1
   ·exact Y2 (by rw[e1,e])
   ·omega
  ·rcases hnb k hk with e1|e1
   ·exact hkp (by rw[e1,e])
   ·omega
 ·rcases hnb k hk with e1|e1
  ·exact Or.inl e1
  ·exact Or.inr ⟨by omega,by have:=(aQ hO k hk).2;omega⟩
 ·exact(j9 k (by omega) (by omega) (by omega)).trans ((hG.block k (by simp;omega) (fun e=>by have:=h.MY k e.symm;omega)).trans (zad _ _ _ (by omega)))
 ·show (if k=w2.heap.size then _ else _)=_;rw[if_neg (by omega)];by_cases e:v2.ownBlock=some k
  ·rw[if_pos e];rcases hnb k e with e1|e1
   ·rw[h.dJ k e1]
   ·omega
  ·rw[if_neg e]
def P6(h:iu w τ aO i P pb pr qm qb no ks L B0)(kk:ah)(hk8:kk.size<=8)(hx:kk ∉ L)(hl:L.length<8)(sK:B0<=w.heap.size):
 Calls prog 73 #[ptr pr,.string kk,ptr (pb (partOf P kk).toNat)] w fun e w'=>e=.returned (.tuple #[])/\∃τ' P4 ks',iu w' τ' aO i P pb pr qm P4 no ks' (L++ [kk]) B0/\Below B0 w w'/\∀k,k<w.heap.size->τ' k=τ k:=by
 have hL8:(L.map (fun x=>Lit.string x.data.toList)).length<maxLen:=by simp;unfold maxLen;omega
 have hks:=fG (s:=kk) (by unfold maxLen;omega);obtain⟨si,hsi,Wj,Wl,Wm⟩:=info_parts sM;have cc:=A4 (w:=w) kk (by omega);unfold ptr;go_enter func73,ntmps73;go_wp2_with fail
 refine cc.mono ?_;rintro e w1 ⟨rfl,je⟩;clear cc;have h1:=h.below je;have Te:=h1.blk.lt;have XE:=h1.map.lt;have BO:=je.size;have c3:w1.cell? ⟨pr,3,none⟩=some ks:=h1.blk.cell (o:=3) rfl;have hkp:ks.ownBlock≠some pr:=fun e=>by have:=h.dJ _ e;rw[h.tag]at this;simp at this
 have Y2:ks.ownBlock≠some qm:=fun e=>by have:=h.dJ _ e;rw[h.gQ]at this;simp at this
 have XY:pr≠qm:=dm h1.blk h1.map;have HD:Hid (∀(w2 w3:af) (o:Obj) (v2:aj),w2.ownsRow 0 9 1 v2 (L.length+1) (L.map Value.string++ [.string kk])->(w1.alloc o).grownBy w2 ks.ownBlock->(v2.ownBlock=ks.ownBlock\/v2.ownBlock=some (w1.alloc o).heap.size)->
  aS w3 prog 9 qm (upd (qF qb L) (.string kk.data.toList) (ptr w2.heap.size))->qC ((w2.setCell ⟨pr,3,none⟩ v2).alloc (.cells #[ptr (pb (partOf P kk).toNat),.bool false,.int .i64 0,.bool false,.string ⟨#[]⟩,.nilIface] 146)) w3 qm->
  ∃τ' P4 ks',iu w3 τ' aO i P pb pr qm P4 no ks' (L++ [kk]) B0/\Below B0 w w3/\∀k,k<w.heap.size->τ' k=τ k):=fun w2 w3 o v2 a1 a2 a3 a4 a5=>by obtain⟨τ',P4,ks',r1,r2,r3⟩:=LB h1 hx (Nat.le_trans sK BO) a1 a2 a3 a4 a5;exact⟨τ',P4,ks',r1,(je.mono sK).trans r2,fun k hk=>r3 k (by omega)⟩
 have HB2:Hid (∀(w2:af) (o:Obj),(w1.alloc o).grownBy w2 ks.ownBlock->bg w2 pr #[eN,fV,.bool no,ks,.map (some qm)] 137/\∀(v2:aj) (o':Obj),aS ((w2.setCell ⟨pr,3,none⟩ v2).alloc o') prog 9 qm (qF qb L)):=fun w2 o hG=>by
  have hsz:w1.heap.size<w2.heap.size:=by have:=hG.size;simp at this;omega
  exact⟨h1.blk.of_eq ((hG.block pr (by simp;omega) (fun e=>hkp e.symm)).trans (zad _ _ _ Te)),fun v2 o'=>h1.map.of_eq ((zad _ _ _ (by simp[World.setCell];omega)).trans ((zac _ _ _ _ (fun e=>XY e.symm)).trans ((hG.block qm (by simp;omega) (fun e=>Y2 e.symm)).trans (zad _ _ _ XE))))⟩
 obtain⟨av,gZ,hkv⟩:=cy h1.ky;have RD:=h1.ky;have hxs:∃xs,L.map Value.string=xs:=⟨_,rfl⟩
 obtain⟨xs,hxs⟩:=hxs;rw[hxs]at RD HD;generalize L.length=nL at *;unfold ptr at HD;clear h1 h hx;subst hkv;go_wp2_with (first
  |(at_builtin;refine wpList_append_own_at _ rfl (.tmp 13) (.tmp 15) 38 rfl 0 9 si _ 1 16 underlying38 hsi Wj Wl Wm rfl (by decide) (.slice av nL gZ) nL xs rfl (RD.alloc _) ⟨_,0,none⟩ 1 1 [.string kk] rfl rfl (cell_one_new _ _ _) (by simp[Value.oneCell']) (by unfold maxLen;omega) (by omega) (zak _) ?_;intro v2 w2 vR oG Ja hA2;obtain⟨SH,sC⟩:=HB2.out w2 _ oG;have k3:=SH.cell (o:=3) (v:=.slice av nL gZ) rfl;have g3:=SH.frozen 3;have k4:=SH.cell (o:=4) (v:=.map (some qm)) rfl;obtain⟨g2,cap2,Hf,-⟩:=cJ vR (by omega);rw[Hf])
  |(at_mapUpdate;refine oW _ rfl _ _ _ 135 rfl 9 139 fT underlying135 qm (qF qb L) rfl (by exact sC _ _) _ TE hL8 _ _ (.string kk.data.toList) rfl rfl hks ?_;intro w3 JC G2))
 have kB:=qC.fK G2;go_end0
 obtain⟨τ',P4,ks',r1,r2,r3⟩:=HD.out w2 w3 _ v2 vR oG hA2 (by simpa[World.setCell,Act.eval]using JC) (by rw[Hf];exact kB);exact⟨rfl,τ',⟨P4,ks',r1⟩,r2,r3⟩
end
end
section
open Go Go.RowKit Go.MuLone
open Go.Maps (Keyed)
def aS.size{P:aB}{k:az}{w:af}{b:Nat}{f:Lit->Option aj}(h:aS w P k b f)(K:Keyed P k){L:List Lit}(hnd:L.Pairwise (fun a b=>a≠b))(hL:∀kl,f kl≠none↔kl∈L):
 ∃n D,w.ownsMap P k aV b n D/\Maps.size D=L.length:=by
 obtain⟨n,D,h,hs⟩:=h;obtain⟨es,hD,hp,hks⟩:=h.entries K;refine⟨n,D,h,?_⟩;have hhas:∀kl,kl∈es.map Prod.fst->f kl≠none:=fun kl ot e=>by
  obtain⟨p,ru,rfl⟩:=zat.1 ot;have h2:=hs.2 p.1;rw[e]at h2;have:Maps.has D p.1=true:=by rw[hD,Maps.has_eq,zap];exact⟨p,ru,mG (hks p ru)⟩
  rw[this]at h2;cases h2
 have h1:es.length<=L.length:=by rw[<-zas (f:=Prod.fst)];exact jE _ _ (List.pairwise_map.2 hp) (fun kl ot=>(hL kl).1 (hhas kl ot))
 have h2:L.length<=es.length:=by
  have e0:es.length=(es.map Prod.fst).length:=by simp
  rw[e0];refine jE _ _ hnd (fun kl ot=>?_);have h3:=hs.2 kl;have h4:=(hL kl).2 ot;have:Maps.has D kl=true:=by
   rw[h3];cases hf:f kl
   ·exact absurd hf h4
   ·rfl
  rw[hD,Maps.has_eq,zap]at this;obtain⟨p,ru,he⟩:=this;by_cases e:p.1=kl
  ·exact zat.2 ⟨p,ru,e⟩
  ·rw[Maps.sameKey_ne e]at he;cases he
 rw[hD,Maps.size_eq];omega
def CC(rs:List MR):List Nat:=(List.range rs.length).filter (fun i=>!(rs.getD i (eY [])).fin)
def kO(rs:List MR):List Lit:=(CC rs).map (fun i:Nat=>Lit.int .i64 ((i:Int)+1))
def Ht(rs:List MR):(List.range rs.length).map (fun i=>rs.getD i (eY []))=rs:=by
 apply List.ext_getElem?;intro i;rw[List.getElem?_map];by_cases h:i<rs.length
 ·rw[List.getElem?_range h,zag h];simp[List.getD_eq_getElem?_getD,h]
 ·simp[h]
def oc(rs:List MR):(kO rs).length=bq rs:=by
 unfold kO CC bq;rw[zas,<-List.countP_eq_length_filter];conv=>rhs;rw[<-Ht rs,List.countP_map]
 rfl
def tC(rs:List MR):(kO rs).Pairwise (fun a b=>a≠b):=by unfold kO;rw[List.pairwise_map];refine(List.Pairwise.filter _ (List.nodup_range (n:=rs.length))).imp (fun{a b} h e=>h ?_);injection e with _ e;omega
def yz{rs:List MR}{B:SB}(kl:Lit):dK rs B kl≠none↔kl∈kO rs:=by
 constructor
 ·intro h;cases kl with
  |int k n=>
   cases k<;>try exact absurd rfl h
   simp only[dK]at h;cases hf:ed rs n with
   |none=>rw[hf]at h;exact absurd rfl h
   |some r=>
    unfold ed at hf;split at hf
    ·cases hf
    ·rename_i hb;have hlt:(n-1).toNat<rs.length:=by omega
     rw[zag hlt]at hf;simp only at hf;split at hf
     ·cases hf
     ·rename_i jh;refine zat.2 ⟨(n-1).toNat,?_,by congr 1;omega⟩;unfold CC;rw[List.mem_filter];refine⟨zau.2 hlt,?_⟩;rw[List.getD_eq_getElem?_getD,zag hlt];simpa only[Option.getD_some,Bool.not_eq_true',Bool.not_eq_true]using jh
  |_=>exact absurd rfl h
 ·intro h;obtain⟨i,hi,rfl⟩:=zat.1 h;unfold CC at hi;rw[List.mem_filter]at hi;obtain⟨h1,h2⟩:=hi;have hlt:=zau.1 h1;simp[List.getD_eq_getElem?_getD,hlt]at h2;have:ed rs ((i:Int)+1)=some rs[i]:=by unfold ed;rw[if_neg (by omega),show ((i:Int)+1-1).toNat=i from by omega,zag hlt];simp[h2]
  simp[dK,this]
section
variable {w:af}{τ:Nat->Tag}{aO i P:Nat}{pb:Nat->Nat}{L:List ah}
def EN(b:Nat)(mode:Int)(cm:w.cell? ⟨b,0,none⟩=some (.int .i64 mode))(cG:aj)(cs:w.cell? ⟨b,1,none⟩=some cG)(Rt:w.ownsRow 0 130 1 cG P ((List.range P).map (fun q=>ptr (pb q))))(NP:1<=P)(MM:P<=4)(gb go cap:Nat)(h1:1<=L.length)(h8:L.length<=8)(hg:∀x∈L,bK x=true)(hnd:L.Nodup)
 (hcell:∀(k:Nat) (x:ah),L[k]?=some x->w.cell? ⟨gb,go+k,none⟩=some (.string x)):
 Calls prog 39 #[ptr b,.slice (some ⟨gb,go,none⟩) L.length cap] w fun e w'=>∃τ' pr qm qb ks,e=.returned (ptr pr)/\iu w' τ' aO i P pb pr qm qb (decide (mode=2)&& decide (1<L.length)) ks L w.heap.size/\Below w.heap.size w w'/\∀k,k<w.heap.size->τ' k=τ k:=by
 have wJ:=zaj w _ cs;simp only at wJ;obtain⟨pg,pc,hpv,_,hpc,yl,_⟩:=cJ Rt (by omega);subst hpv;have PE:pg<w.heap.size:=(aQ Rt pg rfl).2;have hpq:∀q,q<P->w.cell? ⟨pg,q,none⟩=some (.pointer (some ⟨pb q,0,none⟩)):=fun q hq=>by rw[yl q (by omega),List.getElem?_map,List.getElem?_range hq];rfl
 have hmm:=@run_makeMap prog;clear yl;have cno:=tD (w:=w) mode (some ⟨gb,go,none⟩) L.length cap h8;generalize (decide (mode=2)&& decide (1<L.length))=nO at *;unfold ptr;go_enter func39,ntmps39;go_wp2_with (go_at_call 72;refine cno.mono ?_;rintro e w' ⟨rfl,hw⟩;obtain rfl:=hw.symm)
 go_loopw [19] (fun u wr=>∃(k:Nat) (τ':Nat->Tag) (qb:Nat->Nat) (ks:aj),k<=L.length/\u=.int .i64 k/\iu wr τ' aO i P pb (w.heap.size+1) w.heap.size qb nO ks (L.take k) w.heap.size/\Below w.heap.size w wr/\Hid (∀k,k<w.heap.size->τ' k=τ k)) (fun u _=>L.length-(intOf u).toNat)
 case atStart=>
  refine⟨0,_,_,_,zak _,rfl,iu.made w τ aO i P pb nO,?_,fun k hk=>?_⟩
  ·exact((Below.refl _ _).alloc (zae _) _).alloc (by simp) _
  ·have e1:k≠w.heap.size+1:=by omega
   have e2:k≠w.heap.size:=by omega
   simp[e1,e2]
 case round=>
  obtain⟨k,τ1,qb1,ks1,hk,rfl,hW,hB,HT⟩:=hrel;by_cases hlt:k<L.length
  ·have hx:L[k]?=some L[k]:=zag hlt;have c1:=hcell k _ hx;have hgb:gb<w.heap.size:=zaj w _ c1;have SE:=(hB.cell (p:=⟨gb,go+k,none⟩) hgb).trans c1;have zX:=cZ (hg _ (zar hlt));have Rq:Hid (L.take (k+1)=L.take k++ [L[k]]):=zax hlt;have hnew:L[k] ∉ L.take k:=fun e=>by
    have h2:(L.take k++L.drop k).Nodup:=by rw[List.take_append_drop];exact hnd
    rw[List.nodup_append]at h2;have h3:L[k]∈L.drop k:=by rw[zaq hlt];exact List.mem_cons_self ..
    exact h2.2.2 _ e _ h3 rfl
   generalize L[k]=kk at *;have hbd:=dW P kk (by omega);obtain⟨q,hq⟩:∃q:Nat,(partOf P kk).toNat=q:=⟨_,rfl⟩
   have JH:partOf P kk=q:=by omega
   have Tx:=rD (w:=wr.drew) b P (some ⟨pg,0,none⟩) pc kk (by omega) (by omega) MM ((hB.cell (p:=⟨b,1,none⟩) wJ).trans cs);have hqP:q<P:=by omega
   have PF:=hpq q hqP;have CA:∀w2:af,Below wr.drew.heap.size wr.drew w2->w2.cell? ⟨b,1,none⟩=some (.slice (some ⟨pg,0,none⟩) P pc)/\w2.cell? ⟨pg,q,none⟩=some (.pointer (some ⟨pb q,0,none⟩))/\
    Calls prog 73 #[ptr (w.heap.size+1),.string kk,ptr (pb q)] w2 (fun e w'=>e=.returned (.tuple #[])/\∃τ' P4 ks',iu w' τ' aO i P pb (w.heap.size+1) w.heap.size P4 nO ks' (L.take (k+1)) w.heap.size/\Below w.heap.size w w'/\(∀k,k<w.heap.size->τ' k=τ k)/\w'.cell? ⟨b,1,none⟩=some (.slice (some ⟨pg,0,none⟩) P pc)/\w'.cell? ⟨pg,q,none⟩=some (.pointer (some ⟨pb q,0,none⟩))):=fun w2 dQ=>by have hBr:Below wr.heap.size wr w2:=(Below.refl wr.heap.size wr).drew.trans dQ;have tj:Below w.heap.size w w2:=hB.trans (hBr.mono hB.size);refine⟨(tj.cell (p:=⟨b,1,none⟩) wJ).trans cs,(tj.cell (p:=⟨pg,q,none⟩) PE).trans PF,?_⟩;have ca:=P6 (w:=w2) (hW.below hBr) kk (by omega) hnew (by simp;omega) tj.size;rw[hq,<-Rq.out]at ca;refine ca.mono ?_;rintro e w3 ⟨rfl,τ2,qb2,ks2,r1,r2,r3⟩;have XZ:Below w.heap.size w w3:=tj.trans r2;exact⟨rfl,τ2,qb2,ks2,r1,XZ,fun k hk=>(r3 k (by have:=tj.size;omega)).trans (HT.out k hk),(XZ.cell (p:=⟨b,1,none⟩) wJ).trans cs,(XZ.cell (p:=⟨pg,q,none⟩) PE).trans PF⟩
   have CA':=(show Hid _ from CA)
   have s1:wr.cell? ⟨b,1,none⟩=some (.slice (some ⟨pg,0,none⟩) P pc):=(hB.cell (p:=⟨b,1,none⟩) wJ).trans cs;have p1:wr.cell? ⟨pg,q,none⟩=some (.pointer (some ⟨pb q,0,none⟩)):=(hB.cell (p:=⟨pg,q,none⟩) PE).trans PF;unfold ptr at Tx;rw[JH]at Tx;clear CA hcell c1 hpq hx hnew hq JH hbd;go_wp2_with fail
   go_region_held3 (fun W=>W.cell? ⟨b,1,none⟩=some (.slice (some ⟨pg,0,none⟩) P pc)/\W.cell? ⟨pg,q,none⟩=some (.pointer (some ⟨pb q,0,none⟩))) (simp[*]) ((first|(go_at_call 50;refine Tx.mono ?_;rintro e w2 ⟨rfl,dQ⟩;obtain⟨s2,p2,ca⟩:=CA'.out w2 dQ;unfold ptr at ca)|(go_at_call 73;refine ca.mono ?_;rintro e w3 ⟨rfl,τ2,qb2,ks2,vC,kB,G2,s3,p3⟩;have HT3:=(show Hid _ from G2);clear G2)))
   all_goals
    clear Tx ca
    go_wp2_with fail
    go_roundw
    case rel=>exact⟨k+1,τ2,qb2,ks2,by omega,by go_num,vC,kB,HT3⟩
    case measure=>simp[intOf];omega
  ·have MZ:k=L.length:=by omega
   rw[MZ,zav]at hW;clear hcell hpq MZ;go_wp2_with fail
   go_ret;exact⟨τ1,w.heap.size+1,w.heap.size,qb1,ks1,rfl,hW,hB,HT.out⟩
end
end
end Go.Proofs.YteoahlieielcdaaGreat
