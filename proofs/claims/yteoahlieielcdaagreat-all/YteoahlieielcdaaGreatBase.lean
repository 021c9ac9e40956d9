import Derived.Test.YteoahlieielcdaaGreatM1
import Derived.WalkSpells
import Derived.WalkLawsBesides
import Derived.Deep.RegionLaw
import Derived.BigQuiet
import Derived.Test.YteoahlieielcdaaGreatChecked
import Derived.Conc.Events
set_option linter.all false
set_option maxHeartbeats 800000
set_option maxRecDepth 100000
open Option renaming some->Y,none->F
open Bool renaming false->E,true->Z6
open List renaming range->ab8,any_eq_true->ai3,getElem_mem->ap0,all_eq_true->aq2,take_of_length_le->as8,mem_range->at7
open Go renaming wpList_plain->ay9
open Go.Result renaming andThen->aj7
open Go.WideAt renaming IsKeyLit->as1
namespace Go.Proofs.YteoahlieielcdaaGreat
open Go.Proofs.Tryz
abbrev zaa:=@List.getElem?_eq_getElem
abbrev zab:=@Nat.zero_le
abbrev zac:=@List.take_succ_eq_append_getElem
variable{w w':af}{b s k n i j aJ q:Nat}{c:Array aj}{v z:aj}{xs:List aj}{key x:ah}{kl k':Lit}
section
open Go Go.RowKit
def aT(w:af)(b:Nat)(c:Array aj)(t:az):Prop:=w.heap[b]?=Y (.cells c t (0,0))
def aT.cell{w:af}{b:Nat}{c:Array aj}{t:az}(h:aT w b c t){o:Nat}{v:aj}(hv:c[o]?=Y v):w.cell? ⟨b,o,F⟩=Y v:=by unfold aT at h;simp[World.cell?,h,hv]
def aT.frozen{w:af}{b:Nat}{c:Array aj}{t:az}(h:aT w b c t)(o:Nat):w.frozen? ⟨b,o,F⟩=E:=by unfold aT at h;simp[World.frozen?,h]
def aT.lt{t:az}(h:aT w b c t):b<w.heap.size:=(Array.getElem?_eq_some_iff.1 h).1
def aT.of_eq{t:az}(h:aT w b c t)(e:w'.heap[b]?=w.heap[b]?):aT w' b c t:=e.trans h
def aT.set{t:az}(h:aT w b c t)(o:Nat)(v:aj):aT (w.setCell ⟨b,o,F⟩ v) b (c.setIfInBounds o v) t:=by unfold aT at h⊢;simp only[World.setCell,Array.getElem?_modify,h];simp
def aT.new(w:af)(c:Array aj)(t:az):aT (w.alloc (.cells c t)) w.heap.size c t:=by show (w.heap.push _)[w.heap.size]?=_;simp
abbrev Tag:=Nat×Nat×Nat
structure Stp(s:Nat)(τ:Nat->Tag)(w:af)(τ':Nat->Tag)(w':af):Prop where
 os:w'.os=w.os
 tape:w'.tape=w.tape
 output:w'.output=w.output
 size:w.heap.size<=w'.heap.size
 tag:∀k,k<w.heap.size->τ' k=τ k
 block:∀k,k<w.heap.size->(τ k).1≠s->w'.heap[k]?=w.heap[k]?
def Stp.refl(s:Nat)(τ:Nat->Tag)(w:af):Stp s τ w τ w:=⟨rfl,rfl,rfl,Nat.le_refl _,λ_ _=>rfl,λ_ _ _=>rfl⟩
def Stp.trans{s:Nat}{τ τ1 τ2:Nat->Tag}{w w1 w2:af}(h:Stp s τ w τ1 w1)(k:Stp s τ1 w1 τ2 w2):Stp s τ w τ2 w2:=
 ⟨k.os.trans h.os,k.tape.trans h.tape,k.output.trans h.output,Nat.le_trans h.size k.size,
   λi hi=>(k.tag i (Nat.lt_of_lt_of_le hi h.size)).trans (h.tag i hi),
   λi hi hs=>(k.block i (Nat.lt_of_lt_of_le hi h.size) (by rw[h.tag i hi];exact hs)).trans (h.block i hi hs)⟩
def Stp.alloc{s:Nat}{τ τ':Nat->Tag}{w w':af}(h:Stp s τ w τ' w')(o:Obj)(g:Tag):
 Stp s τ w (λk=>if k=w'.heap.size then g else τ' k) (w'.alloc o):=by
 refine h.trans ⟨rfl,rfl,rfl,XI,λk hk=>?_,λk hk _=>Below.heap_alloc _ _ _ hk⟩;have:k≠w'.heap.size:=I
 simp[this]
def Stp.setCell{s:Nat}{τ τ':Nat->Tag}{w w':af}(h:Stp s τ w τ' w'){a:aA}(ha:(τ' a.block).1=s)(v:aj):Stp s τ w τ' (w'.setCell a v):=
 h.trans ⟨rfl,rfl,rfl,by simp[World.setCell],λ_ _=>rfl,λk _ hs=>Below.heap_setCell _ _ _ _ (λe=>hs (by rw[e];exact ha))⟩
def Stp.blk{τ τ':Nat->Tag}(h:Stp s τ w τ' w'){t:az}(hb:aT w b c t)(hs:(τ b).1≠s):aT w' b c t:=hb.of_eq (h.block b hb.lt hs)
def gn{k:IntKind}{a b:Int}(h:a=b):Ending.returned (.int k a)=.returned (.int k b):=by rw[h]
def cJ{a b:Bool}(h:a=b):Ending.returned (.bool a)=.returned (.bool b):=by rw[h]
def Kr{n:Int}(h: -9223372036854775808<=n)(h':n<=9223372036854775807):wrap64 n=n:=by unfold wrap64;omega
def Lx(c:UInt8):wrap64 (c.toNat:Int)=(c.toNat:Int):=Kr I (by have:=c.toNat_lt;omega)
def eN{P:aB}{ops:Array Oper}{o:Oper}{a:Act}{K:Act->af->Prop}{Q:Exit->Act->af->Prop}{P6:Prop}
 (hgd:o.guard=F) (s x:aD) (t:az)
 (ho:o.op=.call {callee:=.builtin .append,args:=#[s,x],argTypes:=#[t,t]})
 (base:Nat) (e:az) (i:TypeInfo) (z:aj) (size bytes:Nat) (ht:P.underlying t=Y (.slice e)) (hi:P.info? e=Y i) (hz:i.zero=Y z)
 (hsize:i.size=size) (hby:i.bytes=bytes) (hzs:z.cells.size=size) (hsz:0<size)
 (v:aj) (n:Nat) (xs:List aj) (hs:a.eval s=v) (hown:w.ownsRow base e size v n xs)
 (ad:aA) (m c:Nat) (news:List aj) (hx:a.eval x=.slice (Y ad) m c) (hl:news.length=m*size) (hnews:∀j u,news[j]?=Y u->w.cell? (ad.add j)=Y u) (h1:∀u∈news,u.oneCell'=Z6)
 (h63:n+m<=maxLen) (hbytes:(n+m)*bytes<=140737488355328) (hbase:base<=w.heap.size)
 (h:∀v' w',w'.ownsRow base e size v' (n+m) (xs++news)->w.grownBy w' v.ownBlock->(v'=.slice F 0 0↔v=.slice F 0 0/\m=0)->(v'.ownBlock=v.ownBlock\/v'.ownBlock=Y w.heap.size)->K (a.put o.dst v') w'):
 if Region.wanted o (yielded ops a.tmps)=Z6 then Oper.wp P o a w K Q else P6:=by
 have hw:Region.wanted o (yielded ops a.tmps)=Z6:=by simp[Region.wanted,hgd]
 rw[if_pos hw];obtain⟨v',w',hr,h2,h3,h4,h5⟩:=run_append_own_at (P:=P) w base t o.type e i z size bytes ht hi hz hsize hby hzs hsz v n xs hown ad m c news hl hnews h1 h63 hbytes hbase;unfold Oper.wp execOp;simp only[ho,resolve,invoke,builtin,Sem.run_bind,Sem.run_pure,Result.andThen_ok,List.map_toArray,List.map_cons,List.map_nil,hs,hx,hr];exact h v' w' h2 h3 h4 h5
def aZ{base:Nat}{e:az}{size:Nat}(h:w.ownsRow base e size v n xs)(hn:0<n):
 ∃g cap,v=.slice (Y ⟨g,0,F⟩) n cap/\n<=cap/\cap<=maxLen/\(∀j,j<n*size->w.cell? ⟨g,j,F⟩=xs[j]?)/\∀j,w.frozen? ⟨g,j,F⟩=E:=by
 have h0:=h;obtain⟨h1,h2⟩:=h;rcases h2 with⟨_,e0⟩|⟨g,cap,cur,rfl,_,hg,hc,hm,hs,ht⟩
 ·omega
 ·exact⟨g,cap,rfl,hc,hm,λj hj=>h0.cellAt j hj,λj=>h0.frozenAt j⟩
def bI{base:Nat}{e:az}{size:Nat}(h:w.ownsRow base e size v n xs):
 ∃a cap,v=.slice a n cap:=by
 obtain⟨h1,h2⟩:=h;rcases h2 with⟨rfl,rfl⟩|⟨g,cap,cur,rfl,_⟩
 ·exact⟨F,0,rfl⟩
 ·exact⟨_,_,rfl⟩
def za{base base':Nat}{e:az}{size:Nat}(h:w.ownsRow base e size v n xs)(hb:∀k,v.ownBlock=Y k->base'<=k):w.ownsRow base' e size v n xs:=by
 obtain⟨h1,h2⟩:=h;refine⟨h1,?_⟩;rcases h2 with h2|⟨g,cap,cur,rfl,hg,r⟩
 ·exact Or.inl h2
 ·exact Or.inr ⟨g,cap,cur,rfl,hb g rfl,r⟩
def aI{base:Nat}{e:az}{size:Nat}(h:w.ownsRow base e size v n xs)(hb:∀k,v.ownBlock=Y k->w'.heap[k]?=w.heap[k]?):w'.ownsRow base e size v n xs:=by
 obtain⟨h1,h2⟩:=h;refine⟨h1,?_⟩;rcases h2 with h2|⟨g,cap,cur,rfl,hg,hh,r⟩
 ·exact Or.inl h2
 ·exact Or.inr ⟨g,cap,cur,rfl,hg,(hb g rfl).trans hh,r⟩
def aQ{base:Nat}{e:az}{size:Nat}(h:w.ownsRow base e size v n xs):∀k,v.ownBlock=Y k->base<=k/\k<w.heap.size:=h.lt
def ptr(b:Nat):aj:=.pointer (Y ⟨b,0,F⟩)
def cell_two_new(w:af)(x y:aj)(t:az):∀j u, [x,y][j]?=Y u->(w.alloc (.cells #[x,y] t)).cell? ((⟨w.heap.size,0,F⟩:aA).add j)=Y u:=by
 intro j u hj;match j,hj with
 | 0,hj=>simp at hj;subst hj;simp[Addr.add]
 | 1,hj=>simp at hj;subst hj;simp[Addr.add]
def grownBy_setCell(w:af)(a:aA)(v:aj):w.grownBy (w.setCell a v) (Y a.block):=
 ⟨rfl,rfl,rfl,by simp[World.setCell],λk _ hk=>Below.heap_setCell _ _ _ _ (λe=>hk (by rw[e]))⟩
def aH{α:Type}{l:List α}{x:α}(h:l[i]?=Y x):i<l.length:=(List.getElem?_eq_some_iff.1 h).1
def cS{α:Type}{l:List α}{y x:α}(h:(l.set i y)[j]?=Y x):(i=j/\x=y)\/(i≠j/\l[j]?=Y x):=by
 rw[List.getElem?_set]at h;by_cases e:i=j
 ·simp only[e,if_true]at h;split at h
  ·cases h;exact Or.inl ⟨e,rfl⟩
  ·cases h
 ·simp only[e,if_false]at h;exact Or.inr ⟨e,h⟩
def Below.pV{B:Nat}{a:af}(h:Below B a w)(n:Nat):Below B a (w.drewN n):=⟨h.os,h.tape,h.output,h.size,h.block⟩
def str_eq{a b:ah}(h:(a.toList == b.toList)=Z6):a=b:=by rw[beq_iff_eq,ByteArray.toList_eq,ByteArray.toList_eq]at h;exact WideShapes.bytes_inj h
def fj{a b:ah}(h:a=b):(a.toList == b.toList)=Z6:=by subst h;simp
def kQ{a b:ah}(h:a≠b):(a.toList == b.toList)=E:=by
 cases hh:(a.toList == b.toList)
 ·rfl
 ·exact absurd (str_eq hh) h
def gU(l:List UInt8):Int:=(l.map (λc=>(c.toNat:Int))).sum
def uk(l:List UInt8)(c:UInt8):gU (l++ [c])=gU l+(c.toNat:Int):=by simp[gU]
def sK(l:List UInt8):0<=gU l/\gU l<=255*l.length:=by
 induction l with
 |nil=>simp[gU]
 |cons c r ih=>
  have:=c.toNat_lt;simp[gU]at ih⊢;omega
def vr(s:ah)(k:Nat)(h:k<s.size):s.data.toList.take (k+1)=s.data.toList.take k++ [s[k]]:=by rw[zac (by simpa using h)];rfl
def partOf(n:Int)(s:ah):Int:=gU s.data.toList % n
def iK(n:Int)(s:ah)(hn:0<n):0<=partOf n s/\partOf n s<n:=⟨Int.emod_nonneg _ I,Int.emod_lt_of_pos _ hn⟩
def lF(c n:Int):Int:=(if c<0 then -(c+1)else c)% n
def Qn(c n:Int)(h:c<0): -(c+1).tmod n=lF c n:=by simp only[lF,if_pos h];rw[<-Int.neg_tmod,Int.tmod_eq_emod_of_nonneg I]
def Qo(c n:Int)(h:¬c<0):c % n=lF c n:=by simp only[lF,if_neg h]
abbrev KV:=ByteArray×ByteArray
def bl(l:List KV):List aj:=l.flatMap (λx=> [.string x.1,.string x.2])
def bz(s:ah):Bool:=decide (1<=s.size)&& decide (s.size<=8)
def eD(x:KV):Bool:=bz x.1 && decide (x.2.size<=64)
def aN(l:List KV)(k:ah):Bool:=l.any (λx=>decide (x.1=k))
structure MW where
 items:List KV
 cC:Nat->Bool
 comm:Nat->Bool
 dF:Bool
structure MR where
 keys:List ah
 asked:Nat->Bool
 found:Nat->Nat
 fin:Bool
structure MS where
 parts:Nat
 mode:Int
 ws:List MW
 rs:List MR
def aK(n:Int)(l:List KV)(p:Int):Bool:=l.any (λx=>decide (partOf n x.1=p))
def bK(ahead:List KV):List KV->Int
 | []=>0
 |x :: r=>if eD x=E then 4 else if aN ahead x.1 then 5 else bK (ahead++ [x]) r
def eu(l:List KV):Int:=if l.length<1\/8<l.length then 3 else bK [] l
def jg(l:List KV):MW:={items:=l,cC:=λ_=>E,comm:=λ_=>E,dF:=E}
def dR(s:MS)(l:List KV):Int×Int×MS:=
 if eu l≠0 then(0,eu l,s)
 else if 200<=s.ws.length then(0,6,s)
 else((s.ws.length:Int)+1,0,{s with ws:=s.ws++ [jg l]})
def bL(s:MS)(n:Int):Option MW:=
 if n<1\/(s.ws.length:Int)<n then F
 else match s.ws[(n-1).toNat]? with
  |some m=>if m.dF then F else Y m
  |none=>F
def om(s:MS)(n:Int)(m:MW):MS:={s with ws:=s.ws.set (n-1).toNat m}
def put(f:Nat->Bool)(p:Nat):Nat->Bool:=λq=>if q=p then Z6 else f q
def bS(s:MS)(n p:Int):Int×MS:=
 match bL s n with
 |none=>(7,s)
 |some m=>
  if aK s.parts m.items p=E then(8,s)
  else if m.cC p.toNat then(10,s)
  else(0,om s n {m with cC:=put m.cC p.toNat})
def cH(n:Nat)(m:MW):Bool:=(ab8 n).all (λp=>!aK n m.items p || m.cC p)
def bN(s:MS)(n p:Int):Int×MS:=
 match bL s n with
 |none=>(7,s)
 |some m=>
  if aK s.parts m.items p=E then(8,s)
  else if cH s.parts m=E then(9,s)
  else if m.comm p.toNat then(10,s)
  else(0,om s n {m with comm:=put m.comm p.toNat})
def dz(s:MS)(n:Int):Int×MS:=
 match bL s n with
 |none=>(7,s)
 |some m=>
  if m.comm 0 || m.comm 1 || m.comm 2 || m.comm 3 then(9,s)
  else(0,om s n {m with dF:=Z6})
def fN(l:List ah)(k:ah):Bool:=l.any (λy=>decide (y=k))
def bC(l:List ah)(k:ah):Nat:=l.findIdx (λy=>decide (y=k))
def dO(ahead:List ah):List ah->Int
 | []=>0
 |x :: r=>if bz x=E then 4 else if fN ahead x then 5 else dO (ahead++ [x]) r
def iB(l:List ah):Int:=if l.length<1\/8<l.length then 3 else dO [] l
def aX(l:List MR):Nat:=l.countP (λr=>!r.fin)
def dJ(l:List ah):MR:={keys:=l,asked:=λ_=>E,found:=λ_=>0,fin:=E}
def fZ(s:MS)(l:List ah):Int×Int×MS:=
 if iB l≠0 then(0,iB l,s)
 else if 50<=aX s.rs then(0,6,s)
 else((s.rs.length:Int)+1,0,{s with rs:=s.rs++ [dJ l]})
def gj(rs:List MR)(n:Int):Option MR:=
 if n<1\/(rs.length:Int)<n then F
 else match rs[(n-1).toNat]? with
  |some r=>if r.fin then F else Y r
  |none=>F
def dQ(s:MS)(n:Int):Option MR:=gj s.rs n
def jy(n:Int)(ws:List MW)(key:ah):Nat->Nat
 | 0=>0
 |k+1=>match ws[k]? with
  |some m=>if (aN m.items key && m.comm (partOf n key).toNat)=Z6 then k+1 else jy n ws key k
  |none=>jy n ws key k
def aU(s:MS)(key:ah):Nat:=jy s.parts s.ws key s.ws.length
def V6(s:MS)(r:MR)(i:Nat)(key:ah):MR:={r with asked:=put r.asked i,found:=λj=>if j=i then aU s key else r.found j}
def XQ(s:MS)(n:Int)(r:MR):MS:={s with rs:=s.rs.set (n-1).toNat r}
def iP(s:MS)(n:Int)(key:ah):Int×MS:=
 match dQ s n with
 |none=>(7,s)
 |some r=>
  if bC r.keys key<r.keys.length then
   (if r.asked (bC r.keys key)then(10,s)else(0,XQ s n (V6 s r (bC r.keys key) key)))
  else(4,s)
def jX(s:MS):Prop:=∀(i:Nat) (m:MW) (q:Nat),s.ws[i]?=Y m->m.comm q=Z6->cH s.parts m=Z6
structure MOk(s:MS):Prop where
 p1:1<=s.parts
 p4:s.parts<=4
 len:s.ws.length<=200
 items:∀(i:Nat) (m:MW),s.ws[i]?=Y m->m.items.length<=8/\(∀x∈m.items,eD x=Z6)
 keys:∀(i:Nat) (r:MR),s.rs[i]?=Y r->1<=r.keys.length/\r.keys.length<=8/\(∀x∈r.keys,bz x=Z6)/\r.keys.Nodup
 opn:aX s.rs<=50
def oy(l:List KV)(k:Nat)(x:KV)(h:l[k]?=Y x):(bl l)[k*2]?=Y (.string x.1)/\(bl l)[k*2+1]?=Y (.string x.2):=by
 induction l generalizing k with
 |nil=>simp at h
 |cons y r ih=>
  cases k with
  |zero=>simp at h;subst h;simp[bl]
  |succ k=>
   have:=ih k (by simpa using h);have e:bl (y :: r)=.string y.1 :: .string y.2 :: bl r:=rfl;rw[e,show (k+1)*2=k*2+1+1 from by omega];simpa using this
def gl{x:KV}(h:eD x=Z6):1<=x.1.size/\x.1.size<=8/\x.2.size<=64:=by simp[eD,bz]at h;omega
def dh{n:Int}{l:List KV}{p:Int}(hn:0<n)(h:aK n l p=Z6):0<=p/\p<n:=by simp only[aK,ai3,decide_eq_true_eq]at h;obtain⟨x,_,hx⟩:=h;have:=iK n x.1 hn;omega
def BW{a r:List KV}{x:KV}(h:eD x=E):bK a (x :: r)=4:=by simp[bK,h]
def wR{a r:List KV}{x:KV}(h:eD x=Z6)(h2:aN a x.1=Z6):bK a (x :: r)=5:=by simp[bK,h,h2]
def Ft{a r:List KV}{x:KV}(h:eD x=Z6)(h2:aN a x.1=E):bK a (x :: r)=bK (a++ [x]) r:=by simp[bK,h,h2]
def zj{r:List KV}:∀{a:List KV},bK a r=0->∀x∈r,eD x=Z6:=by
 induction r with
 |nil=>intro a _ x hx;cases hx
 |cons y r ih=>
  intro a h x hx;simp only[bK]at h;split at h
  ·cases h
  ·rename_i hg;split at h
   ·cases h
   ·rcases List.mem_cons.1 hx with rfl|hx
    ·simpa using hg
    ·exact ih h x hx
def MD{L:List KV}(_:bK [] L=bK (L.take k) (L.drop k))(_:k=L.length)(h0:eu L=0)(hc:eu L=bK [] L):∀x∈L,eD x=Z6:=
 zj (hc.symm.trans h0)
def qR{L:List KV}{x:KV}(h:L[k]?=Y x):L.drop k=x :: L.drop (k+1):=by obtain⟨hk,rfl⟩:=List.getElem?_eq_some_iff.1 h;exact List.drop_eq_getElem_cons hk
def yt{L:List KV}{x:KV}(h:L[k]?=Y x):L.take (k+1)=L.take k++ [x]:=by obtain⟨hk,rfl⟩:=List.getElem?_eq_some_iff.1 h;exact zac hk
def um(l:List KV)(x:KV):bl (l++ [x])=bl l++ [.string x.1,.string x.2]:=by simp[bl]
def Fu{L:List KV}(h:∀j x,j<k->L[j]?=Y x->x.1≠key):aN (L.take k) key=E:=by simp only[aN,List.any_eq_false,decide_eq_true_eq];intro x hx;obtain⟨j,hj,rfl⟩:=List.mem_iff_getElem.1 hx;simp only[List.length_take]at hj;refine h j _ I ?_;rw[List.getElem_take];exact zaa I
def wS{L:List KV}{x:KV}(hj:j<k)(hx:L[j]?=Y x)(h:x.1=key):aN (L.take k) key=Z6:=by
 simp only[aN,ai3,decide_eq_true_eq];refine⟨x,?_,h⟩;have:(L.take k)[j]?=Y x:=by rw[List.getElem?_take_of_lt hj];exact hx
 exact List.mem_of_getElem? this
def Fv(l:List KV)(x:KV)(k:ah):aN (l++ [x]) k=(aN l k || decide (x.1=k)):=by simp[aN]
def fO(w:af)(a:Option aA)(L:List KV):Prop:=
 ∀(k:Nat) (x:KV),L[k]?=Y x->∃ib io,a=Y ⟨ib,io,F⟩/\w.cell? ⟨ib,io+k*2,F⟩=Y (.string x.1)/\w.cell? ⟨ib,io+k*2+1,F⟩=Y (.string x.2)
def kS(L:List KV):Prop:=∀x∈L,x.1.size<=maxLen/\x.2.size<=maxLen
end
section
open Go Go.RowKit
open Go.Maps (Keyed)
def aY(v:aj):Option (DataW aj×List MemPlace):=Y (.held v, [])
def Says(D:DataW aj)(f:Lit->Option aj):Prop:=(∀kl v,f kl=Y v->∀z,D.atKey kl z=.held v)/\∀kl,Maps.has D kl=(f kl).isSome
def aS(w:af)(P:aB)(k:az)(b:Nat)(f:Lit->Option aj):Prop:=∃n D,w.ownsMap P k aY b n D/\Says D f
def upd(f:Lit->Option aj)(kl:Lit)(v:aj):Lit->Option aj:=λk=>if k.sameKey kl=Z6 then Y v else f k
def del(f:Lit->Option aj)(kl:Lit):Lit->Option aj:=λk=>if k.sameKey kl=Z6 then F else f k
section
variable {P:aB}{k:az}{w:af}{b:Nat}{f:Lit->Option aj}
def aS.made(w:af)(P:aB)(k:az):aS (w.alloc (.map #[] 0)) P k w.heap.size (λ_=>F):=
 ⟨0,_,World.ownsMap_made w P k aY,⟨λ_ _ h=>(nomatch h),λ_=>rfl⟩⟩
def aS.lt(h:aS w P k b f):b<w.heap.size:=by obtain⟨n,D,h,_⟩:=h;exact h.lt
def aS.of_eq(h:aS w P k b f)(e:w'.heap[b]?=w.heap[b]?):aS w' P k b f:=by obtain⟨n,D,⟨es,clock,hb,r⟩,hs⟩:=h;exact⟨n,D,⟨es,clock,e.trans hb,r⟩,hs⟩
def aS.congr(h:aS w P k b f){g:Lit->Option aj}(e:∀kl,f kl=g kl):aS w P k b g:=by have:f=g:=funext e;rw[<-this];exact h
def ny(hk:as1 kl):kl.sameKey kl=Z6:=by
 cases kl<;>simp_all [Lit.sameKey,as1]
def upd_same(hk:as1 kl)(f:Lit->Option aj)(v:aj):upd f kl v kl=Y v:=by simp[upd,ny hk]
def fS(hk:k'≠kl)(f:Lit->Option aj)(v:aj):upd f kl v k'=f k':=by simp[upd,Maps.sameKey_ne hk]
def nA(hk:as1 kl)(f:Lit->Option aj):del f kl kl=F:=by simp[del,ny hk]
def kZ(hk:k'≠kl)(f:Lit->Option aj):del f kl k'=f k':=by simp[del,Maps.sameKey_ne hk]
def Says.put{D:DataW aj}(h:Says D f)(hm:Maps.IsMap D){kl:Lit}(hk:as1 kl)(v:aj):Says (D.put kl (.held v)) (upd f kl v):=by
 refine⟨λk' v' hv z=>?_,λk'=>?_⟩
 ·by_cases e:k'=kl
  ·subst e;rw[upd_same hk]at hv;cases hv;exact Maps.atKey_put_same hm hk _ _
  ·rw[fS e]at hv;rw[Maps.atKey_put_other e];exact h.1 k' v' hv z
 ·by_cases e:k'=kl
  ·subst e;rw[Maps.has_put_same hm hk,upd_same hk];rfl
  ·rw[Maps.has_put_other e,fS e];exact h.2 k'
def Says.del{D:DataW aj}(h:Says D f){kl:Lit}(hk:as1 kl):Says (D.del kl) (del f kl):=by
 refine⟨λk' v' hv z=>?_,λk'=>?_⟩
 ·by_cases e:k'=kl
  ·subst e;rw[nA hk]at hv;cases hv
  ·rw[kZ e]at hv;rw[Maps.atKey_del_other e];exact h.1 k' v' hv z
 ·by_cases e:k'=kl
  ·subst e;rw[Maps.has_del_same,nA hk];rfl
  ·rw[Maps.has_del_other e,kZ e];exact h.2 k'
def aS.look_ok(h:aS w P k b f){t e:az}(K:Keyed P k)(ht:P.underlying t=Y (.map k e)){z:aj}(hz:(zeroValue e).run P w=.ok z w){key:aj}{kl:Lit}(hkey:keyOf P k key=Y kl):
 (Instr.lookup t (.map (Y b)) key Z6).run P w=.ok (.tuple #[(f kl).getD z,.bool (f kl).isSome]) w:=by
 obtain⟨n,D,h,hs⟩:=h;obtain⟨v,ps,hrun,hv⟩:=h.look_ok K ht hz (zd:=.held z) (zp:= []) rfl hkey;rw[hrun,hs.2 kl];have:v=(f kl).getD z:=by
  simp only[aY,Option.some.injEq,Prod.mk.injEq]at hv;cases hf:f kl with
  |none=>
   have h0:=hs.2 kl;rw[hf]at h0;rw[Maps.atKey_of_not_has h0]at hv;have:=hv.1;injection this
  |some u=>
   rw[hs.1 kl u hf]at hv;have:=hv.1;injection this
 rw[this]
def aS.look(h:aS w P k b f){t e:az}(K:Keyed P k)(ht:P.underlying t=Y (.map k e))(hz:(zeroValue e).run P w=.ok z w){key:aj}(hkey:keyOf P k key=Y kl):
 (Instr.lookup t (.map (Y b)) key E).run P w=.ok ((f kl).getD z) w:=by
 obtain⟨n,D,h,hs⟩:=h;obtain⟨v,ps,hrun,hv⟩:=h.lookup K ht hz (zd:=.held z) (zp:= []) rfl hkey;rw[hrun];have:v=(f kl).getD z:=by
  simp only[aY,Option.some.injEq,Prod.mk.injEq]at hv;cases hf:f kl with
  |none=>
   have h0:=hs.2 kl;rw[hf]at h0;rw[Maps.atKey_of_not_has h0]at hv;have:=hv.1;injection this
  |some u=>
   rw[hs.1 kl u hf]at hv;have:=hv.1;injection this
 rw[this]
def jY{α:Type}:∀(l L:List α),l.Pairwise (λa b=>a≠b)->(∀x∈l,x∈L)->l.length<=L.length
 | [],_,_,_=>zab _
 |x :: r,L,hp,hs=>by
  obtain⟨hx,hr⟩:=List.pairwise_cons.1 hp;obtain⟨A,B,rfl⟩:=List.append_of_mem (hs x (List.mem_cons_self ..));have:=jY r (A++B) hr (λy hy=>by
   have h1:=hs y (List.mem_cons_of_mem _ hy);simp only[List.mem_append,List.mem_cons]at h1⊢;rcases h1 with h1|h1|h1
   ·exact Or.inl h1
   ·exact absurd h1.symm (hx y hy)
   ·exact Or.inr h1)
  simp at this⊢;omega
def tight{D:DataW aj}(h:w.ownsMap P k aY b n D)(K:Keyed P k)(hs:Says D f){L:List Lit}(hL:∀kl,f kl≠F->kl∈L):w.ownsMap P k aY b L.length D:=by
 have ht:=h.entries K;obtain⟨es,clock,hb,wv,hn,hD⟩:=h;refine⟨es,clock,hb,wv,?_,hD⟩;obtain⟨es',hD',hp,hks⟩:=ht;have e1:es.size=es'.length:=by rw[hD']at hD;injection hD with hD;rw[hD,length_sorted];simp
 rw[e1,<-List.length_map (f:=Prod.fst)];refine jY _ _ (List.pairwise_map.2 hp) (λkl wN=>hL kl (λe=>?_));have h2:=hs.2 kl;rw[e]at h2;obtain⟨p,rz,rfl⟩:=List.mem_map.1 wN;have hk:=hks p rz;have:Maps.has D p.1=Z6:=by rw[hD',Maps.has_eq,ai3];exact⟨p,rz,ny hk⟩
 rw[this]at h2;cases h2
def aS.store(h:aS w P k b f){t e:az}(K:Keyed P k)(ht:P.underlying t=Y (.map k e))(L:List Lit)(hL:∀kl,f kl≠F->kl∈L)(hn:L.length<maxLen){key:aj}{kl:Lit}(hkey:keyOf P k key=Y kl)(v:aj):
 ∃w',(Instr.mapUpdate t (.map (Y b)) key v).run P w=.ok () w'/\aS w' P k b (upd f kl v)/\w.mapTurned w' b:=by obtain⟨n,D,h,hs⟩:=h;obtain⟨w',hrun,h',ht'⟩:=(tight h K hs hL).store K ht hn (d:=.held v) (ps:= []) hkey rfl;exact⟨w',hrun,⟨_,_,h',hs.put h.isMap (K.key hkey) v⟩,ht'⟩
def aS.drop(h:aS w P k b f){t e:az}(K:Keyed P k)(ht:P.underlying t=Y (.map k e)){key:aj}{kl:Lit}(hkey:keyOf P k key=Y kl)(ty:az):
 ∃w',(Builtin.delete_ #[t,k] ty #[.map (Y b),key]).run P w=.ok (.tuple #[]) w'/\aS w' P k b (del f kl)/\w.mapTurned w' b:=by obtain⟨n,D,h,hs⟩:=h;obtain⟨w',hrun,h',ht'⟩:=h.drop K ht hkey ty;exact⟨w',hrun,⟨_,_,h',hs.del (K.key hkey)⟩,ht'⟩
def Fq(h:w.mapTurned w' b):w'.heap.size=w.heap.size:=by obtain⟨es,clock,es',clock',hb,rfl⟩:=h;simp[ChangeMaps.setBlock]
def C5(h:w.mapTurned w' b){k:Nat}(hk:k≠b):w'.heap[k]?=w.heap[k]? :=by obtain⟨es,clock,es',clock',hb,rfl⟩:=h;exact ChangeMaps.heap_setBlock_other hb _ hk
end
section
variable {P:aB}(w:af){ops:Array Oper}{rest:List Oper}{o:Oper}{a:Act}{Q:Exit->Act->af->Prop}
def cG(hg:o.guard=F)(m x:aD)(t:az)(hop:o.op=Op.lookup t m x Z6)
 (k e:az) (K:Keyed P k) (ht:P.underlying t=Y (.map k e)) {z:aj} (hz:(zeroValue e).run P w=.ok z w) (b:Nat) (f:Lit->Option aj)
 (hm:a.eval m=.map (Y b)) (hown:aS w P k b f) (key:aj) (kl:Lit) (hx:a.eval x=key) (hkey:keyOf P k key=Y kl) (fv:Option aj) (hf:f kl=fv)
 (hK:wpList P ops Q rest (a.put o.dst (.tuple #[fv.getD z,.bool fv.isSome])) w):
 wpList P ops Q (o :: rest) a w:=by refine ay9 hg λK' hK'=>?_;have hrun:=hown.look_ok K ht hz hkey;rw[hf]at hrun;unfold Oper.wp;simp[execOp,hop,hm,hx,hrun,aj7];exact hK' _ _ hK
def ox(hg:o.guard=F)(m x:aD)(t:az)(hop:o.op=Op.lookup t m x E)
 (k e:az) (K:Keyed P k) (ht:P.underlying t=Y (.map k e)) {z:aj} (hz:(zeroValue e).run P w=.ok z w) (b:Nat) (f:Lit->Option aj)
 (hm:a.eval m=.map (Y b)) (hown:aS w P k b f) (key:aj) (kl:Lit) (hx:a.eval x=key) (hkey:keyOf P k key=Y kl) (fv:Option aj) (hf:f kl=fv)
 (hK:wpList P ops Q rest (a.put o.dst (fv.getD z)) w):
 wpList P ops Q (o :: rest) a w:=by refine ay9 hg λK' hK'=>?_;have hrun:=hown.look K ht hz hkey;rw[hf]at hrun;unfold Oper.wp;simp[execOp,hop,hm,hx,hrun,aj7];exact hK' _ _ hK
def qc(hg:o.guard=F)(m x v:aD)(t:az)(hop:o.op=Op.mapUpdate t m x v)
 (k e:az) (K:Keyed P k) (ht:P.underlying t=Y (.map k e)) (b:Nat) (f:Lit->Option aj)
 (hm:a.eval m=.map (Y b)) (hown:aS w P k b f) (L:List Lit) (hL:∀kl,f kl≠F->kl∈L) (hn:L.length<maxLen) (key val:aj) (kl:Lit) (hx:a.eval x=key) (hv:a.eval v=val) (hkey:keyOf P k key=Y kl)
 (hK:∀w',aS w' P k b (upd f kl val)->w.mapTurned w' b->wpList P ops Q rest (a.put o.dst undef) w'):
 wpList P ops Q (o :: rest) a w:=by refine ay9 hg λK' hK'=>?_;obtain⟨w',hrun,r1,r2⟩:=hown.store K ht L hL hn hkey val;unfold Oper.wp;simp[execOp,hop,hm,hx,hv,hrun,aj7];exact hK' _ _ (hK w' r1 r2)
def qd(hg:o.guard=F)(m x:aD)(t k:az)(hop:o.op=Op.call {callee:=Callee.builtin Builtin.delete,args:=#[m,x],argTypes:=#[t,k]})
 (e:az) (K:Keyed P k) (ht:P.underlying t=Y (.map k e)) (b:Nat) (f:Lit->Option aj)
 (hm:a.eval m=.map (Y b)) (hown:aS w P k b f) (key:aj) (kl:Lit) (hx:a.eval x=key) (hkey:keyOf P k key=Y kl)
 (hK:∀w',aS w' P k b (del f kl)->w.mapTurned w' b->wpList P ops Q rest (a.put o.dst (.tuple #[])) w'):
 wpList P ops Q (o :: rest) a w:=by refine ay9 hg λK' hK'=>?_;obtain⟨w',hrun,r1,r2⟩:=hown.drop K ht hkey o.type;unfold Oper.wp;simp[execOp,hop,resolve,invoke,builtin,hm,hx,hrun,aj7];exact hK' _ _ (hK w' r1 r2)
end
end
section
open Go Go.RowKit
def Fj(c n:Int)(w:af)(hc: -9223372036854775808<=c)(AM:c<=9223372036854775807)(hn:0<n)(hn':n<=1000):
 Calls prog 57 #[.int .i64 c,.int .i64 n] w λe w'=>e=.returned (.int .i64 (lF c n))/\w'=w:=by
 by_cases h:c<0
 ·go_enter func57,ntmps57;go_wp2;go_ret;exact⟨gn (by rw[<-Qn c n h]),rfl⟩
 ·go_enter func57,ntmps57;go_wp2;go_ret;exact⟨gn (by rw[<-Qo c n I]),rfl⟩
def zJ(s:ah)(w:af)(hs:s.size<=maxLen):
 Calls prog 94 #[.string s] w λe w'=>e=.returned (.bool (bz s))/\w'=w:=by
 unfold maxLen at hs;by_cases h1:1<=s.size
 ·by_cases h2:s.size<=8
  ·go_enter func94,ntmps94;go_wp2;go_ret;exact⟨cJ (by simp[bz,h1,h2];omega),rfl⟩
  ·go_enter func94,ntmps94;go_wp2;go_ret;exact⟨cJ (by simp[bz,h2];omega),rfl⟩
 ·go_enter func94,ntmps94;go_wp2;go_ret;exact⟨cJ (by simp[bz];omega),rfl⟩
def uF(b:Nat)(n:Int)(s:ah)(w:af)(hs:s.size<=1000)(hn:0<n)(hn':n<=4)(hp:w.cell? ⟨b,0,F⟩=Y (.int .i64 n)):
 Calls prog 95 #[.pointer (Y ⟨b,0,F⟩),.string s] w λe w'=>e=.returned (.int .i64 (partOf n s))/\w'=w:=by
 go_enter func95,ntmps95;go_wp2;go_loop [5,6] (λm i=>∃k:Nat,k<=s.size/\i=.int .i64 k/\m=.int .i64 (gU (s.data.toList.take k))) (λ_ i=>s.size-(intOf i).toNat)
 case atStart=>exact⟨0,zab _,rfl,rfl⟩
 case round=>
  obtain⟨k,hk,rfl,rfl⟩:=hrel;have hd:=sK (s.data.toList.take k);have hl:(s.data.toList.take k).length<=k:=List.length_take_le _ _;by_cases hlt:k<s.size
  ·have HS:Hid (gU (s.data.toList.take (k+1))=gU (s.data.toList.take k)+(s[k].toNat:Int)):=by rw[vr s k hlt];exact uk _ _
   go_wp2;go_round
   case rel=>exact⟨k+1,I,by go_num,by rw[HS.out,Lx,Kr I (by have:=s[k].toNat_lt;omega)]⟩
   case measure=>simp[intOf];omega
  ·have hk':k=s.size:=I
   go_wp2;go_ret;exact⟨gn (by rw[as8 XI,Int.tmod_eq_emod_of_nonneg (sK _).1];rfl),rfl⟩
def ed(iv:aj)(m:MW):Array aj:=
 #[iv,.bool (m.cC 0),.bool (m.cC 1),.bool (m.cC 2),.bool (m.cC 3),.bool (m.comm 0),.bool (m.comm 1),.bool (m.comm 2),.bool (m.comm 3),.bool m.dF]
structure RB where
 rb:Nat->Nat
 kv:Nat->aj
 av:Nat->aj
 fv:Nat->aj
structure RA where
 arr:aj
 rv:aj
 wb:Nat->Nat
 iv:Nat->aj
 B:RB
def yx(B:RB)(i:Nat)(r:MR):Array aj:=#[B.kv i,B.av i,B.fv i,.bool r.fin]
structure RdR(w:af)(τ:Nat->Tag)(aJ:Nat)(rv:aj)(rs:List MR)(B:RB):Prop where
 arr:w.ownsRow 0 191 1 rv rs.length ((ab8 rs.length).map (λi=>ptr (B.rb i)))
 dc:∀k,rv.ownBlock=Y k->τ k=(aJ,4,0)
 rd:∀(i:Nat) (r:MR),rs[i]?=Y r->aT w (B.rb i) (yx B i r) 195
 eP:∀i,i<rs.length->τ (B.rb i)=(aJ,5,i)
 ks:∀(i:Nat) (r:MR),rs[i]?=Y r->w.ownsRow 0 9 1 (B.kv i) r.keys.length (r.keys.map .string)
 w9:∀i k,i<rs.length->(B.kv i).ownBlock=Y k->τ k=(aJ,6,i)
 aq:∀(i:Nat) (r:MR),rs[i]?=Y r->w.ownsRow 0 4 1 (B.av i) r.keys.length ((ab8 r.keys.length).map (λj=>.bool (r.asked j)))
 oU:∀i k,i<rs.length->(B.av i).ownBlock=Y k->τ k=(aJ,7,i)
 fs:∀(i:Nat) (r:MR),rs[i]?=Y r->w.ownsRow 0 3 1 (B.fv i) r.keys.length ((ab8 r.keys.length).map (λj=>.int .i64 (r.found j)))
 oV:∀i k,i<rs.length->(B.fv i).ownBlock=Y k->τ k=(aJ,8,i)
def RdR.frame{τ τ':Nat->Tag}{rv:aj}{rs:List MR}{B:RB}(h:RdR w τ aJ rv rs B)
 (hf:∀k,k<w.heap.size->(τ k).1=aJ->4<=(τ k).2.1->w'.heap[k]?=w.heap[k]? /\τ' k=τ k):RdR w' τ' aJ rv rs B:=by
 have fV:∀{k:Nat} {c:Array aj} {t:az} {g g':Nat},4<=g->aT w k c t->τ k=(aJ,g,g')->aT w' k c t/\τ' k=(aJ,g,g'):=by intro k c t g g' hg hb ht;obtain⟨e1,e2⟩:=hf k hb.lt (by rw[ht]) (by rw[ht];exact hg);exact⟨hb.of_eq e1,e2.trans ht⟩
 have hrow:∀{e:az} {sz:Nat} {v:aj} {n:Nat} {xs:List aj} {g g':Nat},4<=g->w.ownsRow 0 e sz v n xs->(∀k,v.ownBlock=Y k->τ k=(aJ,g,g'))->w'.ownsRow 0 e sz v n xs/\∀k,v.ownBlock=Y k->τ' k=(aJ,g,g'):=by intro e sz v n xs g g' hg ho hv;refine⟨aI ho (λk hk=>(hf k (aQ ho k hk).2 (by rw[hv k hk]) (by rw[hv k hk];exact hg)).1),λk hk=>?_⟩;rw[(hf k (aQ ho k hk).2 (by rw[hv k hk]) (by rw[hv k hk];exact hg)).2,hv k hk]
 have hat:∀{i:Nat},i<rs.length->∃r,rs[i]?=Y r:=λhi=>⟨_,zaa hi⟩
 refine⟨(hrow I h.arr h.dc).1,(hrow I h.arr h.dc).2,λi r hr=>(fV I (h.rd i r hr) (h.eP i (aH hr))).1,λi hi=>?_,
  λi r hr=>(hrow I (h.ks i r hr) (λk=>h.w9 i k (aH hr))).1,λi k hi=>?_,
  λi r hr=>(hrow I (h.aq i r hr) (λk=>h.oU i k (aH hr))).1,λi k hi=>?_,
  λi r hr=>(hrow I (h.fs i r hr) (λk=>h.oV i k (aH hr))).1,λi k hi=>?_⟩
 ·obtain⟨r,hr⟩:=hat hi;exact(fV I (h.rd i r hr) (h.eP i hi)).2
 ·obtain⟨r,hr⟩:=hat hi;exact(hrow I (h.ks i r hr) (λk=>h.w9 i k hi)).2 k
 ·obtain⟨r,hr⟩:=hat hi;exact(hrow I (h.aq i r hr) (λk=>h.oU i k hi)).2 k
 ·obtain⟨r,hr⟩:=hat hi;exact(hrow I (h.fs i r hr) (λk=>h.oV i k hi)).2 k
structure bh(w:af)(τ:Nat->Tag)(aJ b:Nat)(s:MS)(A:RA):Prop where
 ok:MOk s
 blk:aT w b #[.int .i64 s.parts,.int .i64 s.mode,A.arr,A.rv] 188
 tag:τ b=(aJ,0,0)
 arr:w.ownsRow 0 180 1 A.arr s.ws.length ((ab8 s.ws.length).map (λi=>ptr (A.wb i)))
 dc:∀k,A.arr.ownBlock=Y k->τ k=(aJ,1,0)
 wr:∀(i:Nat) (m:MW),s.ws[i]?=Y m->aT w (A.wb i) (ed (A.iv i) m) 184
 cM:∀i,i<s.ws.length->τ (A.wb i)=(aJ,2,i)
 it:∀(i:Nat) (m:MW),s.ws[i]?=Y m->w.ownsRow 0 70 2 (A.iv i) m.items.length (bl m.items)
 cY:∀i k,i<s.ws.length->(A.iv i).ownBlock=Y k->τ k=(aJ,3,i)
 reads:RdR w τ aJ A.rv s.rs A.B
section
variable {w:af}{τ:Nat->Tag}{aJ b:Nat}{s:MS}{A:RA}
def Jz{s:MS}{n:Int}(h:bL s n=F):n<1\/(s.ws.length:Int)<n\/(1<=n/\n<=s.ws.length/\∃m,s.ws[(n-1).toNat]?=Y m/\m.dF=Z6):=by
 unfold bL at h;split at h
 ·omega
 ·rename_i hb;have hlt:(n-1).toNat<s.ws.length:=I
  rw[zaa hlt]at h;simp only at h;refine Or.inr (Or.inr ⟨I,I,_,zaa hlt,?_⟩);cases hc:s.ws[(n-1).toNat].dF
  ·rw[hc]at h;simp at h
  ·rfl
def jQ{s:MS}{n:Int}{m:MW}(h:bL s n=Y m):1<=n/\n<=s.ws.length/\s.ws[(n-1).toNat]?=Y m/\m.dF=E:=by
 unfold bL at h;split at h
 ·cases h
 ·rename_i hb;have hlt:(n-1).toNat<s.ws.length:=I
  rw[zaa hlt]at h;simp only at h;split at h
  ·cases h
  ·rename_i hc;cases h;exact⟨I,I,zaa hlt,by simpa using hc⟩
def bh.Du(h:bh w τ aJ b s A):w.cell? ⟨b,0,F⟩=Y (.int .i64 s.parts):=h.blk.cell (o:=0) rfl
def bh.Rp(h:bh w τ aJ b s A):∃a cap,A.arr=.slice a s.ws.length cap/\w.cell? ⟨b,2,F⟩=Y (.slice a s.ws.length cap):=by obtain⟨a,cap,hv⟩:=bI h.arr;exact⟨a,cap,hv,by rw[<-hv];exact h.blk.cell (o:=2) rfl⟩
def bh.cAt(h:bh w τ aJ b s A){m:MW}(hm:s.ws[i]?=Y m):
 ∃g cap,w.cell? ⟨b,2,F⟩=Y (.slice (Y ⟨g,0,F⟩) s.ws.length cap)/\w.cell? ⟨g,i,F⟩=Y (.pointer (Y ⟨A.wb i,0,F⟩)):=by have hi:i<s.ws.length:=(List.getElem?_eq_some_iff.1 hm).1;obtain⟨g,cap,hv,_,_,hcell,_⟩:=aZ h.arr I;refine⟨g,cap,by rw[<-hv];exact h.blk.cell (o:=2) rfl,?_⟩;rw[hcell i I,List.getElem?_map,List.getElem?_range hi];rfl
def bh.Rk(h:bh w τ aJ b s A){m:MW}(hm:s.ws[i]?=Y m):w.cell? ⟨A.wb i,9,F⟩=Y (.bool m.dF):=(h.wr i m hm).cell (o:=9) rfl
def qw(h:bh w τ aJ b s A)(n:Int)(hn: -9223372036854775808<=n)(hn':n<=9223372036854775807)(hf:bL s n=F):
 Calls prog 98 #[ptr b,.int .i64 n] w λe w'=>e=.returned (.pointer F)/\w'=w:=by
 have hlen:=h.ok.len;unfold ptr;rcases Jz hf with h1|h1|⟨h1,h2,m,hm,hc⟩
 ·go_enter func98,ntmps98;go_wp2;go_ret;exact⟨rfl,rfl⟩
 ·have h3:¬n<1:=I
  obtain⟨a,cap,hv,c2⟩:=h.Rp;clear hv;go_enter func98,ntmps98;go_wp2;go_ret;exact⟨rfl,rfl⟩
 ·have h3:¬n<1:=I
  have h4:¬(s.ws.length:Int)<n:=I
  obtain⟨i,hi⟩:∃i:Nat,n=(i:Int)+1:=⟨(n-1).toNat,I⟩
  subst hi;have hx:((i:Int)+1-1).toNat=i:=I
  rw[hx]at hm;obtain⟨g,cap,c2,ci⟩:=h.cAt hm;have c9:=h.Rk hm;rw[hc]at c9;clear hf hm hc hx;go_enter func98,ntmps98;go_wp2;go_ret;exact⟨rfl,rfl⟩
def qy(h:bh w τ aJ b s A)(n:Int)(m:MW)(hf:bL s n=Y m):
 Calls prog 98 #[ptr b,.int .i64 n] w λe w'=>e=.returned (ptr (A.wb (n-1).toNat))/\w'=w:=by
 have hlen:=h.ok.len;unfold ptr;obtain⟨h1,h2,hm,hc⟩:=jQ hf;have h3:¬n<1:=I
 have h4:¬(s.ws.length:Int)<n:=I
 obtain⟨i,hi⟩:∃i:Nat,n=(i:Int)+1:=⟨(n-1).toNat,I⟩
 subst hi;have hx:((i:Int)+1-1).toNat=i:=I
 rw[hx]at hm⊢;obtain⟨g,cap,c2,ci⟩:=h.cAt hm;have c9:=h.Rk hm;rw[hc]at c9;clear hf hm hc hx;go_enter func98,ntmps98;go_wp2;go_ret;exact⟨rfl,rfl⟩
end
def FY(n:Int)(l:List KV)(p:Int)(k:Nat)(x:KV)(h:l[k]?=Y x):aK n (l.take (k+1)) p=(aK n (l.take k) p || decide (partOf n x.1=p)):=by
 have:l.take (k+1)=l.take k++ [x]:=by obtain⟨hk,rfl⟩:=List.getElem?_eq_some_iff.1 h;exact zac hk
 simp[aK,this]
def Js(n:Int)(l:List KV)(p:Int)(x:KV)(h:x∈l)(hx:partOf n x.1=p):aK n l p=Z6:=by simp only[aK,ai3,decide_eq_true_eq];exact⟨x,h,hx⟩
section
variable {w:af}{τ:Nat->Tag}{aJ b:Nat}{s:MS}{A:RA}
def bh.Ri(h:bh w τ aJ b s A){m:MW}(hm:s.ws[i]?=Y m)(hl:0<m.items.length):
 ∃g cap,w.cell? ⟨A.wb i,0,F⟩=Y (.slice (Y ⟨g,0,F⟩) m.items.length cap)/\∀(k:Nat) (x:KV),m.items[k]?=Y x->w.cell? ⟨g,k*2,F⟩=Y (.string x.1)/\w.cell? ⟨g,k*2+1,F⟩=Y (.string x.2):=by obtain⟨g,cap,hv,_,_,hcell,_⟩:=aZ (h.it i m hm) hl;refine⟨g,cap,by rw[<-hv];exact(h.wr i m hm).cell (o:=0) rfl,λk x hx=>?_⟩;have hk:k<m.items.length:=(List.getElem?_eq_some_iff.1 hx).1;obtain⟨e1,e2⟩:=oy _ _ _ hx;exact⟨by rw[hcell _ I,e1],by rw[hcell _ I,e2]⟩
def Jt(h:bh w τ aJ b s A){m:MW}(hm:s.ws[i]?=Y m)(p:Int):
 Calls prog 99 #[ptr b,ptr (A.wb i),.int .i64 p] w λe w'=>e=.returned (.bool (aK s.parts m.items p))/\w'=w:=by
 have hp1:=h.ok.p1;have IV:=h.ok.p4;obtain⟨hil,ZW⟩:=h.ok.items i m hm;have cP:=h.Du;unfold ptr;by_cases hl:m.items.length=0
 ·have hnil:m.items= []:=List.eq_nil_of_length_eq_zero hl;obtain⟨a,cap,hv⟩:=bI (h.it i m hm);have c0:w.cell? ⟨A.wb i,0,F⟩=Y (.slice a 0 cap):=by have:=(h.wr i m hm).cell (o:=0) (v:=A.iv i) rfl;rw[hv,hl]at this;exact this
  have hr:aK s.parts m.items p=E:=by simp[hnil,aK]
  rw[hr];clear hr hnil hv hl hm hil;go_enter func99,ntmps99;go_wp2;refine wp_loop_rounds 1 ?_;rw[rounds_succ];go_wp2;go_ret;exact⟨rfl,rfl⟩
 ·obtain⟨g,cap,c0,hcell⟩:=h.Ri hm I;go_enter func99,ntmps99;go_wp2;go_loop [7] (λu=>∃k:Nat,k<=m.items.length/\u=.int .i64 k/\Hid (aK s.parts (m.items.take k) p=E)) (λu=>m.items.length-(intOf u).toNat)
  case atStart=>exact⟨0,zab _,rfl,by simp[Hid,aK]⟩
  case round=>
   obtain⟨k,hk,rfl,HO⟩:=hrel;by_cases hlt:k<m.items.length
   ·have hx:m.items[k]?=Y m.items[k]:=zaa hlt;obtain⟨ck,_⟩:=hcell k _ hx;clear hcell;have zv:=gl (ZW _ (ap0 hlt));have hst:=FY s.parts m.items p k _ hx;have hme:=Js s.parts m.items p m.items[k] (ap0 hlt);rw[HO.out]at hst;generalize m.items[k]=x at *;obtain⟨kk,vv⟩:=x;simp only at ck zv hst hme;by_cases he:partOf s.parts kk=p
    ·have Hme:Hid (aK s.parts m.items p=Z6):=hme he;clear hme hst hx ZW;have heb:(partOf s.parts kk == p)=Z6:=beq_iff_eq.2 he;clear he;go_wp2_with (go_at_call 95;refine(uF _ _ _ _ I I I cP).mono ?_;rintro e w' ⟨rfl,rfl⟩)
     go_ret;exact⟨cJ Hme.out.symm,rfl⟩
    ·have Hst:Hid (aK s.parts (m.items.take (k+1)) p=E):=by unfold Hid;rw[hst];simp[he]
     clear hme hst hx ZW;have heb:(partOf s.parts kk == p)=E:=beq_eq_false_iff_ne.2 he;clear he;go_wp2_with (go_at_call 95;refine(uF _ _ _ _ I I I cP).mono ?_;rintro e w' ⟨rfl,rfl⟩)
     go_round
     case rel=>exact⟨k+1,I,by go_num,Hst⟩
     case measure=>simp[intOf];omega
   ·have Hf:Hid (aK s.parts m.items p=E):=by unfold Hid;rw[<-HO.out,as8 I]
    go_wp2;go_ret;exact⟨cJ Hf.out.symm,rfl⟩
end
section
variable {w:af}{τ:Nat->Tag}{aJ b:Nat}{s:MS}{A:RA}
def bh.om(h:bh w τ aJ b s A){m m':MW}(hm:s.ws[i]?=Y m)(hit:m'.items=m.items)(hg:w.grownBy w' (Y (A.wb i)))(hb:aT w' (A.wb i) (ed (A.iv i) m') 184):
 bh w' τ aJ b {s with ws:=s.ws.set i m'} A:=by
 have hi:=aH hm;have UK:=h.cM i hi;have hne:∀k,τ k≠(aJ,2,i)->k<w.heap.size->w'.heap[k]?=w.heap[k]? :=λk hk hl=>hg.block k hl (λe=>hk (by rw[Option.some.inj e];exact UK));have hrow:∀{e:az} {sz:Nat} {v:aj} {n:Nat} {xs:List aj},w.ownsRow 0 e sz v n xs->(∀k,v.ownBlock=Y k->τ k≠(aJ,2,i))->w'.ownsRow 0 e sz v n xs:=by
  intro e sz v n xs ho hv;refine ho.kept hg ?_;cases Ix:v.ownBlock with
  |none=>exact Or.inl rfl
  |some k=>exact Or.inr (λe=>hv k Ix (by rw[Option.some.inj e];exact UK))
 refine⟨⟨h.ok.p1,h.ok.p4,by simpa using h.ok.len,λj mj hj=>?_,h.ok.keys,h.ok.opn⟩,?_,h.tag,?_,h.dc,λj mj hj=>?_,?_,λj mj hj=>?_,?_,h.reads.frame (λk hk _ h4=>⟨hne k (λe=>by rw[e]at h4;simp at h4) hk,rfl⟩)⟩
 ·rcases cS hj with⟨rfl,rfl⟩|⟨e,hj⟩
  ·rw[hit];exact h.ok.items i m hm
  ·exact h.ok.items j mj hj
 ·exact h.blk.of_eq (hne b (by rw[h.tag];simp) h.blk.lt)
 ·simp only[List.length_set];exact hrow h.arr (λk hk=>by rw[h.dc k hk];simp)
 ·rcases cS hj with⟨rfl,rfl⟩|⟨e,hj⟩
  ·exact hb
  ·have hw:=h.wr j mj hj;exact hw.of_eq (hne _ (by rw[h.cM j (aH hj)];simp;omega) hw.lt)
 ·simpa using h.cM
 ·rcases cS hj with⟨rfl,rfl⟩|⟨e,hj⟩
  ·rw[hit];exact hrow (h.it i m hm) (λk hk=>by rw[h.cY i k hi hk];simp)
  ·exact hrow (h.it j mj hj) (λk hk=>by rw[h.cY j k (aH hj) hk];simp)
 ·simpa using h.cY
def bh.Wp(h:bh w τ aJ b s A){m:MW}(hm:s.ws[i]?=Y m)(hq:q<4):w.cell? ⟨A.wb i,1+q,F⟩=Y (.bool (m.cC q)):=by
 refine(h.wr i m hm).cell ?_;match q,hq with
 | 0,_=>rfl
 | 1,_=>rfl
 | 2,_=>rfl
 | 3,_=>rfl
def bh.Rj(h:bh w τ aJ b s A){m:MW}(hm:s.ws[i]?=Y m)(hq:q<4):w.cell? ⟨A.wb i,5+q,F⟩=Y (.bool (m.comm q)):=by
 refine(h.wr i m hm).cell ?_;match q,hq with
 | 0,_=>rfl
 | 1,_=>rfl
 | 2,_=>rfl
 | 3,_=>rfl
def Dv(iv:aj)(m:MW)(hq:q<4):(ed iv m).setIfInBounds (1+q) (.bool Z6)=ed iv {m with cC:=put m.cC q}:=by
 match q,hq with
 | 0,_=>simp[ed,put]
 | 1,_=>simp[ed,put]
 | 2,_=>simp[ed,put]
 | 3,_=>simp[ed,put]
def Dw(iv:aj)(m:MW)(hq:q<4):(ed iv m).setIfInBounds (5+q) (.bool Z6)=ed iv {m with comm:=put m.comm q}:=by
 match q,hq with
 | 0,_=>simp[ed,put]
 | 1,_=>simp[ed,put]
 | 2,_=>simp[ed,put]
 | 3,_=>simp[ed,put]
def Dx(iv:aj)(m:MW):(ed iv m).setIfInBounds 9 (.bool Z6)=ed iv {m with dF:=Z6}:=by simp[ed]
def bh.cC(h:bh w τ aJ b s A){i:Nat}{m:MW}(hm:s.ws[i]?=Y m){q:Nat}(hq:q<4):
 bh (w.setCell ⟨A.wb i,1+q,F⟩ (.bool Z6)) τ aJ b {s with ws:=s.ws.set i {m with cC:=put m.cC q}} A:=
 h.om (m':={m with cC:=put m.cC q}) hm rfl (grownBy_setCell _ _ _) (by rw[<-Dv _ _ hq];exact(h.wr i m hm).set _ _)
def bh.comm(h:bh w τ aJ b s A){i:Nat}{m:MW}(hm:s.ws[i]?=Y m){q:Nat}(hq:q<4):
 bh (w.setCell ⟨A.wb i,5+q,F⟩ (.bool Z6)) τ aJ b {s with ws:=s.ws.set i {m with comm:=put m.comm q}} A:=
 h.om (m':={m with comm:=put m.comm q}) hm rfl (grownBy_setCell _ _ _) (by rw[<-Dw _ _ hq];exact(h.wr i m hm).set _ _)
def bh.dF(h:bh w τ aJ b s A){i:Nat}{m:MW}(hm:s.ws[i]?=Y m):
 bh (w.setCell ⟨A.wb i,9,F⟩ (.bool Z6)) τ aJ b {s with ws:=s.ws.set i {m with dF:=Z6}} A:=
 h.om (m':={m with dF:=Z6}) hm rfl (grownBy_setCell _ _ _) (by rw[<-Dx];exact(h.wr i m hm).set _ _)
def Fl(w:af)(τ:Nat->Tag)(aJ b:Nat)(A:RA)(r:Int×MS)(e:Ending)(w':af):Prop:=
 e=.returned (.int .i64 r.1)/\bh w' τ aJ b r.2 A/\Stp aJ τ w τ w'
def PU(h:bh w τ aJ b s A)(n p:Int)(hn: -9223372036854775808<=n)(hn':n<=9223372036854775807):
 Calls prog 60 #[ptr b,.int .i64 n,.int .i64 p] w (Fl w τ aJ b A (bS s n p)):=by
 cases hf:bL s n with
 |none=>
  have Hr:Hid (bS s n p=(7,s)):=by unfold Hid bS;rw[hf]
  have c:=qw h n hn hn' hf;unfold ptr at c⊢;clear hf;go_enter func60,ntmps60;go_wp2_with fail
  refine c.mono ?_;rintro e w' ⟨rfl,rfl⟩;go_wp2_with fail
  go_ret;rw[Hr.out];exact⟨rfl,h,Stp.refl _ _ _⟩
 |some m=>
  obtain⟨h1,h2,hm,hc⟩:=jQ hf;have c:=qy h n m hf;generalize hi:(n-1).toNat=i at *;have wZ:=Jt h hm p;have IV:=h.ok.p4;have hp1:=h.ok.p1;cases lU:aK s.parts m.items p with
  |false=>
   have Hr:Hid (bS s n p=(8,s)):=by unfold Hid bS;rw[hf];simp[lU]
   rw[lU]at wZ;unfold ptr at c wZ⊢;clear hf lU;go_enter func60,ntmps60;go_wp2_with fail
   refine c.mono ?_;rintro e w' ⟨rfl,rfl⟩;go_wp2_with fail
   refine wZ.mono ?_;rintro e w' ⟨rfl,rfl⟩;go_wp2_with fail
   go_ret;rw[Hr.out];exact⟨rfl,h,Stp.refl _ _ _⟩
  |true=>
   obtain⟨hb0,jd⟩:=dh I lU;obtain⟨q,rfl⟩:=Int.eq_ofNat_of_zero_le hb0;have hq:q<4:=I
   have cp:=h.Wp hm hq;have fp:=(h.wr i m hm).frozen (1+q);rw[lU]at wZ;unfold ptr at c wZ⊢;cases hpq:m.cC q with
   |true=>
    have Hr:Hid (bS s n q=(10,s)):=by unfold Hid bS;rw[hf];simp[lU,hpq]
    rw[hpq]at cp;clear hf lU hpq;go_enter func60,ntmps60;go_wp2_with fail
    refine c.mono ?_;rintro e w' ⟨rfl,rfl⟩;go_wp2_with fail
    refine wZ.mono ?_;rintro e w' ⟨rfl,rfl⟩;go_wp2_with fail
    go_ret;rw[Hr.out];exact⟨rfl,h,Stp.refl _ _ _⟩
   |false=>
    have Hr:Hid (bS s n q=(0,{s with ws:=s.ws.set i {m with cC:=put m.cC q}})):=by unfold Hid bS;rw[hf];simp[lU,hpq,om,hi]
    rw[hpq]at cp;have hR:=h.cC hm hq;clear hf lU hpq;go_enter func60,ntmps60;go_wp2_with fail
    refine c.mono ?_;rintro e w' ⟨rfl,rfl⟩;go_wp2_with fail
    refine wZ.mono ?_;rintro e w' ⟨rfl,rfl⟩;go_wp2_with fail
    go_ret;rw[Hr.out];exact⟨rfl,hR,(Stp.refl _ _ _).setCell (by rw[h.cM i (aH hm)]) _⟩
end
section
variable {w:af}{τ:Nat->Tag}{aJ b:Nat}{s:MS}{A:RA}
def Dy{m:MW}(h:∀q,q<n->aK n m.items q=Z6->m.cC q=Z6):cH n m=Z6:=by
 simp only[cH,aq2,at7];intro q hq;cases ho:aK n m.items q
 ·rfl
 ·simpa using h q hq ho
def Bf{m:MW}(hq:q<n)(ho:aK n m.items q=Z6)(hp:m.cC q=E):cH n m=E:=by
 cases ha:cH n m
 ·rfl
 ·simp only[cH,aq2,at7]at ha;have:=ha q hq;simp[ho,hp]at this
def T4(h:bh w τ aJ b s A)(n p:Int)(hn: -9223372036854775808<=n)(hn':n<=9223372036854775807):
 Calls prog 61 #[ptr b,.int .i64 n,.int .i64 p] w (Fl w τ aJ b A (bN s n p)):=by
 cases hf:bL s n with
 |none=>
  have Hr:Hid (bN s n p=(7,s)):=by unfold Hid bN;rw[hf]
  have c:=qw h n hn hn' hf;unfold ptr at c⊢;clear hf;go_enter func61,ntmps61;go_wp2_with fail
  refine c.mono ?_;rintro e w' ⟨rfl,rfl⟩;go_wp2_with fail
  go_ret;rw[Hr.out];exact⟨rfl,h,Stp.refl _ _ _⟩
 |some m=>
  obtain⟨h1,h2,hm,hc⟩:=jQ hf;have c:=qy h n m hf;generalize hi:(n-1).toNat=i at *;have wZ:=Jt h hm p;have IV:=h.ok.p4;have hp1:=h.ok.p1;cases lU:aK s.parts m.items p with
  |false=>
   have Hr:Hid (bN s n p=(8,s)):=by unfold Hid bN;rw[hf];simp[lU]
   rw[lU]at wZ;unfold ptr at c wZ⊢;clear hf lU;go_enter func61,ntmps61;go_wp2_with fail
   refine c.mono ?_;rintro e w' ⟨rfl,rfl⟩;go_wp2_with fail
   refine wZ.mono ?_;rintro e w' ⟨rfl,rfl⟩;go_wp2_with fail
   go_ret;rw[Hr.out];exact⟨rfl,h,Stp.refl _ _ _⟩
  |true=>
   obtain⟨hb0,jd⟩:=dh I lU;obtain⟨q,rfl⟩:=Int.eq_ofNat_of_zero_le hb0;have hq:q<4:=I
   have cq:=h.Rj hm hq;have fq:=(h.wr i m hm).frozen (5+q);have cP:=h.Du;rw[lU]at wZ;have H9:Hid (cH s.parts m=E->bN s n q=(9,s)):=by intro ha;unfold bN;rw[hf];simp[lU,ha]
   have H10:Hid (cH s.parts m=Z6->m.comm q=Z6->bN s n q=(10,s)):=by intro ha tY;unfold bN;rw[hf];simp[lU,ha,tY]
   have H0:Hid (cH s.parts m=Z6->m.comm q=E->bN s n q=(0,{s with ws:=s.ws.set i {m with comm:=put m.comm q}})):=by intro ha tY;unfold bN;rw[hf];simp[lU,ha,tY,om,hi]
   have hR:=h.comm hm hq;unfold ptr at c wZ⊢;clear hf lU;go_enter func61,ntmps61;go_wp2_with fail
   refine c.mono ?_;rintro e w' ⟨rfl,rfl⟩;go_wp2_with fail
   refine wZ.mono ?_;rintro e w' ⟨rfl,rfl⟩;clear c wZ;go_wp2_with fail
   go_loop [9] (λu=>∃k:Nat,k<=s.parts/\u=.int .i64 k/\Hid (∀j,j<k->aK s.parts m.items j=Z6->m.cC j=Z6)) (λu=>s.parts-(intOf u).toNat)
   case atStart=>exact⟨0,zab _,rfl,λj hj=>I⟩
   case round=>
    obtain⟨k,hk,rfl,HO⟩:=hrel;by_cases hlt:k<s.parts
    ·have wZ:=Jt h hm k;have ck:=h.Wp hm (q:=k) I;unfold ptr at wZ;cases lU:aK s.parts m.items k with
     |false=>
      have yO:Hid (∀j,j<k+1->aK s.parts m.items j=Z6->m.cC j=Z6):=by
       intro j hj UW;by_cases e:j=k
       ·subst e;rw[lU]at UW;cases UW
       ·exact HO.out j I UW
      rw[lU]at wZ;clear lU;go_wp2_with fail
      refine wZ.mono ?_;rintro e w' ⟨rfl,rfl⟩;clear wZ;go_wp2_with fail
      go_round
      case rel=>exact⟨k+1,I,by go_num,yO⟩
      case measure=>simp[intOf];omega
     |true=>
      cases hpk:m.cC k with
      |true=>
       have yO:Hid (∀j,j<k+1->aK s.parts m.items j=Z6->m.cC j=Z6):=by
        intro j hj UW;by_cases e:j=k
        ·subst e;exact hpk
        ·exact HO.out j I UW
       rw[lU]at wZ;rw[hpk]at ck;clear lU hpk;go_wp2_with fail
       refine wZ.mono ?_;rintro e w' ⟨rfl,rfl⟩;clear wZ;go_wp2_with fail
       go_round
       case rel=>exact⟨k+1,I,by go_num,yO⟩
       case measure=>simp[intOf];omega
      |false=>
       have Hr:=H9.out (Bf hlt lU hpk);have Wl:Hid (bN s n q=(9,s)):=Hr;rw[lU]at wZ;rw[hpk]at ck;clear lU hpk Hr;go_wp2_with fail
       refine wZ.mono ?_;rintro e w' ⟨rfl,rfl⟩;clear wZ;go_wp2_with fail
       go_ret;rw[Wl.out];exact⟨rfl,h,Stp.refl _ _ _⟩
    ·have ha:cH s.parts m=Z6:=Dy (λj hj=>HO.out j I);cases tY:m.comm q with
     |true=>
      have Hr:Hid (bN s n q=(10,s)):=H10.out ha tY;rw[tY]at cq;clear ha tY;go_wp2_with fail
      go_ret;rw[Hr.out];exact⟨rfl,h,Stp.refl _ _ _⟩
     |false=>
      have Hr:=H0.out ha tY;have Wl:Hid (bN s n q=_):=Hr;rw[tY]at cq;clear ha tY Hr;go_wp2_with fail
      go_ret;rw[Wl.out];exact⟨rfl,hR,(Stp.refl _ _ _).setCell (by rw[h.cM i (aH hm)]) _⟩
end
section
variable {w:af}{τ:Nat->Tag}{aJ b:Nat}{s:MS}{A:RA}
def M1{m:MW}(hk:k<4)(h:m.comm k=Z6):(m.comm 0 || m.comm 1 || m.comm 2 || m.comm 3)=Z6:=by
 match k,hk with
 | 0,_=>simp[h]
 | 1,_=>simp[h]
 | 2,_=>simp[h]
 | 3,_=>simp[h]
def M3{m:MW}(h:∀j,j<4->m.comm j=E):(m.comm 0 || m.comm 1 || m.comm 2 || m.comm 3)=E:=by simp[h 0,h 1,h 2,h 3]
def T6(h:bh w τ aJ b s A)(n:Int)(hn: -9223372036854775808<=n)(hn':n<=9223372036854775807):
 Calls prog 62 #[ptr b,.int .i64 n] w (Fl w τ aJ b A (dz s n)):=by
 cases hf:bL s n with
 |none=>
  have Hr:Hid (dz s n=(7,s)):=by unfold Hid dz;rw[hf]
  have c:=qw h n hn hn' hf;unfold ptr at c⊢;clear hf;go_enter func62,ntmps62;go_wp2_with fail
  refine c.mono ?_;rintro e w' ⟨rfl,rfl⟩;go_wp2_with fail
  go_ret;rw[Hr.out];exact⟨rfl,h,Stp.refl _ _ _⟩
 |some m=>
  obtain⟨h1,h2,hm,hc⟩:=jQ hf;have c:=qy h n m hf;generalize hi:(n-1).toNat=i at *;have f9:=(h.wr i m hm).frozen 9;have c9:=h.Rk hm;have hR:=h.dF hm;have H9:Hid ((m.comm 0 || m.comm 1 || m.comm 2 || m.comm 3)=Z6->dz s n=(9,s)):=by intro ha;unfold dz;rw[hf];simp only[ha,if_true]
  have H0:Hid ((m.comm 0 || m.comm 1 || m.comm 2 || m.comm 3)=E->dz s n=(0,{s with ws:=s.ws.set i {m with dF:=Z6}})):=by intro ha;unfold dz;rw[hf];simp only[ha];simp[om,hi]
  unfold ptr at c⊢;clear hf;go_enter func62,ntmps62;go_wp2_with fail
  refine c.mono ?_;rintro e w' ⟨rfl,rfl⟩;clear c;go_wp2_with fail
  go_loop [6] (λu=>∃k:Nat,k<=4/\u=.int .i64 k/\Hid (∀j,j<k->m.comm j=E)) (λu=>4-(intOf u).toNat)
  case atStart=>exact⟨0,zab _,rfl,λj hj=>I⟩
  case round=>
   obtain⟨k,hk,rfl,HO⟩:=hrel;by_cases hlt:k<4
   ·have ck:=h.Rj hm (q:=k) I;cases Wq:m.comm k with
    |true=>
     have Hr:Hid (dz s n=(9,s)):=H9.out (M1 hlt Wq);rw[Wq]at ck;clear Wq;go_wp2_with fail
     go_ret;rw[Hr.out];exact⟨rfl,h,Stp.refl _ _ _⟩
    |false=>
     have yO:Hid (∀j,j<k+1->m.comm j=E):=by
      intro j hj;by_cases e:j=k
      ·subst e;exact Wq
      ·exact HO.out j I
     rw[Wq]at ck;clear Wq;go_wp2_with fail
     go_round
     case rel=>exact⟨k+1,I,by go_num,yO⟩
     case measure=>simp[intOf];omega
   ·have Hr:=H0.out (M3 (λj hj=>HO.out j I));have Wl:Hid (dz s n=_):=Hr;clear Hr;go_wp2_with fail
    go_ret;rw[Wl.out];exact⟨rfl,hR,(Stp.refl _ _ _).setCell (by rw[h.cM i (aH hm)]) _⟩
def wP(n:Int)(k:ah):Int×Int:=if bz k then(partOf n k,0)else(0,4)
def K2{k k':IntKind}{a b c d:Int}(h:(a,b)=(c,d)):Ending.returned (.tuple #[.int k a,.int k' b])=.returned (.tuple #[.int k c,.int k' d]):=by cases h;rfl
def jz(h:bz x=Z6):1<=x.size/\x.size<=8:=by simpa[bz]using h
def abP(h:bh w τ aJ b s A)(k:ah)(hk:k.size<=maxLen):
 Calls prog 58 #[ptr b,.string k] w λe w'=>e=.returned (.tuple #[.int .i64 (wP s.parts k).1,.int .i64 (wP s.parts k).2])/\w'=w:=by
 have c:=zJ k w hk;have IV:=h.ok.p4;have hp1:=h.ok.p1;unfold ptr;cases hg:bz k with
 |true=>
  have:=jz hg;have Hr:Hid (wP s.parts k=(partOf s.parts k,0)):=by unfold Hid wP;rw[hg];rfl
  have cp:=uF b s.parts k w I I I h.Du;rw[hg]at c;clear hg;go_enter func58,ntmps58;go_wp2_with fail
  refine c.mono ?_;rintro e w' ⟨rfl,rfl⟩;go_wp2_with fail
  refine cp.mono ?_;rintro e w' ⟨rfl,rfl⟩;go_wp2_with fail
  go_ret2
  exact⟨K2 Hr.out.symm,rfl⟩
 |false=>
  have Hr:Hid (wP s.parts k=(0,4)):=by unfold Hid wP;rw[hg];rfl
  rw[hg]at c;clear hg;go_enter func58,ntmps58;go_wp2_with fail
  refine c.mono ?_;rintro e w' ⟨rfl,rfl⟩;go_wp2_with fail
  go_ret2
  exact⟨K2 Hr.out.symm,rfl⟩
def dM(parts mode:Int):Int:=if parts<1\/4<parts then 1 else if mode<1\/3<mode then 2 else 0
def yj:RA:={arr:=.slice F 0 0,rv:=.slice F 0 0,wb:=λ_=>0,iv:=λ_=>.slice F 0 0,B:={rb:=λ_=>0,kv:=λ_=>.slice F 0 0,av:=λ_=>.slice F 0 0,fv:=λ_=>.slice F 0 0}}
def dH(parts mode:Int):MS:={parts:=parts.toNat,mode:=mode,ws:= [],rs:= []}
def lE(parts mode:Int):Obj:=.cells #[.int .i64 parts,.int .i64 mode,.slice F 0 0,.slice F 0 0] 188
def PI(parts mode:Int)(w:af)(h:dM parts mode≠0):
 Calls prog 93 #[.int .i64 parts,.int .i64 mode] w λe w'=>e=.returned (.tuple #[.pointer F,.int .i64 (dM parts mode)])/\w'=w:=by
 by_cases h1:parts<1
 ·have hr:dM parts mode=1:=by unfold dM;rw[if_pos I]
  rw[hr];clear hr h;go_enter func93,ntmps93;go_wp2;go_ret2
  exact⟨rfl,rfl⟩
 ·by_cases h2:4<parts
  ·have hr:dM parts mode=1:=by unfold dM;rw[if_pos I]
   rw[hr];clear hr h;go_enter func93,ntmps93;go_wp2;go_ret2
   exact⟨rfl,rfl⟩
  ·have hp:¬(parts<1\/4<parts):=I
   by_cases h3:mode<1
   ·have hr:dM parts mode=2:=by unfold dM;rw[if_neg hp,if_pos I]
    rw[hr];clear hr h hp;go_enter func93,ntmps93;go_wp2;go_ret2
    exact⟨rfl,rfl⟩
   ·have h4:3<mode:=by apply Classical.byContradiction;intro h4;exact h (by unfold dM;rw[if_neg hp,if_neg I])
    have hr:dM parts mode=2:=by unfold dM;rw[if_neg hp,if_pos I]
    rw[hr];clear hr h hp;go_enter func93,ntmps93;go_wp2;go_ret2
    exact⟨rfl,rfl⟩
def vC{parts mode:Int}(h:dM parts mode=0):1<=parts/\parts<=4/\1<=mode/\mode<=3:=by
 unfold dM at h;split at h
 ·cases h
 ·split at h
  ·cases h
  ·omega
def BO(parts mode:Int)(w:af)(h:dM parts mode=0):
 Calls prog 93 #[.int .i64 parts,.int .i64 mode] w λe w'=>e=.returned (.tuple #[ptr w.heap.size,.int .i64 0])/\w'=w.alloc (lE parts mode):=by
 obtain⟨h1,h2,h3,h4⟩:=vC h;clear h;have g1:¬parts<1:=I
 have g2:¬4<parts:=I
 have g3:¬mode<1:=I
 have g4:¬3<mode:=I
 unfold ptr;go_enter func93,ntmps93;go_wp2;go_ret2
 exact⟨rfl,rfl⟩
def bh.made{parts mode:Int}(h:dM parts mode=0)(w:af)(τ:Nat->Tag)(aJ:Nat):
 bh (w.alloc (lE parts mode)) (λk=>if k=w.heap.size then(aJ,0,0)else τ k) aJ w.heap.size (dH parts mode) yj:=by
 obtain⟨h1,h2,h3,h4⟩:=vC h;refine⟨⟨?_,?_,by simp[dH],?_,λi r hi=>by simp[dH]at hi,by simp[dH,aX]⟩,?_,XI,World.ownsRow_nil _ _ _ _,?_,?_,?_,?_,?_,?_⟩
 ·show 1<=parts.toNat;omega
 ·show parts.toNat<=4;omega
 ·intro i m hi;simp[dH]at hi
 ·have e:((dH parts mode).parts:Int)=parts:=by show ((parts.toNat:Nat):Int)=parts;omega
  rw[e];exact aT.new w _ _
 ·intro k hk;simp[yj,Value.ownBlock]at hk
 ·intro i m hi;simp[dH]at hi
 ·intro i hi;simp[dH]at hi
 ·intro i m hi;simp[dH]at hi
 ·intro i k hi;simp[dH]at hi
 ·exact⟨World.ownsRow_nil _ _ _ _,λk hk=>by simp[yj,Value.ownBlock]at hk,λi r hi=>by simp[dH]at hi,λi hi=>by simp[dH]at hi,λi r hi=>by simp[dH]at hi,λi k hi=>by simp[dH]at hi,λi r hi=>by simp[dH]at hi,λi k hi=>by simp[dH]at hi,λi r hi=>by simp[dH]at hi,λi k hi=>by simp[dH]at hi⟩
end
end
section
open Go
def K4(v w:af)(n:Nat):Prop:=∀k,k<n->∀q,v.tape (v.drawn+k) q=w.tape (w.drawn+k) q
section
variable {Sb:Nat->Prop}{v w:af}
end
inductive NM{α:Type}:Sem α->Prop
 |pure {a:α}:NM (.pure a)
 |load {m:Mode} {a:aA} {k:aj->Sem α}:(∀v,NM (k v))->NM (.load m a k)
 |store {m:Mode} {a:aA} {v:aj} {k:Sem α}:NM k->NM (.store m a v k)
 |new {o:Obj} {k:Nat->Sem α}:(∀r,NM (k r))->NM (.new o k)
 |shape {r:Nat} {k:Option (az×Nat)->Sem α}:(∀s,NM (k s))->NM (.shape r k)
 |freeze {a:aA} {n:Nat} {k:Sem α}:NM k->NM (.freeze a n k)
 |frozen {a:aA} {k:Bool->Sem α}:(∀b,NM (k b))->NM (.frozen a k)
 |getObj {r:Nat} {k:Obj->Sem α}:(∀o,NM (k o))->NM (.getObj r k)
 |setObj {r:Nat} {o:Obj} {k:Sem α}:NM k->NM (.setObj r o k)
 |choose {q:Question} {k:Nat->Sem α}:(∀n,NM (k n))->NM (.choose q k)
 |sys {c:Sys} {k:SysRet->Sem α}:(∀r,NM (k r))->NM (.sys c k)
 |program {k:aB->Sem α}:(∀p,NM (k p))->NM (.program k)
 |mark {m:Mark} {k:Sem α}:m≠.disable->m≠.enable->NM k->NM (.mark m k)
 |halt {h:Halt}:NM (.halt h)
def NM.bind{α β:Type}{s:Sem α}{f:α->Sem β}(h:NM s)(hf:∀a,NM (f a)):NM (s >>= f):=by
 show NM (s.bind f);induction h with
 |pure=>exact hf _
 |load _ ih=>exact .load λv=>ih v
 |store _ ih=>exact .store ih
 |new _ ih=>exact .new λr=>ih r
 |shape _ ih=>exact .shape λs=>ih s
 |freeze _ ih=>exact .freeze ih
 |frozen _ ih=>exact .frozen λb=>ih b
 |getObj _ ih=>exact .getObj λo=>ih o
 |setObj _ ih=>exact .setObj ih
 |choose _ ih=>exact .choose λn=>ih n
 |sys _ ih=>exact .sys λn=>ih n
 |program _ ih=>exact .program λp=>ih p
 |mark h1 h2 _ ih=>exact .mark h1 h2 ih
 |halt=>exact .halt
def NM.pure'{α:Type}(a:α):NM (Pure.pure a:Sem α):=.pure
def Lp(a:aA)(m:Mode):NM (load a m):=.load λ_=>.pure
def nT(a:aA)(v:aj)(m:Mode):NM (store a v m):=.store .pure
def NV(o:Obj):NM (newObj o):=.new λ_=>.pure
def AI(r:Nat):NM (shape r):=.shape λ_=>.pure
def rj(a:aA):NM (frozen a):=.frozen λ_=>.pure
def NW(r:Nat):NM (getObj r):=.getObj λ_=>.pure
def Cz(q:Question):NM (choose q):=.choose λ_=>.pure
def Zs(c:Sys):NM (sys c):=.sys λ_=>.pure
def tG:NM program:=.program λ_=>.pure
def iI{α:Type}(s:String):NM (stuck s:Sem α):=.halt
def qH{α:Type}(u:Unsupported):NM (unsupported u:Sem α):=.halt
def SE{α:Type}(v:aj):NM (goPanic v:Sem α):=.halt
def qI{α:Type}{c:Prop}[Decidable c]{s s':Sem α}(h:NM s)(h':NM s'):NM (if c then s else s'):=by split;exact h;exact h'
def Cy(r:Nat):NM (viewAt r):=by unfold viewAt;(repeat' (first|(with_reducible first|exact NM.pure' _|exact AI ..|exact NW ..|refine NM.bind ?_ (λ_=>?_)|refine qI ?_ ?_)|dsimp only|split|intro _))
def NY(a:aA):NM (noView a):=by unfold noView;(repeat' (first|(with_reducible first|exact NM.pure' _|exact qH ..|exact Cy ..|refine NM.bind ?_ (λ_=>?_)|refine qI ?_ ?_)|dsimp only|split|intro _))
def El(a:aA):NM (stringish a):=by unfold stringish;(repeat' (first|(with_reducible first|exact NM.pure' _|exact AI ..|exact rj ..|refine NM.bind ?_ (λ_=>?_)|refine qI ?_ ?_)|dsimp only|split|intro _))
def GR(a b:aA):NM (mayBeOne a b):=by unfold mayBeOne;(repeat' (first|(with_reducible first|exact NM.pure' _|exact AI ..|exact El ..|refine NM.bind ?_ (λ_=>?_))|dsimp only|split|intro _))
def GU(a b:aA):NM (sameAddr a b):=by unfold sameAddr;(repeat' (first|(with_reducible first|exact NM.pure' _|exact rj ..|exact Cz ..|exact qH ..|exact NY ..|exact GR ..|refine NM.bind ?_ (λ_=>?_)|refine qI ?_ ?_)|dsimp only|split|intro _))
def AH(a b:Option aA):NM (samePointer a b):=by unfold samePointer;(repeat' (first|(with_reducible first|exact NM.pure' _|exact GU ..)|dsimp only|split|intro _))
def GK(t:az):NM (typeInfo t):=by unfold typeInfo;(repeat' (first|(with_reducible first|exact NM.pure' _|exact tG ..|exact iI ..|refine NM.bind ?_ (λ_=>?_))|dsimp only|split|intro _))
def BB(t:az):NM (underlying t):=by unfold underlying;(repeat' (first|(with_reducible first|exact NM.pure' _|exact tG ..|exact iI ..|refine NM.bind ?_ (λ_=>?_))|dsimp only|split|intro _))
def NZ(t:az)(c:Array aj):NM (newRow t c):=by unfold newRow;(repeat' (first|(with_reducible first|exact NM.pure' _|exact NV ..|refine NM.bind ?_ (λ_=>?_))|dsimp only|split|intro _))
def N1(t:az)(v:aj):NM (newVar t v):=by unfold newVar;(repeat' (first|with_reducible exact NZ ..|dsimp only|split|intro _))
def N3(t:az):NM (elemOf t):=by unfold elemOf;(repeat' (first|(with_reducible first|exact NM.pure' _|exact iI ..|exact BB ..|refine NM.bind ?_ (λ_=>?_))|dsimp only|split|intro _))
def x7{α:Type}(e:RuntimeError):NM (runtimePanic e:Sem α):=by unfold runtimePanic;(repeat' (first|(with_reducible first|exact tG ..|exact SE ..|exact N1 ..|exact N3 ..|refine NM.bind ?_ (λ_=>?_))|dsimp only|split|intro _))
def Ko(v:aj):NM (asIntOf v):=by unfold asIntOf;(repeat' (first|(with_reducible first|exact NM.pure' _|exact iI ..|exact qH ..)|dsimp only|split|intro _))
def Sw(v:aj):NM (asInt v):=by unfold asInt;(repeat' (first|(with_reducible first|exact NM.pure' _|exact Ko ..|refine NM.bind ?_ (λ_=>?_))|dsimp only|split|intro _))
def lm(v:aj):NM (asAddr v):=by unfold asAddr;(repeat' (first|(with_reducible first|exact NM.pure' _|exact iI ..|exact x7 ..)|dsimp only|split|intro _))
end
end Go.Proofs.YteoahlieielcdaaGreat
