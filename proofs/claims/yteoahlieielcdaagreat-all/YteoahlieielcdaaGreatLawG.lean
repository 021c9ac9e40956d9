import Derived.Test.YteoahlieielcdaaGreatLaw2
import Derived.Test.YteoahlieielcdaaGreatPrF3
import Derived.Deep.DeepAppendRoom
set_option linter.all false
set_option maxHeartbeats 8000000
set_option maxRecDepth 100000
open Option renaming some->Y,none->F
open List renaming getElem?_set_ne->ao3,getElem?_set_self->ay7
open Nat renaming zero_le->ak8
namespace Go.Proofs.YteoahlieielcdaaGreat
open Go.Proofs.Tryz
open Go Go.RowKit
abbrev zcy:=@RowKit.Below.heap_setCell
abbrev zcz:=@World.cell?_of_block
variable{w w' wr:af}{m:Nat}{v u:aj}{xs:List aj}
def Uh:(prog.info? 42).map (λi=>(i.zero,i.size,i.bytes))=Y (Y (.slice F 0 0),1,24):=Yl
def Fo{P:aB}{ops:Array Oper}{rest:List Oper}{o:Oper}{a:Act}{Q:Exit->Act->af->Prop}(hgd:o.guard=F)(s x:aD)(t:az)
 (ho:o.op=.call {callee:=.builtin .append,args:=#[s,x],argTypes:=#[t,t]})
 (e:az) (i:TypeInfo) (z:aj) (size bytes:Nat) (ht:P.underlying t=Y (.slice e)) (hi:P.info? e=Y i) (hz:i.zero=Y z) (hsize:i.size=size) (hby:i.bytes=bytes) (hzs:z.cells.size=size) (hsz:0<size)
 (v:aj) (n:Nat) (xs:List aj) (hs:a.eval s=v) (hown:w.ownsRow 0 e size v n xs)
 (ad:aA) (m c:Nat) (news:List aj) (hx:a.eval x=.slice (Y ad) m c) (hl:news.length=m*size) (hnews:∀j u,news[j]?=Y u->w.cell? (ad.add j)=Y u) (h1:∀u∈news,u.oneCell'=true) (hm:0<m)
 (h63:n+m<=maxLen) (hbytes:(n+m)*bytes<=140737488355328)
 (h:∀v' w',w'.ownsRow 0 e size v' (n+m) (xs++news)->w.grownBy w' v'.ownBlock->(∀k,v'.ownBlock=Y k->v.ownBlock=Y k\/w.heap.size<=k)->wpList P ops Q rest (a.put o.dst v') w'):wpList P ops Q (o :: rest) a w:=by
 have grow:∀v' w',w'.ownsRow w.heap.size e size v' (n+m) (xs++news)->w.grownBy w' F->wpList P ops Q rest (a.put o.dst v') w':=λv' w' r1 r2=>h v' w' (za r1 λ_ _=>ak8 _) ⟨r2.os,r2.tape,r2.output,r2.size,λk hk _=>r2.block k hk XI⟩ λk hk=>.inr (aQ r1 k hk).1;rcases hown.2 with⟨rfl,rfl⟩|⟨g,cap,cur,rfl,-,hg,hnc,-⟩
 ·exact wpList_append_grows w hgd s x t ho e i z size bytes ht hi hz hsize hby hzs hsz F 0 0 xs hs (λ_=>⟨rfl,rfl⟩) hown.1 (λb hb=>by cases hb) ad m c news hx hl hnews h1 I h63 hbytes grow
 ·by_cases hr:n+m<=cap
  ·exact wpList_append_own_spare w hgd s x t ho 0 e i size ht hi hsize g n cap xs hs hown ad m c news hx hl hnews h1 hr λw' r1 r2=>h _ w' r1 r2 λk hk=>.inl hk
  ·exact wpList_append_grows w hgd s x t ho e i z size bytes ht hi hz hsize hby hzs hsz (Y ⟨g,0,F⟩) n cap xs hs (λhb=>by cases hb) hown.1 (λb hb=>by cases hb;exact hown.cells rfl) ad m c news hx hl hnews h1 I h63 hbytes grow
section
variable {w:af}{τ:Nat->Tag}{wb n:Nat}{c:Int}{a:LA}
def Mz(τ:Nat->Tag)(v:aj)(N:Nat):Nat->Tag:=λk=>if v.ownBlock=Y k then(1,8,N)else τ k
def Ui(τ:Nat->Tag)(a:LA)(N m:Nat):Prop:=∀q x b k' c',q<3->x∈a.L q->0<x.n->x.v=.slice (Y ⟨b,0,F⟩) k' c'->τ b=(1,8,N)->q=0/\x.n<=m
def cD.more(h:cD w τ wb n c a){N:Nat}{v':aj}{o:Obj}{ys:List aj}(hv:∀k,v.ownBlock=Y k->τ k=(1,8,N))(hO:w.ownsRow 0 62 3 v m xs)(KO:w'.ownsRow 0 62 3 v' (m+1) (xs++ys))
 (hG:(w.alloc o).grownBy w' v'.ownBlock) (hV:∀k,v'.ownBlock=Y k->v.ownBlock=Y k\/(w.alloc o).heap.size<=k) (hn:Ui τ a N m):
 cD w' (Mz τ v' N) wb n c a/\Stp 1 τ w (Mz τ v' N) w'/\Ui (Mz τ v' N) a N m:=by
 have hz:w.heap.size+1<=w'.heap.size:=by simpa using hG.size
 have hV':∀k,k<w.heap.size->v'.ownBlock=Y k->v.ownBlock=Y k:=λk hk e=>by
  rcases hV k e with e|e
  ·exact e
  ·simp at e;omega
 have tk:∀k,k<w.heap.size->Mz τ v' N k=τ k:=λk hk=>by
  unfold Mz;split
  ·rename_i e;rw[hv k (hV' k hk e)]
  ·rfl
 have kk:∀k,k<w.heap.size->v'.ownBlock≠Y k->w'.heap[k]?=w.heap[k]? :=λk hk hne=>(hG.block k Yn (λe=>hne e.symm)).trans (Below.heap_alloc _ _ _ hk);refine⟨⟨h.raw.frame λk g hk ht hg=>⟨kk k hk λe=>?_,tk k hk⟩,λq hq x hx=>?_,h.n8⟩,⟨hG.os,hG.tape,hG.output,I,tk,λk hk ho=>kk k hk λe=>ho (by rw[hv k (hV' k hk e)])⟩,λq x b k' c' hq hx h0 e ht=>?_⟩
 ·rw[hv k (hV' k hk e)]at ht;cases ht;simp at hg
 ·obtain⟨h1,hm,a0,cap,h2,h3⟩:=h.ls q hq x hx;refine⟨h1,hm,a0,cap,h2,λh0=>?_⟩;obtain⟨b,g,rfl,hb,ht,hg,hc⟩:=h3 h0;refine⟨b,g,rfl,I,(tk b hb).trans ht,hg,λj hj=>?_⟩;by_cases e:v'.ownBlock=Y b
  ·have e':=hV' b hb e;obtain⟨rfl,hxm⟩:=hn q x b _ _ hq hx h0 h2 (hv b e');have hj':j<m*3:=Nat.lt_of_lt_of_le hj (Nat.mul_le_mul_right _ hxm);obtain⟨g1,c1,rfl,-,-,k1,-⟩:=aZ hO I;obtain⟨g2,c2,rfl,-,-,k2,-⟩:=aZ KO I;obtain rfl:g1=b:=Option.some.inj e';obtain rfl:g2=g1:=Option.some.inj e;rw[<-hc j hj,k1 j hj',k2 j I,List.getElem?_append_left (by rw[hO.1];exact hj')]
  ·exact(zcz (kk b hb e)).trans (hc j hj)
 ·obtain⟨h1,hm,a0,cap,h2,h3⟩:=h.ls q hq x hx;obtain⟨b',g,rfl,hb,ht',-⟩:=h3 h0;rw[h2]at e;cases e;rw[tk _ hb]at ht;exact hn q x _ _ _ hq hx h0 h2 ht
def cD.later(h:cD w τ wb n c a):cD w τ wb n c {a with N:=a.N+1}:=⟨h.raw,λq hq x hx=>(h.ls q hq x hx).frame (Nat.le_succ _) λ_ _ hb _ _=>⟨hb,rfl,λ_ _=>rfl⟩,h.n8⟩
def cD.near(h:cD w τ wb n c a)(m:Nat):Ui τ {a with N:=a.N+1} a.N m:=λq x _ _ _ hq hx h0 e ht=>by obtain⟨-,-,a0,cap,h2,h3⟩:=h.ls q hq x hx;obtain⟨b',g,rfl,-,ht',hg,-⟩:=h3 h0;rw[h2]at e;cases e;rw[ht']at ht;cases ht;omega
def MA(c:Int):Array aj:=#[.string ⟨#[]⟩,.int .i64 (-(c+1)),.string ⟨#[]⟩]
structure Gv(w:af)(τ:Nat->Tag)(wb n:Nat)(c:Int)(a:LA)(m xb i p:Nat)(u:aj)(wr:af)(τr:Nat->Tag)(ai:LA)(xs:List aj):Prop where
 row:wr.ownsRow 0 62 3 u (m+i) xs
 mk_:∀j,j< (m+i)*3->xs[j]?=Y (el 0 (.int .i64 (-(c+1))) j)
 tag:∀k,u.ownBlock=Y k->τr k=(1,8,a.N)
 base:cD wr τr wb n (c+1) ai
 N:ai.N=a.N+1
 sB:ai.sB=a.sB
 rB:ai.rB=a.rB
 few:∀q,(ai.L q).length<=(a.L q).length+p
 near:Ui τr ai a.N (m+i)
 pS:Stp 1 τ w τr wr
 xk:aT wr xb (MA c) 62
 xt:τr xb=(0,0,0)
def Gv.push{xb i p:Nat}{τr:Nat->Tag}{ai:LA}(h:Gv w τ wb n c a m xb i p u wr τr ai xs)(hm:m+i<=12)
 {o1:Obj} {v2:aj} {w2:af} (jm:(wr.alloc o1).grownBy w2 (ai.v 1).ownBlock) (hA2:v2.ownBlock=(ai.v 1).ownBlock\/v2.ownBlock=Y (wr.alloc o1).heap.size) (kA:w2.ownsRow 0 42 1 v2 ((ai.L 0).length+1) ((ai.L 0).map LL.v++ [u]))
 {o2:Obj} {v4:aj} {w4:af} (tJ:((w2.setCell ⟨wb,1,F⟩ v2).alloc o2).grownBy w4 (ai.v 2).ownBlock) (wH:v4.ownBlock=(ai.v 2).ownBlock\/v4.ownBlock=Y ((w2.setCell ⟨wb,1,F⟩ v2).alloc o2).heap.size) (KL:w4.ownsRow 0 3 1 v4 ((ai.L 0).length+1) ((ai.L 0).map LL.m++ [.int .i64 (-(c+1))])):
 ∃τ5 a5,Gv w τ wb n c a m xb i (p+1) u (w4.setCell ⟨wb,2,F⟩ v4) τ5 a5 xs:=by
 have hL:Px wr τr (a.N+1) 0 ⟨u,m+i,.int .i64 (-(c+1))⟩:=by refine⟨by show m+i<=_;omega,.inl ⟨rfl,_,rfl⟩,?_⟩;obtain⟨b0,c0,hu⟩:=bI h.row;refine⟨b0,c0,hu,λh0=>?_⟩;obtain⟨g,cap,hg,-,-,hc,-⟩:=aZ h.row h0;rw[hu]at hg;cases hg;exact⟨g,a.N,rfl,(aQ h.row g (by rw[hu];rfl)).2,h.tag g (by rw[hu];rfl),I,λj hj=>(hc j hj).trans (h.mk_ j hj)⟩
 obtain⟨b1,s1,k1⟩:=vB h.base I (by rw[h.N];omega) hL jm hA2 kA tJ wH KL;have hub:∀k,u.ownBlock=Y k->k<wr.heap.size:=λk hk=>(aQ h.row k hk).2;refine⟨_,_,⟨aI h.row λk hk=>k1 k a.N (hub k hk) (h.tag k hk),h.mk_,λk hk=>(s1.tag k (hub k hk)).trans (h.tag k hk),b1,rfl,h.sB,h.rB,λq=>by have:=h.few q;have:=yV (a:=ai) (q:=0) (p:=q) (N:=a.N+1) (v2:=v2) (v4:=v4) (x:=⟨u,m+i,.int .i64 (-(c+1))⟩);omega,λq x b k' c' hq hx h0 e ht=>?_,h.pS.trans s1,h.xk.of_eq (s1.block _ h.xk.lt (by rw[h.xt];decide)),(s1.tag _ h.xk.lt).trans h.xt⟩⟩;have old:∀q x,q<3->x∈ai.L q->0<x.n->x.v=.slice (Y ⟨b,0,F⟩) k' c'->q=0/\x.n<=m+i:=λq x hq hx h0 e=>by obtain⟨-,-,a0,cap,h2,h3⟩:=h.base.ls q hq x hx;obtain⟨b',g,rfl,hb,ht',-⟩:=h3 h0;rw[h2]at e;cases e;rw[s1.tag _ hb]at ht;exact h.near q x _ _ _ hq hx h0 h2 ht
 by_cases e0:q=0
 ·subst e0;rcases List.mem_append.1 (show x∈ai.L 0++ [_]from hx)with hx|hx
  ·exact old 0 x hq hx h0 e
  ·rw[List.mem_singleton.1 hx];exact⟨rfl,Nat.le_refl _⟩
 ·exact old q x hq (by simpa[pU,mK,e0]using hx) h0 e
def Gv.more{m xb i p:Nat}{u v':aj}{wr w':af}{o:Obj}{τr:Nat->Tag}{ai:LA}{xs:List aj}(h:Gv w τ wb n c a m xb i p u wr τr ai xs)(hO:w'.ownsRow 0 62 3 v' (m+i+1) (xs++(MA c).toList))(hG:(wr.alloc o).grownBy w' v'.ownBlock)(hV:∀k,v'.ownBlock=Y k->u.ownBlock=Y k\/(wr.alloc o).heap.size<=k):
 Gv w τ wb n c a m xb (i+1) p v' w' (Mz τr v' a.N) ai (xs++(MA c).toList):=by
 obtain⟨b1,s1,n1⟩:=h.base.more h.tag h.row hO hG hV h.near;refine⟨hO,λj hj=>?_,λk hk=>if_pos hk,b1,h.N,h.sB,h.rB,h.few,λq x b k' c' hq hx h0 e ht=>?_,h.pS.trans s1,h.xk.of_eq (s1.block _ h.xk.lt (by rw[h.xt];decide)),(s1.tag _ h.xk.lt).trans h.xt⟩
 ·by_cases e:j< (m+i)*3
  ·rw[List.getElem?_append_left (by rw[h.row.1];exact e)];exact h.mk_ j e
  ·rw[List.getElem?_append_right (by rw[h.row.1];omega),h.row.1];obtain⟨t,ht,e'⟩:∃t,t<3/\j=(m+i)*3+t:=⟨j-(m+i)*3,I,I⟩
   rw[e',show (m+i)*3+t-(m+i)*3=t by omega];simp only[el];match t,ht with
   | 0,_=>rw[if_neg I];rfl
   | 1,_=>rw[if_pos I];rfl
   | 2,_=>rw[if_neg I];rfl
 ·have:=n1 q x b k' c' hq hx h0 e ht;exact⟨this.1,I⟩
def My(h:cD w τ wb n c a)(hO:w.ownsRow 0 62 3 v m xs)(hv:∀k,v.ownBlock=Y k->τ k=(1,8,a.N))(hm:m<=8)(hJ:(a.L 0).length<=5864062014790)(h0:0<=c)(h1:c<=281474976710656):
 Calls prog 105 #[ptr wb,v] w λe w'=>e=.returned (.tuple #[])/\XO w τ wb n c a w':=by
 have c7:w.cell? ⟨wb,7,F⟩=Y (.int .i64 c):=h.raw.blk.cell rfl;have f7:=h.raw.blk.frozen 7;have Ey:=h.raw.blk.lt;have hX:=h.count (c+1);have sX:Stp 1 τ w τ (w.setCell ⟨wb,7,F⟩ (.int .i64 (c+1))):=(Stp.refl 1 τ w).setCell (by rw[h.raw.tag]) _;have hOX:(w.setCell ⟨wb,7,F⟩ (.int .i64 (c+1))).ownsRow 0 62 3 v m xs:=aI hO λk hk=>zcy _ _ _ _ λe=>by have:=hv k hk;rw[show k=wb from e,h.raw.tag]at this;simp at this
 have d7:(w.setCell ⟨wb,7,F⟩ (.int .i64 (c+1))).cell? ⟨wb,7,F⟩=Y (.int .i64 (c+1)):=hX.raw.blk.cell rfl;obtain⟨av,cv,rfl⟩:=bI hO;unfold ptr;go_enter func105,ntmps105;go_wp2_with fail
 have tK:aT ((w.setCell ⟨wb,7,F⟩ (.int .i64 (c+1))).alloc (.cells #[.string ⟨#[]⟩,.int .i64 (-(c+1)),.string ⟨#[]⟩] 62)) w.heap.size (MA c) 62:=by have:=aT.new (w.setCell ⟨wb,7,F⟩ (.int .i64 (c+1))) (MA c) 62;rwa [show (w.setCell ⟨wb,7,F⟩ (.int .i64 (c+1))).heap.size=w.heap.size by simp[World.setCell]]at this
 have ZE:Below (w.setCell ⟨wb,7,F⟩ (.int .i64 (c+1))).heap.size (w.setCell ⟨wb,7,F⟩ (.int .i64 (c+1))) ((w.setCell ⟨wb,7,F⟩ (.int .i64 (c+1))).alloc (.cells #[.string ⟨#[]⟩,.int .i64 (-(c+1)),.string ⟨#[]⟩] 62)):=(Below.refl _ _).alloc (Nat.le_refl _) _;have hzX:(w.setCell ⟨wb,7,F⟩ (.int .i64 (c+1))).heap.size=w.heap.size:=by simp[World.setCell]
 have hT:∀k,k<w.heap.size->gY τ w.heap.size k=τ k:=λk hk=>jv I;have gL:cD ((w.setCell ⟨wb,7,F⟩ (.int .i64 (c+1))).alloc (.cells #[.string ⟨#[]⟩,.int .i64 (-(c+1)),.string ⟨#[]⟩] 62)) (gY τ w.heap.size) wb n (c+1) a:=hX.frame λk hk _=>⟨ZE.block k hk,hT k I⟩
 have gS:Stp 1 τ w (gY τ w.heap.size) ((w.setCell ⟨wb,7,F⟩ (.int .i64 (c+1))).alloc (.cells #[.string ⟨#[]⟩,.int .i64 (-(c+1)),.string ⟨#[]⟩] 62)):=by have:=sX.alloc (.cells #[.string ⟨#[]⟩,.int .i64 (-(c+1)),.string ⟨#[]⟩] 62) (0,0,0);rwa [hzX]at this
 have gO:((w.setCell ⟨wb,7,F⟩ (.int .i64 (c+1))).alloc (.cells #[.string ⟨#[]⟩,.int .i64 (-(c+1)),.string ⟨#[]⟩] 62)).ownsRow 0 62 3 (.slice av m cv) m xs:=aI hOX λk hk=>ZE.block k (aQ hOX k hk).2;have xE:∀k,(Value.slice av m cv).ownBlock=Y k->gY τ w.heap.size k=(1,8,a.N):=λk hk=>(hT k (by have:=(aQ hO k hk).2;omega)).trans (hv k hk);generalize (w.setCell ⟨wb,7,F⟩ (.int .i64 (c+1))).alloc (.cells #[.string ⟨#[]⟩,.int .i64 (-(c+1)),.string ⟨#[]⟩] 62)=W1 at *;have hxt:gY τ w.heap.size w.heap.size=(0,0,0):=if_pos rfl;generalize gY τ w.heap.size=τ1 at *;have hls:=h.ls;replace gL:Hid _:=gL;replace gS:Hid _:=gS;replace tK:Hid _:=tK;replace gO:Hid _:=gO;go_loopw [5] (λu wr=>∃(k:Nat) (xs':List aj),k<=m/\u=.int .i64 k/\Hid (wr.ownsRow 0 62 3 (.slice av m cv) m xs')/\Hid (∀j,j<k*3->xs'[j]?=Y (el 0 (.int .i64 (-(c+1))) j))/\Hid (cD wr τ1 wb n (c+1) a)/\Hid (Stp 1 τ w τ1 wr)/\Hid (aT wr w.heap.size (MA c) 62)) (λu _=>m-(intOf u).toNat)
 case atStart=>exact⟨0,xs,ak8 _,rfl,gO,λj hj=>I,gL,gS,tK⟩
 case round=>
  obtain⟨k,xs',hk,rfl,HO,HA,HL,HS,HX⟩:=hrel;by_cases hlt:k<m
  ·obtain⟨g,cap,hg,-,-,hc,hfz⟩:=aZ HO.out I;cases hg;have tg:=xE g rfl;have hgx:g≠w.heap.size:=λe=>by rw[e,hxt]at tg;cases tg
   have cell:∀t,t<3->∃u,wr.cell? ⟨g,k*3+t,F⟩=Y u:=λt ht=>⟨_,(hc _ I).trans (List.getElem?_eq_getElem (by rw[HO.out.1];omega))⟩
   obtain⟨u0,d0⟩:=cell 0 I;obtain⟨u1,d1⟩:=cell 1 I;obtain⟨u2,d2⟩:=cell 2 I;have f0:=hfz (k*3);have f1:=hfz (k*3+1);have f2:=hfz (k*3+2);have x0:=HX.out.cell (o:=0) (v:=.string ⟨#[]⟩) rfl;have x1:=HX.out.cell (o:=1) (v:=.int .i64 (-(c+1))) rfl;have x2:=HX.out.cell (o:=2) (v:=.string ⟨#[]⟩) rfl;clear cell hc hfz;rw[Nat.add_zero]at d0;go_wp2_with fail
   go_roundw
   case rel=>
    have hne:∀q u v w',q≠g->(((wr.setCell ⟨g,k*3,F⟩ u).setCell ⟨g,k*3+1,F⟩ v).setCell ⟨g,k*3+2,F⟩ w').heap[q]?=wr.heap[q]? :=λq _ _ _ hq=>by rw[zcy _ _ _ _ hq,zcy _ _ _ _ hq,zcy _ _ _ _ hq]
    refine⟨k+1,_,I,by go_num,(((HO.out.stored (k*3) _).1.stored (k*3+1) _).1.stored (k*3+2) _).1,λj hj=>?_,HL.out.frame' λq _ _ h4=>⟨hne q _ _ _ (λe=>h4 (by rw[e,tg])),rfl⟩,((HS.out.setCell (a:=⟨g,k*3,F⟩) (by rw[tg]) _).setCell (a:=⟨g,k*3+1,F⟩) (by rw[tg]) _).setCell (a:=⟨g,k*3+2,F⟩) (by rw[tg]) _,HX.out.of_eq (hne _ _ _ _ hgx.symm)⟩;have hl:=HO.out.1;by_cases e2:j=k*3+2
    ·subst e2;rw[ay7 Yn];simp only[el];rw[if_neg I]
    ·rw[ao3 I];by_cases e1:j=k*3+1
     ·subst e1;rw[ay7 Yn];simp only[el];rw[if_pos I]
     ·rw[ao3 I];by_cases e0:j=k*3
      ·subst e0;rw[ay7 I];simp only[el];rw[if_neg I]
      ·rw[ao3 I];exact HA.out j I
   case measure=>simp[intOf];omega
  ·have ID:k=m:=I
   subst ID;have hG:Gv w τ wb n c a k w.heap.size 0 0 (.slice av k cv) wr τ1 {a with N:=a.N+1} xs':=⟨HO.out,HA.out,xE,HL.out.later,rfl,rfl,rfl,λq=>Nat.le_refl _,HL.out.near _,HS.out,HX.out,hxt⟩
   obtain⟨ii,mS,hi0,hi1,hi2⟩:=info_parts zc;obtain⟨li,hli,hl0,Ht,hl2⟩:=info_parts Uh;obtain⟨ni,hni,nz0,nz1,nz2⟩:=info_parts C4;go_wp2_with fail
   go_loopw [1,6] (λu1 u6 wr=>∃(i:Nat) (τr:Nat->Tag) (ai:LA) (xs:List aj),i<=4/\u6=.int .i64 i/\Gv w τ wb n c a k w.heap.size i i u1 wr τr ai xs) (λ_ u6 _=>4-(intOf u6).toNat)
   case atStart=>exact⟨0,τ1,_,xs',I,rfl,hG⟩
   case round=>
    obtain⟨i,τr,ai,xs,hi,rfl,hG⟩:=hrel;by_cases hlt:i<4
    ·have r1:wr.ownsRow 0 42 1 (ai.v 1) (ai.L 0).length ((ai.L 0).map LL.v):=hG.base.raw.row 1 I;have r2:wr.ownsRow 0 3 1 (ai.v 2) (ai.L 0).length ((ai.L 0).map LL.m):=hG.base.raw.row 2 I;obtain⟨a1,p1,e1⟩:=bI r1;obtain⟨a2,p2,e2⟩:=bI r2;obtain⟨a3,p3,rfl⟩:=bI hG.row;have hf:=hG.few 0;have q1:=hG.base.raw.blk.cell (o:=1) (v:=ai.v 1) rfl;have q7:=hG.base.raw.blk.cell (o:=7) (v:=.int .i64 (c+1)) rfl;have z1:=hG.base.raw.blk.frozen 1;rw[e1]at q1 r1;go_wp2_with (at_builtin;refine wpList_append_own_at _ rfl (.tmp 39) (.tmp 41) 80 rfl 0 42 li _ 1 24 underlying80 hli hl0 Ht hl2 rfl Yo (.slice a1 (ai.L 0).length p1) (ai.L 0).length _ rfl (r1.alloc _) ⟨_,0,F⟩ 1 1 [.slice a3 (k+i) p3] rfl rfl (cell_one_new _ _ _) (by simp[Value.oneCell']) (by unfold maxLen;omega) I (ak8 _) ?_;intro v2 w2 kA jm Ie hA2;rw[<-e1]at jm hA2;have fG:=hG.base.raw.after (i:=1) I jm;have d1:=fG.cell (o:=1) (v:=ai.v 1) rfl;rw[e1]at d1;have j1:=fG.frozen 1;obtain⟨q2,cap2,nW,-⟩:=aZ kA I;rw[nW])
     subst nW;obtain⟨P1,-,-⟩:=hG.base.raw.push (i:=1) I jm hA2 kA;have r3:(w2.setCell ⟨wb,1,F⟩ (.slice (Y ⟨q2,0,F⟩) ((ai.L 0).length+1) cap2)).ownsRow 0 3 1 (ai.v 2) (ai.L 0).length ((ai.L 0).map LL.m):=P1.row 2 I;have d2:(w2.setCell ⟨wb,1,F⟩ (.slice (Y ⟨q2,0,F⟩) ((ai.L 0).length+1) cap2)).cell? ⟨wb,2,F⟩=Y (ai.v 2):=P1.blk.cell (o:=2) rfl;have d7:(w2.setCell ⟨wb,1,F⟩ (.slice (Y ⟨q2,0,F⟩) ((ai.L 0).length+1) cap2)).cell? ⟨wb,7,F⟩=Y (.int .i64 (c+1)):=P1.blk.cell (o:=7) rfl;obtain⟨X,hX⟩:∃X,w2.setCell ⟨wb,1,F⟩ (.slice (Y ⟨q2,0,F⟩) ((ai.L 0).length+1) cap2)=X:=⟨_,rfl⟩
     rw[hX]at P1 r3 d2 d7⊢;replace hX:Hid _:=hX;have hwX:=P1.blk.lt;rw[e2]at r3 d2;have d2a:∀o:Obj,(X.alloc o).cell? ⟨wb,2,F⟩=Y (.slice a2 (ai.L 0).length p2):=λo=>(zcz (w:=X) (Below.heap_alloc _ _ _ hwX)).trans d2;have d7a:∀o:Obj,(X.alloc o).cell? ⟨wb,7,F⟩=Y (.int .i64 (c+1)):=λo=>(zcz (w:=X) (Below.heap_alloc _ _ _ hwX)).trans d7;have yp:IntKind.i64.wrap (-(c+1))=-(c+1):=IntWalk.i64_in _ I;go_region_law (refine eN rfl (.tmp 49) (.tmp 55) 58 rfl 0 3 ni _ 1 8 underlying58 hni nz0 nz1 nz2 rfl Yo (.slice a2 (ai.L 0).length p2) (ai.L 0).length _ rfl (r3.alloc _) ⟨_,0,F⟩ 1 1 [.int .i64 (-(c+1))] rfl rfl (cell_one_new _ _ _) (by simp[Value.oneCell']) (by unfold maxLen;omega) I (ak8 _) ?_;intro v4 w4 KL tJ hN4 wH;rw[<-e2]at tJ wH;have KF:=P1.after (i:=2) (o1:=.cells #[.int .i64 (-(c+1))] 3) I ⟨tJ.os,tJ.tape,tJ.output,tJ.size,tJ.block⟩;have j2:=KF.cell (o:=2) (v:=ai.v 2) rfl;rw[e2]at j2;have j3:=KF.frozen 2;obtain⟨q4,XP,VY,-⟩:=aZ KL I;rw[VY])
     all_goals
      subst VY
      obtain⟨τ5,a5,TR⟩:=hG.push I jm hA2 kA (o2:=.cells #[.int .i64 (-(c+1))] 3) (w4:=w4) (by rw[hX.out];exact⟨tJ.os,tJ.tape,tJ.output,tJ.size,tJ.block⟩) (by rw[hX.out];exact wH) KL
      generalize w4.setCell ⟨wb,2,F⟩ (.slice (Y ⟨q4,0,F⟩) ((ai.L 0).length+1) XP)=aE at *
      have x0:=TR.xk.cell (o:=0) (v:=.string ⟨#[]⟩) rfl
      have x1:=TR.xk.cell (o:=1) (v:=.int .i64 (-(c+1))) rfl
      have x2:=TR.xk.cell (o:=2) (v:=.string ⟨#[]⟩) rfl
      go_wp2_with (at_builtin;refine Fo rfl (.tmp 59) (.tmp 61) 42 rfl 62 ii _ 3 40 underlying42 mS hi0 hi1 hi2 rfl Yo (.slice a3 (k+i) p3) (k+i) xs rfl (TR.row.alloc _) ⟨_,0,F⟩ 1 1 [.string ⟨#[]⟩,.int .i64 (-(c+1)),.string ⟨#[]⟩] rfl rfl (p9 _ _ _ _ _) (by simp[Value.oneCell']) I (by unfold maxLen;omega) I ?_;intro v6 w6 hO6 hG6 hV6)
      go_roundw
      case rel=>exact⟨i+1,_,a5,_,I,by go_num,TR.more hO6 hG6 hV6⟩
      case measure=>simp[intOf];omega
    ·go_wp2_with fail
     go_end0
     have:=hG.few;exact⟨rfl,τr,ai,hG.base,hG.sB,hG.rB,λq=>by have:=hG.few q;omega,hG.pS⟩
end
end Go.Proofs.YteoahlieielcdaaGreat
