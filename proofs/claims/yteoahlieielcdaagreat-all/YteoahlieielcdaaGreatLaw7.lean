import Derived.Test.YteoahlieielcdaaGreatLaw2
import Derived.Test.YteoahlieielcdaaGreatPrF3
import Derived.Test.YteoahlieielcdaaGreatRows
import Derived.ProofKit
import Derived.OpenShut
import Derived.Deep.SlicePairs
import Derived.Deep.Strs
set_option linter.all false
set_option maxHeartbeats 8000000
set_option maxRecDepth 100000
open Option renaming some->Y,none->F
open List renaming length_map->an4,mem_cons_self->ar6,length_range->aw9
open Go renaming maxLen->ae0
open List.cons renaming injEq->ap5
open Go.DataW renaming weights->ay0,weights_mem_each->az0,trod_int->bb7,trod_string->bc9
namespace Go.Proofs.YteoahlieielcdaaGreat
open Go.Proofs.Tryz
abbrev zcv:=@List.getElem?_eq_getElem
abbrev zcw:=@World.block_lt_of_cell?
abbrev zcx:=@List.mem_range
variable{w1 w' w:af}{n b:Nat}{v:aj}
section
open Go Go.RowKit
section
variable {w:af}{τ:Nat->Tag}{wb:Nat}{c:Int}{a:LA}{M:List MS}{i:Nat}{m:MS}
def kq.lift{τ1:Nat->Tag}(h:kq w1 τ1 wb c w')(k:vf τ w τ1 w1):kq w τ wb c w':=by obtain⟨τ',a',M',c',h1,h2,h3,h6⟩:=h;exact⟨τ',a',M',c',h1,h2,h3,k.trans h6⟩
def LW.left(h:LW w τ wb c a M):kq w τ wb c w:=⟨τ,a,M,c,h,I,I,vf.refl _ _⟩
def cD.store(h:cD w τ wb n c a){p:Nat}(hp:p<n):∃g cap,a.v 0=.slice (Y ⟨g,0,F⟩) n cap/\w.cell? ⟨g,p*2,F⟩=Y (ptr (a.sB p))/\w.cell? ⟨g,p*2+1,F⟩=Y (ptr (a.rB p))/\g<w.heap.size:=by
 have hst:w.ownsRow 0 127 2 (a.v 0) n (storeCells a n):=h.raw.row 0 I;obtain⟨g,cap,hv,-,-,hc,-⟩:=aZ hst I;refine⟨g,cap,hv,?_,?_,(aQ hst g (by rw[hv];rfl)).2⟩
 ·rw[hc _ I];exact CY (c:=2) (t:=0) (f:=λi=> [ptr (a.sB i),ptr (a.rB i)]) (λ_=>rfl) hp I
 ·rw[hc _ I];exact CY (c:=2) (t:=1) (f:=λi=> [ptr (a.sB i),ptr (a.rB i)]) (λ_=>rfl) hp I
def yY(on:Int)(n:Nat)(hn:0<n):∃p:Nat,p<n/\lF on n=(p:Int):=by
 have h1:0<=lF on n:=by unfold lF;split<;>exact Int.emod_nonneg _ I
 have h2:lF on n<n:=by unfold lF;split<;>exact Int.emod_lt_of_pos _ I
 exact⟨(lF on n).toNat,I,I⟩
def PS(h:LW w τ wb c a M)(on A B:Int)(s:ah)(it ks:aj):
 Calls prog 32 #[ptr wb,dS 1 on A B s it ks] w λe w'=>e=.returned (.bool true)/\kq w τ wb c w':=by
 obtain⟨h1,k1⟩:=jf h (a9 1 on A B s it ks);have c1:=Io h1 1 on A B s it ks;unfold ptr dS at *;unfold a9 at *;go_enter func32,ntmps32;go_wp2_with (go_at_call 56;refine c1.mono ?_;rintro e w2 ⟨rfl,hL⟩)
 go_ret;exact⟨rfl,hL.lift k1⟩
def Ms(h:LW w τ wb c a [])(kd on A B:Int)(s:ah)(it ks:aj)(hk:kd≠1):
 Calls prog 32 #[ptr wb,dS kd on A B s it ks] w λe w'=>e=.returned (.bool true)/\kq w τ wb c w':=by
 obtain⟨h1,k1⟩:=jf h (a9 kd on A B s it ks);obtain⟨av,SS,rD⟩:=bI (h1.base.raw.row 0 I);have e0:=h1.base.raw.blk.cell (o:=0) (v:=a.v 0) rfl;rw[rD]at e0;unfold ptr dS at *;unfold a9 at *;simp only[rN,List.length_nil]at e0;go_enter func32,ntmps32;go_wp2_with fail
 go_ret;exact⟨rfl,h1.left.lift k1⟩
end
section
variable {w:af}{τ:Nat->Tag}{wb:Nat}{c:Int}{a:LA}{M:List MS}{i:Nat}{m:MS}
def TX(h:LW w τ wb c a M)(hM:0<M.length)(kd on A B:Int)(s:ah)(ia:Option aA)(L:List KV)(cap:Nat)(ka:Option aA)(Kn:List ah)(bR:Nat)(hk1:kd≠1)(hk6:kd<=8)
 (ho: -9223372036854775808<=on) (ho':on<=9223372036854775807) (hA: -9223372036854775808<=A) (Fg:A<=9223372036854775807) (hB: -9223372036854775808<=B) (hB':B<=9223372036854775807) (hs:s.size<=ae0)
 (hL:L.length<=4398046511099) (hz:kS L) (hI:fO w ia L) (hf:∀ib io,ia=Y ⟨ib,io,F⟩/\L≠ []->ib<w.heap.size/\(τ ib).1=0) (hKL:Kn.length<=8796093021952) (hKz:pZ Kn) (hKI:fo w ka Kn) (TY:∀ib io,ka=Y ⟨ib,io,F⟩/\Kn≠ []->ib<w.heap.size/\(τ ib).1=0) (h1:c<=1466015503690):
 Calls prog 32 #[ptr wb,dS kd on A B s (.slice ia L.length cap) (.slice ka Kn.length bR)] w λe w'=>e=.returned (.bool true)/\kq w τ wb c w':=by
 obtain⟨p,hp,hpk⟩:=yY on M.length hM;obtain⟨SV,k1⟩:=jf h (a9 kd on A B s (.slice ia L.length cap) (.slice ka Kn.length bR));obtain⟨g,X3,rD,g0,g1,ZG⟩:=SV.base.store hp;have e0:=SV.base.raw.blk.cell (o:=0) rfl;rw[rD]at e0;have tK:aT (w.alloc (a9 kd on A B s (.slice ia L.length cap) (.slice ka Kn.length bR))) w.heap.size #[.int .i64 kd,.int .i64 on,.int .i64 A,.int .i64 B,.string s,.slice ia L.length cap,.slice ka Kn.length bR] 86:=aT.new _ _ _;have b1:=tK.cell (o:=1) rfl;have Ey:=SV.base.raw.blk.lt;have kR:=tK.lt;have hn8:=h.base.n8;unfold ptr dS;unfold a9 ptr at *;go_enter func32,ntmps32;go_upto_region 5 with(fail)
 generalize w.alloc (.cells #[.int .i64 kd,.int .i64 on,.int .i64 A,.int .i64 B,.string s,.slice ia L.length cap,.slice ka Kn.length bR] 86)=w1 at *;go_cut [5] (λs5 wx=>∃ob,s5=.pointer (Y ⟨ob,0,F⟩)/\aT wx ob #[.pointer (Y ⟨a.sB p,0,F⟩),.pointer (Y ⟨a.rB p,0,F⟩)] 127/\Below w1.heap.size w1 wx/\w1.heap.size<=ob)
 case first=>
  go_region_held3 (λW=>W.cell? ⟨wb,0,F⟩=Y (.slice (Y ⟨g,0,F⟩) M.length X3)/\W.cell? ⟨w.heap.size,1,F⟩=Y (.int .i64 on)/\W.cell? ⟨g,p*2,F⟩=Y (.pointer (Y ⟨a.sB p,0,F⟩))/\W.cell? ⟨g,p*2+1,F⟩=Y (.pointer (Y ⟨a.rB p,0,F⟩))) (first|(simp[*];done)|(refine⟨?_,?_,?_,?_⟩ <;>(rw[World.cell?_of_block (Below.heap_alloc w1.drew _ _ (by simp only;assumption))];assumption))|(go_keep;done)) ((go_at_call 57;refine(Fj on M.length _ ho ho' I I).mono ?_;rintro e w2 ⟨rfl,rfl⟩;rw[hpk]))
  all_goals
   go_wp2_with fail
   go_meet
   case rel=>exact⟨w1.heap.size,rfl,aT.new _ _ _,((Below.refl _ _).alloc (Nat.le_refl _) _).drew,Nat.le_refl _⟩
 case rest=>
  obtain⟨ob,rfl,Ix,Oc,hol⟩:=hcut;have af3:=Ix.lt;have af4:ob≠w.heap.size:=I
  have ZF:∀k,k<w1.heap.size->gY (gY τ w.heap.size) ob k=gY τ w.heap.size k:=λk hk=>jv I;have h2:=SV.new Oc ZF;have k2:=k1.trans (vf.dg Oc ZF);have A1:=tK.of_eq (Oc.block _ kR);have t1:(gY (gY τ w.heap.size) ob w.heap.size).1=0:=by rw[jv (λe=>af4 e.symm)];exact m8
  have t2:(gY (gY τ w.heap.size) ob ob).1=0:=m8;have hm:=zcv hp;generalize M[p]=m at hm;obtain⟨As,hS⟩:=h2.st.s p m hm;have hI2:=hI.keep (λib io e=>k2.block ib (hf ib io e).1 (hf ib io e).2);have TZ:∀ib io,ia=Y ⟨ib,io,F⟩/\L≠ []->ib<wc.heap.size/\(gY (gY τ w.heap.size) ob ib).1=0:=λib io e=>⟨by have:=(hf ib io e).1;have:=k2.size;omega,by rw[k2.tag ib (hf ib io e).1];exact(hf ib io e).2⟩
  have af5:fo wc ka Kn:=hKI.keep (λib io e=>k2.block ib (TY ib io e).1 (TY ib io e).2);have af6:∀ib io,ka=Y ⟨ib,io,F⟩/\Kn≠ []->ib<wc.heap.size/\(gY (gY τ w.heap.size) ob ib).1=0:=λib io e=>⟨by have:=(TY ib io e).1;have:=k2.size;omega,by rw[k2.tag ib (TY ib io e).1];exact(TY ib io e).2⟩
  generalize gY (gY τ w.heap.size) ob=τ2 at *;have o0:wc.cell? ⟨w.heap.size,0,F⟩=Y (.int .i64 kd):=A1.cell rfl;have o2:wc.cell? ⟨w.heap.size,2,F⟩=Y (.int .i64 A):=A1.cell rfl;have o3:wc.cell? ⟨w.heap.size,3,F⟩=Y (.int .i64 B):=A1.cell rfl;have o4:wc.cell? ⟨w.heap.size,4,F⟩=Y (.string s):=A1.cell rfl;have x0:wc.cell? ⟨ob,0,F⟩=Y (.pointer (Y ⟨a.sB p,0,F⟩)):=Ix.cell rfl;have hrw:=h.ok;have Py:=h.ll;have hc0:=h.c0;by_cases q2:kd=2
  ·subst q2;have cp:=abO hS s hs;unfold ptr at cp;go_wp2_with fail
   refine cp.mono ?_;rintro e w3 ⟨rfl,lV⟩;have h3:LW w3 τ2 wb c a M:=h2.new lV (λ_ _=>rfl);obtain⟨Bs,hR⟩:=h3.st.r p m hm;have cr:=abP hR s hs;unfold ptr at cr;have y1:w3.cell? ⟨ob,1,F⟩=Y (.pointer (Y ⟨a.rB p,0,F⟩)):=(Ix.of_eq (lV.block _ af3)).cell rfl;have y4:w3.cell? ⟨w.heap.size,4,F⟩=Y (.string s):=(A1.of_eq (lV.block _ A1.lt)).cell rfl;have hq:wP m.parts s=(if bz s then partOf m.parts s else 0,if bz s then 0 else 4):=by unfold wP;split<;>simp_all
   rw[hq]at cr;simp only at cr;generalize (if bz s then partOf m.parts s else 0)=r1 at *;generalize (if bz s then(0:Int)else 4)=r2 at *;go_wp2_with fail
   refine cr.mono ?_;rintro e w4 ⟨rfl,hw4⟩;obtain rfl:=hw4.symm;go_wp2_with fail
   go_ret;exact⟨rfl,h3.left.lift (k2.trans (vf.dg lV (λ_ _=>rfl)))⟩
  ·by_cases q3:kd=3
   ·subst q3;have cp:=Ir h2 hm 3 on A B s ia L cap (.slice ka Kn.length bR) hL hz hI2 TZ h1;unfold ptr dS at cp;have o1:wc.cell? ⟨w.heap.size,1,F⟩=Y (.int .i64 on):=A1.cell rfl;have o5:wc.cell? ⟨w.heap.size,5,F⟩=Y (.slice ia L.length cap):=A1.cell rfl;have o6:wc.cell? ⟨w.heap.size,6,F⟩=Y (.slice ka Kn.length bR):=A1.cell rfl;have x1:wc.cell? ⟨ob,1,F⟩=Y (.pointer (Y ⟨a.rB p,0,F⟩)):=Ix.cell rfl;go_wp2_with fail
    refine cp.mono ?_;rintro e w3 ⟨rfl,hL3⟩;go_wp2_with fail
    go_ret;exact⟨rfl,hL3.lift k2⟩
   ·by_cases q7:kd=7
    ·subst q7;have cp:=Mr h2 hm 7 on A B s (.slice ia L.length cap) ka Kn bR hKL hKz af5 af6 h1;unfold ptr dS at cp;have o1:wc.cell? ⟨w.heap.size,1,F⟩=Y (.int .i64 on):=A1.cell rfl;have o5:wc.cell? ⟨w.heap.size,5,F⟩=Y (.slice ia L.length cap):=A1.cell rfl;have o6:wc.cell? ⟨w.heap.size,6,F⟩=Y (.slice ka Kn.length bR):=A1.cell rfl;have x1:wc.cell? ⟨ob,1,F⟩=Y (.pointer (Y ⟨a.rB p,0,F⟩)):=Ix.cell rfl;go_wp2_with fail
     refine cp.mono ?_;rintro e w3 ⟨rfl,hL3⟩;go_wp2_with fail
     go_ret;exact⟨rfl,hL3.lift k2⟩
    ·by_cases q4:kd=4\/kd=5\/kd=6\/kd=8
     ·rcases q4 with rfl|rfl|rfl|rfl;case' inl=>
       have cp:=PT hS A B hA Fg hB hB'
       have cr:=fun(w3:af) (Bs:RA) (hR:bh w3 τ2 (3+2*p) (a.rB p) m Bs)=>PU hR A B hA Fg
       have hrs:=Fb (hrw p m hm) A B
       generalize bS m A B=r at *
      case' inr.inl=>
       have cp:=T3 hS A B hA Fg hB hB'
       have cr:=fun(w3:af) (Bs:RA) (hR:bh w3 τ2 (3+2*p) (a.rB p) m Bs)=>T4 hR A B hA Fg
       have hrs:=Ij (hrw p m hm) A B
       generalize bN m A B=r at *
      case' inr.inr.inl=>
       have cp:=T5 hS A hA Fg
       have cr:=fun(w3:af) (Bs:RA) (hR:bh w3 τ2 (3+2*p) (a.rB p) m Bs)=>T6 hR A hA Fg
       have hrs:=Ik (hrw p m hm) A
       generalize dz m A=r at *
      case' inr.inr.inr=>
       have cp:=af8 hS A s hs hA Fg
       have cr:=fun(w3:af) (Bs:RA) (hR:bh w3 τ2 (3+2*p) (a.rB p) m Bs)=>af9 hR A s hA Fg
       have hrs:=PD (hrw p m hm) A s
       generalize iP m A s=r at *
      all_goals
       unfold ptr nh at cp
       unfold ptr Fl at cr
       obtain⟨r1,m'⟩:=r
       simp only at cp cr hrs
       go_wp2_with fail
       refine cp.mono ?_
       rintro e w3 ⟨A3,rfl,Od,wQ⟩
       have h3b:cD w3 τ2 wb M.length c a:=h2.base.pS wQ I
       have h3s:LS w3 τ2 a (M.set p m') M:=h2.st.KI wQ Od
       have k3:=k2.trans (wQ.kp I)
       have aga:=wQ.blk Ix (by rw[t2];omega)
       have X4:=wQ.blk A1 (by rw[t1];omega)
       obtain⟨Bs,hR⟩:=h3s.r p m hm
       have cr3:=cr w3 Bs hR
       have y1:w3.cell? ⟨ob,1,F⟩=Y (.pointer (Y ⟨a.rB p,0,F⟩)):=aga.cell rfl
       have y2:w3.cell? ⟨w.heap.size,2,F⟩=Y (.int .i64 A):=X4.cell rfl
       have y3:w3.cell? ⟨w.heap.size,3,F⟩=Y (.int .i64 B):=X4.cell rfl
       have y4:w3.cell? ⟨w.heap.size,4,F⟩=Y (.string s):=X4.cell rfl
       go_wp2_with fail
       refine cr3.mono ?_
       rintro e w4 ⟨rfl,Z9,H6⟩
       go_wp2_with fail
       go_ret
       exact⟨rfl,τ2,a,M.set p m',c,⟨by rw[List.length_set];exact h3b.pS H6 I,h3s.KJ H6 Z9,CV hrw (Int.le_refl _) hrs,Py,hc0⟩,I,I,k3.trans (H6.kp I)⟩
     ·obtain⟨n4,n5,n6,n8,n9⟩:kd≠4/\kd≠5/\kd≠6/\kd≠8/\kd≠9:=I
      go_wp2_with fail
      go_ret;exact⟨rfl,h2.left.lift k2⟩
end
structure Iy where
 kd:Int
 on:Int
 A:Int
 B:Int
 s:ah
 ia:Option aA
 L:List KV
 cap:Nat
 ka:Option aA
 Kn:List ah
 bR:Nat
structure xG(w:af)(x:Iy):Prop where
 on1: -9223372036854775808<=x.on
 on2:x.on<=9223372036854775807
 a1: -9223372036854775808<=x.A
 a2:x.A<=9223372036854775807
 b1: -9223372036854775808<=x.B
 b2:x.B<=9223372036854775807
 s:x.s.size<=ae0
 len:x.L.length<=4398046511099
 sizes:kS x.L
 items:fO w x.ia x.L
 old:∀ib io,x.ia=Y ⟨ib,io,F⟩/\x.L≠ []->ib<w.heap.size
 abQ:x.Kn.length<=8796093021952
 PV:pZ x.Kn
 texts:fo w x.ka x.Kn
 T7:∀ib io,x.ka=Y ⟨ib,io,F⟩/\x.Kn≠ []->ib<w.heap.size
def rM(w:af)(sa:Option aA)(ops:List Iy):Prop:=
 ∀(i:Nat) (x:Iy),ops[i]?=Y x->∃b o,sa=Y ⟨b,o,F⟩/\b<w.heap.size/\w.cell? ⟨b,o+i*7,F⟩=Y (.int .i64 x.kd)/\w.cell? ⟨b,o+i*7+1,F⟩=Y (.int .i64 x.on)/\w.cell? ⟨b,o+i*7+2,F⟩=Y (.int .i64 x.A)/\w.cell? ⟨b,o+i*7+3,F⟩=Y (.int .i64 x.B)/\
  w.cell? ⟨b,o+i*7+4,F⟩=Y (.string x.s)/\w.cell? ⟨b,o+i*7+5,F⟩=Y (.slice x.ia x.L.length x.cap)/\w.cell? ⟨b,o+i*7+6,F⟩=Y (.slice x.ka x.Kn.length x.bR)
section
variable {w:af}{τ:Nat->Tag}{wb:Nat}{c:Int}{a:LA}{M:List MS}{i:Nat}{m:MS}
def PW(h:LW w τ wb c a M)(x:Iy)(hx:xG w x)(hk6:0<M.length->x.kd<=8)(hf:∀ib io,x.ia=Y ⟨ib,io,F⟩/\x.L≠ []->(τ ib).1=0)(TY:∀ib io,x.ka=Y ⟨ib,io,F⟩/\x.Kn≠ []->(τ ib).1=0)(h1:c<=1466015503690):
 Calls prog 32 #[ptr wb,dS x.kd x.on x.A x.B x.s (.slice x.ia x.L.length x.cap) (.slice x.ka x.Kn.length x.bR)] w λe w'=>e=.returned (.bool true)/\kq w τ wb c w':=by
 by_cases e1:x.kd=1
 ·rw[e1];exact PS h _ _ _ _ _ _
 ·by_cases e2:0<M.length
  ·exact TX h e2 _ _ _ _ _ _ _ _ _ _ _ e1 (hk6 e2) hx.on1 hx.on2 hx.a1 hx.a2 hx.b1 hx.b2 hx.s hx.len hx.sizes hx.items (λib io e=>⟨hx.old ib io e,hf ib io e⟩) hx.abQ hx.PV hx.texts (λib io e=>⟨hx.T7 ib io e,TY ib io e⟩) h1
  ·have:M= []:=List.eq_nil_of_length_eq_zero I;subst this;exact Ms h _ _ _ _ _ _ _ e1
def la0:LA:={v:=λ_=>.slice F 0 0,sB:=λ_=>0,rB:=λ_=>0,L:=λ_=> [],N:=0}
def jS:Obj:=.cells #[.slice F 0 0,.slice F 0 0,.slice F 0 0,.slice F 0 0,.slice F 0 0,.slice F 0 0,.slice F 0 0,.int .i64 0] 84
def X5(b:Nat):Nat->Tag:=λk=>if k=b then(1,0,0)else(0,0,0)
def LW.begin(w:af):LW (w.alloc jS) (X5 w.heap.size) w.heap.size 0 la0 []:=by
 refine⟨⟨⟨aT.new w _ _,by simp[X5],λi hi=>?_,λi k _ hk=>(by cases hk)⟩,λq _ x hx=>(by cases hx),XI⟩,⟨λi m hm=>(by simp at hm),λi m hm=>(by simp at hm)⟩,λi m hm=>(by simp at hm),λq=>(by simp[la0]),I⟩;cases i with
 |zero=>exact World.ownsRow_nil _ _ _ _
 |succ i=>exact World.ownsRow_nil _ _ _ _
def dI(k:Int)(b:Nat):Iy:={kd:=k,on:=0,A:=1,B:=if k=1 then 1 else 0,s:=⟨#[97]⟩,ia:=Y ⟨b,0,F⟩,L:= [(⟨#[97]⟩,⟨#[49]⟩)],cap:=1,ka:=Y ⟨b+1,0,F⟩,Kn:= [⟨#[97]⟩],bR:=1}
def Iz{k:Int}(hb:aT w b #[.string ⟨#[97]⟩,.string ⟨#[49]⟩] 70)(fG:aT w (b+1) #[.string ⟨#[97]⟩] 9):xG w (dI k b):=by
 refine⟨by simp[dI],by simp[dI],by simp[dI],by simp[dI],?_,?_,by simp[dI,ae0];decide,by simp[dI],?_,?_,?_,by simp[dI],?_,?_,?_⟩
 ·simp only[dI];split<;>omega
 ·simp only[dI];split<;>omega
 ·intro x hx;simp[dI]at hx;subst hx;exact⟨by unfold ae0;decide,by unfold ae0;decide⟩
 ·intro j x hx;match j,hx with
  | 0,hx=>
    simp[dI]at hx;subst hx;exact⟨b,0,rfl,hb.cell (o:=0) rfl,hb.cell (o:=1) rfl⟩
  |j+1,hx=>simp[dI]at hx
 ·intro ib io e;simp[dI]at e;rw[<-e.1];exact hb.lt
 ·intro x hx;simp[dI]at hx;subst hx;unfold ae0;decide
 ·intro j x hx;match j,hx with
  | 0,hx=>
    simp[dI]at hx;subst hx;exact⟨b+1,0,rfl,fG.cell (o:=0) rfl⟩
  |j+1,hx=>simp[dI]at hx
 ·intro ib io e;simp[dI]at e;rw[<-e.1];exact fG.lt
def xG.keep{w w':af}{x:Iy}(h:xG w x)(hs:w.heap.size<=w'.heap.size)(hk:∀k,k<w.heap.size->w'.heap[k]?=w.heap[k]?):xG w' x:=
 ⟨h.on1,h.on2,h.a1,h.a2,h.b1,h.b2,h.s,h.len,h.sizes,h.items.keep (λib io e=>hk ib (h.old ib io e)),λib io e=>Nat.lt_of_lt_of_le (h.old ib io e) hs,h.abQ,h.PV,h.texts.keep (λib io e=>hk ib (h.T7 ib io e)),λib io e=>Nat.lt_of_lt_of_le (h.T7 ib io e) hs⟩
end
end
section
open Go Go.ChangeShapes Go.WideShapes Go.ChangeAt Go.RowKit Go.Deep
def KT:prog.cellsOf 86=7:=Yl
def Qt:prog.cellsOf 70=2:=Yl
def Qu:prog.cellsOf 3=1:=Yl
def uy:prog.cellsOf 9=1:=Yl
def Qv:prog.cellsOf 68=1:=Yl
def Qw:prog.cellsOf 38=1:=Yl
section
variable {H:Type}{enc:az×aj->H}{W:af}
def wT(t:az)(d:DataW H):Prop:=∀n∈d.weights prog t,n<=reachBytes
def MF{e:az}{l:List (DataW H)}:∀{d:DataW H} {n:Nat},d∈l->n∈d.weights prog e->n∈DataW.weightsAll prog e l:=by
 induction l with
 |nil=>intro d n h;cases h
 |cons x r ih=>
  intro d n h hn;simp only[DataW.weightsAll,List.mem_append];rcases List.mem_cons.1 h with rfl|h'
  ·exact Or.inl hn
  ·exact Or.inr (ih h' hn)
def Ux:prog.bytesOf 86=96:=Yl
def Qx:prog.bytesOf 9=16:=Yl
def Qy:prog.bytesOf 70=32:=Yl
def IM{y:DataW H×List MemPlace}(h:DataW.trod enc prog W 0 (λ_=>true) true n 68 [v]=Y y)(hw:wT 68 y.1):
 ∃ia L cap,v=.slice ia L.length cap/\fO W ia L/\kS L/\L.length*32<=reachBytes:=by
 rcases open_slice_pairs underlying68 underlying70 Qt rfl rfl uy uy h with⟨hc,rfl⟩|⟨a,len,cap,m,k,V0,V1,D0,D1,P0,P1,hc,_,hl,hm,hmm,rfl,hall⟩
 ·simp only[ap5,and_true]at hc;exact⟨F, [],0,hc,λk x hx=>(by simp at hx),λx hx=>(by simp at hx),XI⟩
 ·simp only[ap5,and_true]at hc;simp only[if_true]at hmm;have hlm:len<=m:=I
  have agF:∀i,i<len->∃q:KV,V0 i=.string q.1/\V1 i=.string q.2/\q.1.size<=ae0/\q.2.size<=ae0:=λi hi=>by obtain⟨_,_,t0,t1⟩:=hall i I;obtain⟨s0,h1,_,h3⟩:=bc9 underlying9 t0;obtain⟨s1,g1,_,g3⟩:=bc9 underlying9 t1;simp only[ap5,and_true]at h1 g1;exact⟨(s0,s1),h1,g1,h3,g3⟩
  have agG:∃f:Nat->KV,∀i,i<len->V0 i=.string (f i).1/\V1 i=.string (f i).2/\(f i).1.size<=ae0/\(f i).2.size<=ae0:=choose_lt (α:=KV) agF;obtain⟨f,hf⟩:=agG;refine⟨Y a,(List.range len).map f,cap,by simpa using hc,λj x hx=>?_,λx hx=>?_,?_⟩
  ·have hj:j<len:=by have:=(List.getElem?_eq_some_iff.1 hx).1;simpa using this
   have hx':x=f j:=by simpa[hj]using hx.symm
   subst hx';obtain⟨c0,c1,_,_⟩:=hall j I;obtain⟨e0,e1,_,_⟩:=hf j hj;obtain⟨b,o,spot⟩:=a;have FA:spot=F:=by simpa[Addr.add]using World.cell?_spot (hall 0 I).1
   subst FA;rw[e0,Go.Proofs.YteoahlieielcdaaGreat.add_plain]at c0;rw[e1,Go.Proofs.YteoahlieielcdaaGreat.add_plain]at c1;exact⟨b,o,rfl,c0,by rw[Nat.add_assoc];exact c1⟩
  ·obtain⟨i,hi,rfl⟩:=List.mem_map.1 hx;obtain⟨_,_,g1,g2⟩:=hf i (zcx.1 hi);exact⟨g1,g2⟩
  ·have h1:=hw ((len+(m-len))*32) (by simp only[ay0,underlying68,an4,aw9,Qy];exact ar6);simp only[an4,aw9];exact Nat.le_trans (Nat.mul_le_mul_right 32 I) h1
def IP{y:DataW H×List MemPlace}(h:DataW.trod enc prog W 0 (λ_=>true) true n 38 [v]=Y y)(hw:wT 38 y.1):
 ∃ia L cap,v=.slice ia L.length cap/\fo W ia L/\pZ L/\L.length*16<=reachBytes:=by
 rcases open_strs underlying38 underlying9 uy h with⟨hc,rfl⟩|⟨a,len,cap,m,Sx,hc,_,hl,hm,hmm,rfl,hall⟩
 ·simp only[ap5,and_true]at hc;exact⟨F, [],0,hc,λk x hx=>(by simp at hx),λx hx=>(by simp at hx),XI⟩
 ·simp only[ap5,and_true]at hc;simp only[if_true]at hmm;refine⟨Y a,(List.range len).map Sx,cap,by simpa using hc,λj x hx=>?_,λx hx=>?_,?_⟩
  ·have hj:j<len:=by have:=(List.getElem?_eq_some_iff.1 hx).1;simpa using this
   have hx':x=Sx j:=by simpa[hj]using hx.symm
   subst hx';obtain⟨c0,_⟩:=hall j I;obtain⟨b,o,spot⟩:=a;have FA:spot=F:=by simpa[Addr.add]using World.cell?_spot (hall 0 I).1
   subst FA;rw[Go.Proofs.YteoahlieielcdaaGreat.add_plain]at c0;exact⟨b,o,rfl,c0⟩
  ·obtain⟨i,hi,rfl⟩:=List.mem_map.1 hx;exact(hall i (by have:=zcx.1 hi;omega)).2
  ·have h1:=hw ((len+(m-len))*16) (by simp only[ay0,underlying38,an4,aw9,Qx];exact ar6);simp only[an4,aw9];exact Nat.le_trans (Nat.mul_le_mul_right 16 I) h1
def Uy{cs:List aj}{y:DataW H×List MemPlace}(h:DataW.trod enc prog W 0 (λ_=>true) true n 86 cs=Y y)(hw:wT 86 y.1):
 ∃x:Iy,cs= [.int .i64 x.kd,.int .i64 x.on,.int .i64 x.A,.int .i64 x.B,.string x.s,.slice x.ia x.L.length x.cap,.slice x.ka x.Kn.length x.bR]/\xG W x:=by
 obtain⟨xs,k,_,rfl,hl,hxl,hf⟩:=DataW.trod_struct underlying86 h;rw[KT]at hl;match cs,hl,xs,hxl with
 | [v0,v1,v2,v3,v4,v5,v6],_, [y0,y1,y2,y3,y4,y5,y6],_=>
   have g0:=hf 0 _ rfl;have g1:=hf 1 _ rfl;have g2:=hf 2 _ rfl;have g3:=hf 3 _ rfl;have g4:=hf 4 _ rfl;have g5:=hf 5 _ rfl;have g6:=hf 6 _ rfl;simp[Qu,uy,Qv,Qw]at g0 g1 g2 g3 g4 g5 g6;obtain⟨kd,h0,_,_⟩:=bb7 underlying3 g0;obtain⟨on,h1,_,w1⟩:=bb7 underlying3 g1;obtain⟨A,h2,_,w2⟩:=bb7 underlying3 g2;obtain⟨B,h3,_,w3⟩:=bb7 underlying3 g3;obtain⟨s,h4,_,w4⟩:=bc9 underlying9 g4;have hw5:wT 68 y5.1:=λn hn=>hw n (by simp only[ay0,underlying86];exact az0 (j:=5) (t:=68) (d:=y5.1) rfl rfl n hn)
   obtain⟨ia,L,cap,h5,hI,hz,hlen⟩:=IM g5 hw5;have hw6:wT 38 y6.1:=λn hn=>hw n (by simp only[ay0,underlying86];exact az0 (j:=6) (t:=38) (d:=y6.1) rfl rfl n hn)
   obtain⟨ka,Kn,bR,h6,hKI,hKz,aci⟩:=IP g6 hw6;simp only[ap5,and_true]at h0 h1 h2 h3 h4;subst h0 h1 h2 h3 h4 h5 h6;have hl5:L.length<=4398046511099:=by unfold reachBytes at hlen;omega
   have hl6:Kn.length<=8796093021952:=by unfold reachBytes at aci;omega
   simp[Lit.wf,IntKind.min,IntKind.max,IntKind.signed,IntKind.bits]at w1 w2 w3;refine⟨{kd:=kd,on:=on,A:=A,B:=B,s:=s,ia:=ia,L:=L,cap:=cap,ka:=ka,Kn:=Kn,bR:=bR},rfl,⟨w1.1,w1.2,w2.1,w2.2,w3.1,w3.2,w4,hl5,hz,hI,λib io e=>?_,hl6,hKz,hKI,λib io e=>?_⟩⟩;rotate_left
   ·obtain⟨e1,e2⟩:=e;simp only at e1 e2;subst e1;have hpos:0<Kn.length:=List.length_pos_iff.2 e2;have hx:Kn[0]?=Y Kn[0]:=zcv hpos;obtain⟨TS,TT,e3,c0⟩:=hKI 0 _ hx;cases e3;exact zcw W _ c0
   obtain⟨e1,e2⟩:=e;simp only at e1 e2;subst e1;have hpos:0<L.length:=List.length_pos_iff.2 e2;have hx:L[0]?=Y L[0]:=zcv hpos;obtain⟨TS,TT,e3,c0,_⟩:=hI 0 _ hx;cases e3;exact zcw W _ c0
def Qz{a0:Option aA}{len cap:Nat}{d:DataW H}{p:List MemPlace}(h:DataW.Trod enc prog W 0 (λ_=>true) true 22 (.slice a0 len cap) d p)(hw:wT 22 d):
 ∃ops:List Iy,ops.length=len/\ops.length<=1466015503660/\rM W a0 ops/\∀x∈ops,xG W x:=by
 obtain⟨n,h⟩:=h;rcases open_slice underlying22 (cs:= [.slice a0 len cap]) h with⟨hc,_⟩|⟨a,len',cap',m,n',D,Pl,hc,_,hl,hm,hmm,hx,hall⟩
 ·simp only[ap5,and_true,Value.slice.injEq]at hc;obtain⟨rfl,rfl,rfl⟩:=hc;exact⟨[],rfl,Nat.zero_le _,λi x hx=>(by simp at hx),λx hx=>(by simp at hx)⟩
 ·simp only[ap5,and_true,Value.slice.injEq]at hc;obtain⟨rfl,rfl,rfl⟩:=hc;simp only[if_true]at hmm;simp only[Prod.mk.injEq]at hx;obtain⟨rfl,_⟩:=hx;rw[KT]at hall;have hlen:len<=1466015503660:=by have h1:=hw ((len+(m-len))*96) (by simp only[ay0,underlying22,an4,aw9,Ux];exact ar6);unfold reachBytes at h1;omega
  have each:∀i,i<len->∃x:Iy,(W.cells? 0 (a.add (i*7)) 7=Y [.int .i64 x.kd,.int .i64 x.on,.int .i64 x.A,.int .i64 x.B,.string x.s,.slice x.ia x.L.length x.cap,.slice x.ka x.Kn.length x.bR])/\xG W x:=λi hi=>by
   obtain⟨cs',h1,h2⟩:=hall i I;have hb:wT 86 (D i):=λn hn=>hw n (by simp only[ay0,underlying22,List.mem_cons,List.mem_append];exact Or.inr (Or.inl (MF (List.mem_map.2 ⟨i,zcx.2 hi,rfl⟩) hn)))
   obtain⟨x,rfl,hok⟩:=Uy h2 hb;exact⟨x,h1,hok⟩
  have:Inhabited Iy:=⟨{kd:=0,on:=0,A:=0,B:=0,s:=ByteArray.empty,ia:=F,L:= [],cap:=0,ka:=F,Kn:= [],bR:=0}⟩
  obtain⟨f,hf⟩:=choose_lt each;refine⟨(List.range len).map f,XI,by simpa using hlen,λi x hx=>?_,λx hx=>?_⟩
  ·have hi:i<len:=by have:=(List.getElem?_eq_some_iff.1 hx).1;simpa using this
   have hx':x=f i:=by simpa[hi]using hx.symm
   subst hx';obtain⟨_,_,hcell⟩:=World.cells?_some (hf i hi).1;obtain⟨b,o,spot⟩:=a;have FA:spot=F:=by obtain⟨_,_,hc0⟩:=World.cells?_some (hf 0 I).1;simpa[Addr.add]using World.cell?_spot (hc0 0 I)
   subst FA;have k0:=hcell 0 I;have k1:=hcell 1 I;have k2:=hcell 2 I;have k3:=hcell 3 I;have k4:=hcell 4 I;have k5:=hcell 5 I;have k6:=hcell 6 I;rw[Go.Proofs.YteoahlieielcdaaGreat.add_plain,Go.Proofs.YteoahlieielcdaaGreat.add_plain]at k0 k1 k2 k3 k4 k5 k6;exact⟨b,o,rfl,zcw W _ k0,k0,k1,k2,k3,k4,k5,k6⟩
  ·obtain⟨i,hi,rfl⟩:=List.mem_map.1 hx;exact(hf i (zcx.1 hi)).2
end
end
end Go.Proofs.YteoahlieielcdaaGreat
