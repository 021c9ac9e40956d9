import Derived.Test.YteoahlieielcdaaGreatPrF3
import Derived.Test.YteoahlieielcdaaGreatPr24
import Derived.Conc.CompanyMem
set_option linter.all false
set_option maxHeartbeats 40000000
set_option maxRecDepth 100000
namespace Go.Proofs.YteoahlieielcdaaGreat
open Go Go.RowKit Go.MuLone
abbrev zbx:=@RowKit.Below.heap_alloc
abbrev zby:=@List.getElem?_eq_getElem
abbrev zbz:=@World.block_lt_of_cell?
abbrev zb0:=@Nat.zero_le
abbrev zb1:=@List.getElem_mem
abbrev zb2:=@List.take_length
abbrev zb3:=@List.take_succ_eq_append_getElem
variable{w0 w w' w2:World}{τ τ' τ0:Nat->Tag}{aD b P p j q:Nat}{s:MS}{A:SA}{L:List ByteArray}{x:ByteArray}{o:Obj}{rb:Option Nat}{kv v:Value}{f cm:Nat->Bool}{m:MW}
section
structure Env(w0 w:World)(τ:Nat->Tag):Prop where
 below:Below w0.heap.size w0 w
 yt:∀k,k<w0.heap.size->τ k=(0,0,0)
theorem Env.nG(h:Env w0 w τ)(hs:Stp aD τ w τ' w')(VB:aD≠0):Env w0 w' τ':=by
 have hsz:=h.below.size;refine⟨⟨hs.os.trans h.below.os,hs.tape.trans h.below.tape,hs.output.trans h.below.output,Nat.le_trans hsz hs.size,fun k hk=>?_⟩,fun k hk=>?_⟩
 ·exact(hs.block k (by omega) (by rw[h.yt k hk];exact fun e=>VB e.symm)).trans (h.below.block k hk)
 ·rw[hs.tag k (by omega),h.yt k hk]
def retag(τ:Nat->Tag)(n:Nat):Nat->Tag:=fun k=>if k=n then(0,0,0)else τ k
theorem Env.alloc{w0 w:World}{τ:Nat->Tag}(h:Env w0 w τ)(o:Obj):Env w0 (w.alloc o) (retag τ w.heap.size):=by have hsz:=h.below.size;refine⟨h.below.alloc hsz _,fun k hk=>?_⟩;unfold retag;rw[if_neg (by omega)];exact h.yt k hk
theorem aW.box(h:aW w τ aD b s A)(o:Obj):aW (w.alloc o) (retag τ w.heap.size) aD b s A:=
 h.frame (fun k hk _=>⟨zbx _ _ _ hk,by unfold retag;rw[if_neg (by omega)]⟩)
theorem aW.other{Zf:Nat}(h:aW w τ aD b s A)(hs:Stp Zf τ w τ' w')(hne:aD≠Zf):aW w' τ' aD b s A:=
 h.frame (fun k hk e=>⟨hs.block k hk (by rw[e];exact hne),hs.tag k hk⟩)
section
variable {w:World}
theorem qv(c n:Int)(w:World)(h1: -9223372036854775808<=c)(h2:c<=9223372036854775807)(hn:0<n)(hn':n<=9223372036854775807):
 Calls Tryz.prog 18 #[.int .i64 c,.int .i64 n] w fun e w'=>e=.returned (.int .i64 (eY c n))/\w'=w:=by
 by_cases h:c<0
 ·go_enter Tryz.func18,Tryz.ntmps18;go_wp2;go_ret;exact⟨iu (by rw[<-N7 c n h]),rfl⟩
 ·go_enter Tryz.func18,Tryz.ntmps18;go_wp2;go_ret;exact⟨iu (by rw[<-N8 c n (by omega)]),rfl⟩
def kK:ByteArray:=⟨#[107]⟩
def kV:ByteArray:=⟨#[118]⟩
def t0:MS:={parts:=1,mode:=1,ws:= [],rs:= []}
def t1:MS:=(jD t0 [(kK,kV)]).2.2
def t2:MS:=(ez t1 1 0).2
def t3:MS:=(eH t2 1 0).2
def t4:MS:=(py t3 [kK]).2.2
def t5:MS:=(lT t4 1 kK).2
theorem Zg:jD t0 [(kK,kV)]=(1,0,t1):=by rfl
theorem Zh:ez t1 1 0=(0,t2):=by rfl
theorem Zi:eH t2 1 0=(0,t3):=by rfl
theorem Zj:py t3 [kK]=(1,0,t4):=by rfl
theorem Zk:lT t4 1 kK=(0,t5):=by rfl
def Zl:MR:=(t5.rs[0]?).getD (gq [])
theorem RO:gN t5 1=some Zl:=by rfl
theorem N9:iG Zl=true:=by rfl
theorem JW:Zl.keys= [kK]:=by rfl
theorem Oa:Zl.found 0=1:=by rfl
theorem VC:uS t5 1 kK=kV:=by rfl
theorem EM(x:KV):xH (w.alloc (.cells #[.string x.1,.string x.2] 70)) (some ⟨w.heap.size,0,none⟩) [x]:=by
 intro k y hy;match k,hy with
 | 0,hy=>
   simp at hy;subst hy;exact⟨w.heap.size,0,rfl,(aT.new w _ _).cell (o:=0) rfl,(aT.new w _ _).cell (o:=1) rfl⟩
theorem Ob(x:ByteArray):CG (w.alloc (.cells #[.string x] 9)) (some ⟨w.heap.size,0,none⟩) [x]:=by
 intro k y hy;match k,hy with
 | 0,hy=>
   simp at hy;subst hy;exact⟨w.heap.size,0,rfl,(aT.new w _ _).cell (o:=0) rfl⟩
theorem rW(τ:Nat->Tag)(n:Nat):retag τ n n=(0,0,0):=by unfold retag;rw[if_pos rfl]
def Zm(p:Nat)(m:Int):MS:={parts:=p,mode:=m,ws:= [],rs:= []}
theorem Lg(hE:Env w0 w τ)(parts mode:Int)(h1: -9223372036854775808<=parts)(h2:parts<=9223372036854775807)(h3: -9223372036854775808<=mode)(h4:mode<=9223372036854775807):
 Calls Tryz.prog 14 #[.int .i64 parts,.int .i64 mode] w fun e w'=>∃τ' sb A,e=.returned (ptr sb)/\aW w' τ' 2 sb (Zm (1+eY parts 4).toNat (1+eY mode 3)) A/\Env w0 w' τ':=by
 obtain⟨b1,b2⟩:=td parts 4 (by omega);obtain⟨b3,b4⟩:=td mode 3 (by omega);have c1:=qv parts 4 w h1 h2 (by omega) (by omega);have c2:=qv mode 3 w h3 h4 (by omega) (by omega);have c3:=BG (1+eY parts 4) (1+eY mode 3) w τ 2 (by omega) (by omega) (by simp[pE];omega);generalize eY parts 4=pp at *;generalize eY mode 3=mm at *;unfold ptr at c3⊢;go_enter Tryz.func14,Tryz.ntmps14;go_wp2_with fail
 refine c1.mono ?_;rintro e w1 ⟨rfl,rfl⟩;clear c1;go_wp2_with fail
 refine c2.mono ?_;rintro e w2 ⟨rfl,rfl⟩;clear c2;go_wp2_with fail
 refine c3.mono ?_;rintro e wa ⟨τa,sb,A,rfl,hS,Eg,hta,-⟩;clear c3;have Q8:Env w0 wa τa:=⟨hE.below.trans (Eg.mono hE.below.size),fun k hk=>(hta k (by have:=hE.below.size;omega)).trans (hE.yt k hk)⟩
 have c4:=BG 1 1 wa τa 4 (by omega) (by omega) (by rfl);unfold ptr at c4;clear hta Eg hE;go_wp2_with fail
 refine c4.mono ?_;rintro e wb ⟨τb,tb,B,rfl,hT,hBb,htb,-⟩;clear c4;have hEb:Env w0 wb τb:=⟨Q8.below.trans (hBb.mono Q8.below.size),fun k hk=>(htb k (by have:=Q8.below.size;omega)).trans (Q8.yt k hk)⟩
 have Zn:aW wb τb 2 sb _ A:=hS.frame (fun k hk _=>⟨hBb.block k hk,htb k hk⟩);clear htb hBb Q8 hS;have hTx:aW wb τb 4 tb t0 B:=hT;clear hT;have c5:=Hy (hTx.box (.cells #[.string kK,.string kV] 70)) (some ⟨wb.heap.size,0,none⟩) 1 (L:= [(kK,kV)]) (by decide) (by decide) (by decide) (fun x hx=>by simp at hx;subst hx;decide) (EM (kK,kV)) (fun ib io e=>by cases e;rw[rW];decide);have Zo:=Zn.box (.cells #[.string kK,.string kV] 70);have hE5:=hEb.alloc (.cells #[.string kK,.string kV] 70);rw[Zg]at c5;unfold ptr at c5;have JX:kK=⟨#[107]⟩:=rfl;have TY:kV=⟨#[118]⟩:=rfl;rw[JX,TY]at c5 Zo hE5;clear hTx Zn hEb;go_wp2_with fail
 refine c5.mono ?_;rintro e wc ⟨τc,Bc,rfl,JY,Nb⟩;clear c5;have hSc:=Zo.other Nb (by decide);have hEc:=hE5.nG Nb (by decide);clear Nb Zo hE5;have c6:=EN JY 1 0 (by decide) (by decide) (by decide) (by decide);rw[Zh]at c6;unfold ptr at c6;clear JY;go_wp2_with fail
 refine c6.mono ?_;rintro e wd ⟨Bd,rfl,Lh,Q9⟩;clear c6;have hSd:=hSc.other Q9 (by decide);have hEd:=hEc.nG Q9 (by decide);clear Q9 hSc hEc;have c7:=JZ Lh 1 0 (by decide) (by decide) (by decide) (by decide);rw[Zi]at c7;unfold ptr at c7;clear Lh;go_wp2_with fail
 refine c7.mono ?_;rintro e we ⟨Be,rfl,hTe,hPe⟩;clear c7;have hSe:=hSd.other hPe (by decide);have hEe:=hEd.nG hPe (by decide);clear hPe hSd hEd;have c8:=TZ (hTe.box (.cells #[.string kK] 9)) (some ⟨we.heap.size,0,none⟩) 1 (L:= [kK]) (by decide) (by decide) (by decide) (fun x hx=>by simp at hx;subst hx;decide) (Ob kK) (fun ib io e=>by cases e;rw[rW];decide) (by decide);have hS8:=hSe.box (.cells #[.string kK] 9);have hE8:=hEe.alloc (.cells #[.string kK] 9);rw[Zj]at c8;unfold ptr at c8;rw[JX]at c8 hS8 hE8;clear hTe hSe hEe;go_wp2_with fail
 refine c8.mono ?_;rintro e wf ⟨τf,Bf,rfl,hTf,RP⟩;clear c8;have hSf:=hS8.other RP (by decide);have hEf:=hE8.nG RP (by decide);clear RP hS8 hE8;have c9:=Zp hTf 1 kK (by decide) (by decide) (by decide);rw[Zk]at c9;unfold ptr at c9;rw[JX]at c9;clear hTf;go_wp2_with fail
 refine c9.mono ?_;rintro e wg ⟨Bg,rfl,hTg,hPg⟩;clear c9;have hSg:=hSf.other hPg (by decide);have hEg:=hEf.nG hPg (by decide);clear hPg hSf hEf;have c10:=CH hTg 1 (by decide) (by decide) Zl RO N9 1 (fun j x hx=>by
  rw[JW]at hx;match j,hx with
  | 0,_=>exact Oa) (Or.inr (by rintro⟨e,_⟩;cases e))
 rw[JW]at c10;unfold ptr at c10;clear hTg;go_wp2_with fail
 refine c10.mono ?_;rintro e wh ⟨ab,C,rfl,hC,Xy,hA,hab,hTh,hPh⟩;clear c10;have hSh:=hSg.other hPh (by decide);have hEh:=hEg.nG hPh (by decide);clear hPh hSg hEg hTh;obtain⟨a0,a1,a2⟩:=hA 0 kK rfl;rw[VC]at a2;have l0:wh.cell? ⟨ab,0,none⟩=some (.string ⟨#[107]⟩):=hC.cell a0;have l1:wh.cell? ⟨ab,1,none⟩=some (.int .i64 1):=hC.cell a1;have l2:wh.cell? ⟨ab,2,none⟩=some (.string ⟨#[118]⟩):=hC.cell a2;clear hA a0 a1 a2 JX TY;go_wp2_with fail
 go_ret;exact⟨_,sb,A,rfl,hSh,hEh⟩
end
end
section
def RQ:List ByteArray:= [⟨#[97]⟩,⟨#[98]⟩,⟨#[99]⟩,⟨#[100,100]⟩,⟨#[101,49]⟩,⟨#[122,122,122,122]⟩]
def Eh(k:Nat):ByteArray:=RQ.getD k ⟨#[]⟩
def jv(b k:Nat):Bool:=Go.bits BinOp.and IntKind.i64 ((b:Int)/ 2 ^ k) 1 == 1
def bV(b:Nat):Nat->List ByteArray
 | 0=> []
 |k+1=>bV b k++(if jv b k then [Eh k]else [])
def aA(b:Nat):List ByteArray:=bV b 6
theorem yu(b k:Nat):(bV b k).length<=k:=by
 induction k with
 |zero=>simp[bV]
 |succ k ih=>
  simp only[bV];split<;>simp<;>omega
theorem uT:∀b,b<64->(aA b).Nodup/\(∀x∈aA b,bK x=true)/\(1<=b->1<=(aA b).length)/\(aA b).length<=6:=by decide+kernel
section
variable {w:World}
theorem EO(b:Nat):Calls Tryz.prog 17 #[.int .i64 b] w fun e w'=>∃v,e=.returned v/\w'.ownsRow w.heap.size 9 1 v (aA b).length ((aA b).map Value.string)/\Below w.heap.size w w':=by
 obtain⟨si,hsi,Zq,Zr,Zs⟩:=info_parts yw;go_enter Tryz.func17,Tryz.ntmps17;go_wp2_with fail
 go_loopw [3,4] (fun s3 u wr=>∃(k:Nat),k<=6/\u=.int .i64 k/\wr.ownsRow w.heap.size 9 1 s3 (bV b k).length ((bV b k).map Value.string)/\Below w.heap.size w wr) (fun _ u _=>6-(intOf u).toNat)
 case atStart=>exact⟨0,by omega,rfl,World.ownsRow_nil _ _ _ _,Below.refl _ _⟩
 case round=>
  obtain⟨k,hk,rfl,hrow,hB⟩:=hrel;by_cases hlt:k<6
  ·obtain⟨av,jS,Zt⟩:=gH hrow;have hLk:=yu b k;have hsz:=hB.size;obtain⟨bt,xG⟩:∃bt,jv b k=bt:=⟨_,rfl⟩
   have adO:=xG;unfold jv at adO;cases bt with
   |true=>
    have HK:Hid (bV b (k+1)=bV b k++ [Eh k]):=by show bV b k++(if jv b k=true then [Eh k]else [])=_;rw[xG];rfl
    have h6:((wr.alloc (.cells #[.string ⟨#[97]⟩,.string ⟨#[98]⟩,.string ⟨#[99]⟩,.string ⟨#[100,100]⟩,.string ⟨#[101,49]⟩,.string ⟨#[122,122,122,122]⟩] 9))).cell? ⟨wr.heap.size,k,none⟩=some (.string (Eh k)):=by
     refine(aT.new wr _ _).cell ?_;match k,hlt with
     | 0,_=>rfl
     | 1,_=>rfl
     | 2,_=>rfl
     | 3,_=>rfl
     | 4,_=>rfl
     | 5,_=>rfl
    have T3:=(hrow.alloc (.cells #[.string ⟨#[97]⟩,.string ⟨#[98]⟩,.string ⟨#[99]⟩,.string ⟨#[100,100]⟩,.string ⟨#[101,49]⟩,.string ⟨#[122,122,122,122]⟩] 9))
    have dP:Below w.heap.size w (wr.alloc (.cells #[.string ⟨#[97]⟩,.string ⟨#[98]⟩,.string ⟨#[99]⟩,.string ⟨#[100,100]⟩,.string ⟨#[101,49]⟩,.string ⟨#[122,122,122,122]⟩] 9)):=hB.alloc hsz _;have hrw:=T3;generalize hxs:(bV b k).map Value.string=xs at *;generalize hnk:(bV b k).length=nk at *;generalize Eh k=sk at *;have HX:Hid (∀(w2:World) (v2:Value),w2.ownsRow w.heap.size 9 1 v2 (nk+1) (xs++ [.string sk])->w2.ownsRow w.heap.size 9 1 v2 (bV b (k+1)).length ((bV b (k+1)).map Value.string)):=fun w2 v2 h=>by rw[HK.out,List.length_append,List.map_append,hxs,hnk];exact h
    clear xG HK hxs hnk hrow;subst Zt;have hcz:w.heap.size<=(wr.alloc (.cells #[.string ⟨#[97]⟩,.string ⟨#[98]⟩,.string ⟨#[99]⟩,.string ⟨#[100,100]⟩,.string ⟨#[101,49]⟩,.string ⟨#[122,122,122,122]⟩] 9)).heap.size:=dP.size;go_wp2_with (at_builtin;refine wpList_append_own_at _ rfl (.tmp 14) (.tmp 19) 38 rfl w.heap.size 9 si _ 1 16 Tryz.underlying38 hsi Zq Zr Zs rfl (by decide) (.slice av nk jS) nk xs rfl (T3.alloc _) ⟨_,0,none⟩ 1 1 [.string sk] rfl rfl (by first|exact cell_one_new _ _ _|(simpa using cell_one_new (wr.alloc (.cells #[.string ⟨#[97]⟩,.string ⟨#[98]⟩,.string ⟨#[99]⟩,.string ⟨#[100,100]⟩,.string ⟨#[101,49]⟩,.string ⟨#[122,122,122,122]⟩] 9)) (.string sk) 9)) (by simp[Value.oneCell']) (by unfold maxLen;omega) (by omega) (by simp;omega) ?_;intro v2 w2 AA qO Oc hA2)
    have hO3:=HX.out w2 v2 AA;have lU:Below w.heap.size w w2:=(dP.alloc hcz _).grown qO (by simp;omega) (fun q e=>(aR hrw q e).1);clear Oc hA2;go_wp2_with fail
    go_roundw
    case rel=>exact⟨k+1,by omega,by go_num,hO3,lU⟩
    case measure=>simp[intOf];omega
   |false=>
    have HK:Hid (bV b (k+1)=bV b k):=by show bV b k++(if jv b k=true then [Eh k]else [])=_;rw[xG];simp
    clear xG;go_wp2_with fail
    go_roundw
    case rel=>exact⟨k+1,by omega,by go_num,by rw[HK.out];exact hrow,hB⟩
    case measure=>simp[intOf];omega
  ·have hk6:k=6:=by omega
   subst hk6;go_wp2_with fail
   go_ret;exact⟨_,rfl,hrow,hB⟩
end
end
section
def vv:ByteArray:=⟨#[118]⟩
def tj(L:List ByteArray):List KV:=L.map (fun x=>(x,vv))
def dS(P:Nat)(L:List ByteArray):Nat->Bool:=fun q=>az P (tj L) q
theorem uU(P:Nat):dS P []=fun _=>false:=by funext q;simp[dS,tj,az]
theorem rX(hp:partOf P x=p):dS P (L++ [x])=put (dS P L) p:=by
 funext q;simp only[dS,tj,List.map_append,List.map_cons,List.map_nil,lZ,put,hp];by_cases e:q=p
 ·subst e;simp
 ·have:¬((p:Int)=(q:Int)):=by omega
  simp[e,this]
section
variable {P:Nat}{M:Int}{L:List ByteArray}{pf:Nat->Bool}{rs:List MR}
end
end
section
def fresh(τ:Nat->Tag)(n:Nat):Nat->Tag:=fun k=>if n<=k then(0,0,0)else τ k
theorem aW.grown(h:aW w τ aD b s A)(hG:(w.alloc o).grownBy w2 rb)(hrb:∀k,rb=some k->τ k=(0,0,0))(VB:aD≠0):aW w2 (fresh τ w.heap.size) aD b s A:=
 h.frame (fun k hk e=>⟨(hG.block k (by simp;omega) (fun e'=>by rw[hrb k e'.symm]at e;exact VB e.symm)).trans (zbx _ _ _ hk),by unfold fresh;rw[if_neg (by omega)]⟩)
section
variable {w1 w w':World}{τ τ':Nat->Tag}{sb:Nat}{s s':MS}{A A':SA}{L:List ByteArray}{ig onb:Nat}{f:Nat->Bool}
end
end
section
theorem uV(on:Int)(n:Nat)(hn:0<n):∃p:Nat,p<n/\eY on n=(p:Int):=by obtain⟨h1,h2⟩:=td on n (by omega);exact⟨(eY on n).toNat,by omega,by omega⟩
section
variable {w:World}
end
end
section
def nS:Nat->Nat->ByteArray->ByteArray
 | 0,_,s=>s
 |f+1,n,s=>if n=0 then s else nS f (n / 10) (⟨#[UInt8.ofNat (48+n % 10)]⟩++s)
def oM(n:Nat):ByteArray:=nS 20 n ⟨#[]⟩
section
variable {w:World}
theorem yx(n:Nat)(h1:1<=n)(h2:n<=1000):Calls Tryz.prog 25 #[.int .i64 n] w fun e w'=>e=.returned (.string (oM n))/\Below w.heap.size w w':=by
 go_enter Tryz.func25,Tryz.ntmps25;go_wp2_with fail
 go_loopw [0,3] (fun u s3 wr=>∃(f m:Nat) (s:ByteArray),u=.int .i64 m/\s3=.string s/\m<10 ^ f/\f<=20/\s.size+f=20/\m<=1000/\(m=0->1<=s.size)/\Hid (nS f m s=oM n)/\Below w.heap.size w wr) (fun u _ _=>(intOf u).toNat)
 case atStart=>exact⟨20,n,⟨#[]⟩,rfl,rfl,by omega,by omega,rfl,by omega,by omega,rfl,Below.refl _ _⟩
 case round=>
  obtain⟨f,m,s,rfl,rfl,hm,hf,hs,hm2,h0,HD,hB⟩:=hrel;by_cases hlt:0<m
  ·have hlt':decide ((m:Int)> 0)=true:=by simp;omega
   have kc:(convert 116 9 (.slice (some ⟨wr.heap.size,0,none⟩) 1 1)).run Tryz.prog (wr.alloc (.cells #[.int .u8 (48+(m:Int)% 10)] 5))=.ok (.string ⟨#[UInt8.ofNat (48+m % 10)]⟩) (wr.alloc (.cells #[.int .u8 (48+(m:Int)% 10)] 5)):=by
    have:=run_convert_bytes_arg (P:=Tryz.prog) (wr.alloc (.cells #[.int .u8 (48+(m:Int)% 10)] 5)) 116 5 Tryz.underlying116 Tryz.underlying5 wr.heap.size 0 1 1 [48+(m:Int)% 10] rfl (fun i hi=>by
     match i,hi with
     | 0,_=>exact(aT.new wr _ _).cell (o:=0) rfl) 9 Tryz.underlying9
    rw[this];have e:(48+(m:Int)% 10).toNat=48+m % 10:=by omega
    simp[strOfNums,e]
   generalize Li:(⟨#[UInt8.ofNat (48+m % 10)]⟩:ByteArray)=xx at *;have hxs:xx.size=1:=by rw[<-Li];rfl
   have HN:Hid (∃g,f=g+1/\m / 10<10 ^ g/\nS g (m / 10) (xx++s)=oM n):=by
    cases f with
    |zero=>simp at hm;omega
    |succ g=>
     refine⟨g,rfl,by rw[Nat.pow_succ]at hm;omega,?_⟩;have:=HD.out;unfold nS at this;rw[if_neg (by omega),Li]at this;exact this
   clear Li;go_wp2_with fail
   go_roundw
   case rel=>
    obtain⟨g,rfl,h8,h9⟩:=HN.out;exact⟨g,m / 10,xx++s,by go_num,rfl,h8,by omega,by rw[ByteArray.size_append];omega,by omega,fun _=>by rw[ByteArray.size_append];omega,h9,hB.alloc hB.size _⟩
   case measure=>simp[intOf];omega
  ·have hm0:m=0:=by omega
   subst hm0;have hs1:=h0 rfl;have hne:s.toList.isEmpty=false:=by
    rw[ByteArray.toList_eq,Bool.eq_false_iff];intro h;rw[List.isEmpty_iff]at h;have:s.data.toList.length=0:=by rw[h];rfl
    simp at this;simp[ByteArray.size,this]at hs1
   have HE:Hid (s=oM n):=by
    have:=HD.out;cases f with
    |zero=>exact this
    |succ g=>unfold nS at this;rw[if_pos rfl]at this;exact this
   go_wp2_with fail
   go_ret;exact⟨congrArg (fun x=>Ending.returned (.string x)) HE.out,hB⟩
end
end
section
def kx:ByteArray:=⟨#[120]⟩
def EP:ByteArray:=⟨#[]⟩
def xW:MW:={jT [(kx,EP)]with ed:=true}
def aS(L:List ByteArray)(n:Nat):List KV:=L.map (fun x=>(x,x++oM n))
def eB(L:List ByteArray):List KV:=L.map (fun x=>(x,EP))
def T4(L:List ByteArray)(n:Nat)(pf:Nat->Bool):MW:={items:=aS L n,dL:=pf,comm:=fun _=>false,ed:=false}
def Ei(s:MS)(L:List ByteArray)(pf:Nat->Bool):MS:={s with ws:=s.ws++ [xW,T4 L (s.ws.length+2) pf]}
def Xz(s:MS):MS:={s with ws:=s.ws++ [jT [(kx,EP)]]}
def xS(s:MS):MS:={s with ws:=s.ws++ [xW]}
theorem EQ(f:Nat):∀(n:Nat) (s:ByteArray),(nS f n s).size<=f+s.size:=by
 induction f with
 |zero=>intro n s;simp[nS]
 |succ f ih=>
  intro n s;unfold nS;split
  ·omega
  ·refine Nat.le_trans (ih _ _) ?_;rw[ByteArray.size_append,show (ByteArray.mk #[UInt8.ofNat (48+n % 10)]).size=1 from rfl];omega
theorem uW(n:Nat):(oM n).size<=20:=EQ 20 n ⟨#[]⟩
theorem ru(L:List ByteArray)(x:ByteArray)(n:Nat):aS (L++ [x]) n=aS L n++ [(x,x++oM n)]:=by simp[aS]
theorem rY(L:List ByteArray)(n:Nat)(x:ByteArray):aH (aS L n) x=dX L x:=by simp[aH,dX,aS,List.any_map,Function.comp_def]
theorem Lj:∀(L A:List ByteArray) (n:Nat),(A++L).Nodup->(∀x∈L,bK x=true)->cF (aS A n) (aS L n)=0:=by
 intro L;induction L with
 |nil=>intro A n _ _;rfl
 |cons x r ih=>
  intro A n hn hg;have hgx:=hg x (by simp);have hz:=uW n;have h1:gj (x,x++oM n)=true:=by simp only[gj,hgx,Bool.true_and,decide_eq_true_eq,ByteArray.size_append];simp[bK]at hgx;omega
  have h2:aH (aS A n) x=false:=by rw[rY];simp only[dX,List.any_eq_false,decide_eq_true_eq];rintro y hy rfl;have:=(List.nodup_append.1 hn).2.2 y hy y (by simp);exact this rfl
  show cF (aS A n) ((x,x++oM n):: aS r n)=0;rw[ER h1 h2,<-ru];exact ih (A++ [x]) n (by simpa using hn) (fun y hy=>hg y (by simp[hy]))
theorem VD(n:Nat)(hn:L.Nodup)(hg:∀x∈L,bK x=true)(h1:1<=L.length)(h8:L.length<=8):eC (aS L n)=0:=by
 unfold eC;have hvl:(aS L n).length=L.length:=by simp[aS]
 rw[if_neg (by rw[hvl];omega)];exact Lj L [] n (by simpa using hn) hg
section
variable {s:MS}{L:List ByteArray}{pf:Nat->Bool}
theorem adP(h:s.ws.length<200):jD s [(kx,EP)]=((s.ws.length:Int)+1,0,Xz s):=by
 have hc:eC [(kx,EP)]=0:=by decide+kernel
 unfold jD;rw[if_neg (by rw[hc];simp),if_neg (by omega)];rfl
theorem Ll:jd (Xz s) ((s.ws.length:Int)+1)=(0,xS s):=by
 have hf:bF (Xz s) ((s.ws.length:Int)+1)=some (jT [(kx,EP)]):=by unfold bF;rw[if_neg (by simp[Xz];omega),show ((s.ws.length:Int)+1-1).toNat=s.ws.length from by omega];simp[Xz,jT]
 unfold jd;rw[hf];simp only[jT,Bool.or_false,Bool.false_eq_true,if_false];unfold wY Xz xS;rw[show ((s.ws.length:Int)+1-1).toNat=s.ws.length from by omega];simp[xW,jT]
theorem Od(h:s.ws.length+1<200)(hc:eC (aS L (s.ws.length+2))=0):jD (xS s) (aS L (s.ws.length+2))=((s.ws.length:Int)+2,0,Ei s L (fun _=>false)):=by unfold jD;rw[if_neg (by rw[hc];simp),if_neg (by simp[xS];omega)];simp only[xS,Ei,List.length_append,List.length_cons,List.length_nil,Prod.mk.injEq,true_and];refine⟨by omega,?_⟩;simp[T4,jT]
theorem RR(h:s.ws.length+2<=200):bF (Ei s L pf) ((s.ws.length:Int)+2)=some (T4 L (s.ws.length+2) pf):=by unfold bF;rw[if_neg (by simp[Ei];omega),show ((s.ws.length:Int)+2-1).toNat=s.ws.length+1 from by omega];simp[Ei,T4]
theorem rZ(P:Int)(L:List ByteArray)(n:Nat)(q:Int):az P (aS L n) q=L.any (fun x=>decide (partOf P x=q)):=by simp[az,aS,List.any_map,Function.comp_def]
theorem yy(P:Nat)(L:List ByteArray)(q:Nat):dS P L q=L.any (fun x=>decide (partOf P x=(q:Int))):=by simp[dS,az,tj,List.any_map,Function.comp_def]
theorem VE(g:MW):wY (Ei s L pf) ((s.ws.length:Int)+2) g={s with ws:=s.ws++ [xW,g]}:=by unfold wY Ei;rw[show ((s.ws.length:Int)+2-1).toNat=s.ws.length+1 from by omega];simp
theorem RU(h:s.ws.length+2<=200)(hx:x∈L)(hp:partOf s.parts x=p):ez (Ei s L pf) ((s.ws.length:Int)+2) p=(if pf p then 10 else 0,Ei s L (put pf p)):=by
 unfold ez;rw[RR h];have h1:az (Ei s L pf).parts (T4 L (s.ws.length+2) pf).items p=true:=by show az s.parts (aS L (s.ws.length+2)) p=true;rw[rZ,List.any_eq_true];exact⟨x,hx,by simpa using hp⟩
 simp only[h1,Bool.true_eq_false,if_false,Int.toNat_natCast];cases hc:pf p with
 |true=>
  have:put pf p=pf:=by funext q;unfold put;split<;>simp_all
  have h2:(T4 L (s.ws.length+2) pf).dL p=true:=hc;simp only[h2,if_true,this]
 |false=>
  have h2:(T4 L (s.ws.length+2) pf).dL p=false:=hc;simp only[h2,Bool.false_eq_true,if_false,VE];rfl
end
end
section
theorem Stp.Oe{s:Nat}(h:Stp s τ0 w0 τ w)(hG:(w.alloc o).grownBy w2 rb)(hrb:∀k,rb=some k->w0.heap.size<=k):Stp s τ0 w0 (fresh τ w.heap.size) w2:=by
 have Og:w.heap.size<w2.heap.size:=by have:=hG.size;simp at this;omega
 refine⟨hG.os.trans h.os,hG.tape.trans h.tape,hG.output.trans h.output,by have:=h.size;omega,fun k hk=>?_,fun k hk hs=>?_⟩
 ·unfold fresh;rw[if_neg (by have:=h.size;omega)];exact h.tag k hk
 ·exact(hG.block k (by have:=h.size;simp;omega) (fun e=>by have:=hrb k e.symm;omega)).trans ((zbx _ _ _ (by have:=h.size;omega)).trans (h.block k hk hs))
theorem Stp.box{s:Nat}(h:Stp s τ0 w0 τ w)(o:Obj):Stp s τ0 w0 (retag τ w.heap.size) (w.alloc o):=by
 refine⟨h.os,h.tape,h.output,by have:=h.size;simp;omega,fun k hk=>?_,fun k hk hs=>?_⟩
 ·unfold retag;rw[if_neg (by have:=h.size;omega)];exact h.tag k hk
 ·exact(zbx _ _ _ (by have:=h.size;omega)).trans (h.block k hk hs)
theorem AB(L:List ByteArray)(x:ByteArray):eB (L++ [x])=eB L++ [(x,EP)]:=by simp[eB]
def dU(L:List ByteArray)(n j:Nat):List KV:=aS (L.take j) n++eB (L.drop j)
theorem CI(L:List ByteArray)(n j:Nat):(dU L n j).length=L.length:=by simp[dU,aS,eB];omega
theorem AD(L:List ByteArray)(n:Nat):dU L n 0=eB L:=by simp[dU,aS]
theorem CJ(L:List ByteArray)(n:Nat):dU L n L.length=aS L n:=by simp[dU,eB]
theorem vU(a b:List KV):aY (a++b)=aY a++aY b:=by simp[aY]
theorem AE(L:List ByteArray)(n j:Nat)(x:ByteArray)(h:L[j]?=some x):(aY (dU L n j)).set (j*2+1) (.string (x++oM n))=aY (dU L n (j+1)):=by
 obtain⟨hj,rfl⟩:=List.getElem?_eq_some_iff.1 h;unfold dU;rw[zb3 hj,ru,List.drop_eq_getElem_cons hj,List.append_assoc,vU,vU];have hl:(aY (aS (L.take j) n)).length=j*2:=by rw[pF];simp[aS];omega
 have e:aY (eB (L[j] :: L.drop (j+1)))=.string L[j] :: .string EP :: aY (eB (L.drop (j+1))):=rfl;rw[e,List.set_append_right _ _ (by rw[hl];omega),hl,show j*2+1-j*2=1 from by omega];simp[aY]
structure Ra(w0:World)(τ0:Nat->Tag)(w:World)(τ:Nat->Tag)(sb:Nat)(s:MS)(A:SA):Prop where
 rep:aW w τ 2 sb s A
 nG:Stp 2 τ0 w0 τ w
section
variable {w:World}{τ:Nat->Tag}{sb:Nat}{s:MS}{A:SA}{L:List ByteArray}
theorem yz{base:Nat}{e:TypeId}{size:Nat}{g n cap:Nat}{xs:List Value}(h:w.ownsRow base e size (.slice (some ⟨g,0,none⟩) n cap) n xs)(hb:w'.heap[g]?=w.heap[g]?):w'.ownsRow base e size (.slice (some ⟨g,0,none⟩) n cap) n xs:=
 ak h (fun k hk=>by cases hk;exact hb)
theorem Lm(hR:aW w τ 2 sb s A)(kg bC:Nat)(KQ:1<=L.length)(Hz:L.length<=8)(hnd:L.Nodup)(hg:∀x∈L,bK x=true)
 (hkc:∀(j:Nat) (x:ByteArray),L[j]?=some x->w.cell? ⟨kg,j,none⟩=some (.string x)) (tu:kg<w.heap.size) (Ej:(τ kg).1=0) (hlen:s.ws.length+2<=200):
 Calls Tryz.prog 19 #[ptr sb,.slice (some ⟨kg,0,none⟩) L.length bC] w fun e w'=>∃τ' A',e=.returned (.int .i64 ((s.ws.length:Int)+2))/\aW w' τ' 2 sb (Ei s L (dS s.parts L)) A'/\Stp 2 τ w τ' w':=by
 have HG:Hid (∀x∈L,bK x=true):=hg;have Zu:Hid (∀(j:Nat) (x:ByteArray),L[j]?=some x->w.cell? ⟨kg,j,none⟩=some (.string x)):=hkc;have HV:Hid (eC (aS L (s.ws.length+2))=0):=VD _ hnd hg KQ Hz;have HW:Hid (Ra w τ w τ sb s A):=⟨hR,Stp.refl _ _ _⟩
 have HP:Hid (1<=s.parts/\s.parts<=4):=⟨hR.ok.p1,hR.ok.p4⟩
 have HJ:Hid (∀(τr:Nat->Tag) (wr:World),Stp 2 τ w τr wr->∀(j:Nat) (x:ByteArray),L[j]?=some x->wr.cell? ⟨kg,j,none⟩=some (.string x)):=fun τr wr hs j x hx=>
  (World.cell?_of_block (w:=w) (a:=⟨kg,j,none⟩) (hs.block kg tu (by rw[Ej];decide))).trans (hkc j x hx)
 unfold ptr;clear hg hkc hR hnd Ej;obtain⟨ii,oG,Zv,Zw,Zx⟩:=info_parts J0;go_enter Tryz.func19,Tryz.ntmps19;go_wp2_with fail
 go_loopw [5,6] (fun s5 u wr=>∃(j:Nat) (τr:Nat->Tag),j<=L.length/\u=.int .i64 j/\wr.ownsRow w.heap.size 70 2 s5 j (aY (eB (L.take j)))/\Hid (∀k,s5.ownBlock=some k->τr k=(0,0,0))/\Hid (Ra w τ wr τr sb s A)) (fun _ u _=>L.length-(intOf u).toNat)
 case atStart=>exact⟨0,τ,zb0 _,rfl,World.ownsRow_nil _ _ _ _,(fun k e=>(by cases e)),HW⟩
 case round=>
  obtain⟨j,τr,hj,rfl,hrow,HT,HR⟩:=hrel;by_cases hlt:j<L.length
  ·have hx:L[j]?=some L[j]:=zby hlt;have Rb:Hid (eB (L.take (j+1))=eB (L.take j)++ [(L[j],EP)]):=by unfold Hid;rw[zb3 hlt,AB]
   have ck:=HJ.out τr wr HR.out.nG j _ hx;generalize L[j]=x at *;obtain⟨av,jS,hv⟩:=gH hrow;have adQ:=HR.out.nG.size;have HX:Hid (∀(w2:World) (v2:Value) (o:Obj),w2.ownsRow w.heap.size 70 2 v2 (j+1) (aY (eB (L.take j))++ [.string x,.string ⟨#[]⟩])->(wr.alloc o).grownBy w2 (Value.slice av j jS).ownBlock->(v2.ownBlock=(Value.slice av j jS).ownBlock\/v2.ownBlock=some (wr.alloc o).heap.size)->
    w2.ownsRow w.heap.size 70 2 v2 (j+1) (aY (eB (L.take (j+1))))/\(∀k,v2.ownBlock=some k->fresh τr wr.heap.size k=(0,0,0))/\Ra w τ w2 (fresh τr wr.heap.size) sb s A):=fun w2 v2 o a1 a2 a3=>by
    rw[hv]at hrow HT;refine⟨by rw[Rb.out,tA];exact a1,fun k hk=>?_,HR.out.rep.grown a2 HT.out (by decide),HR.out.nG.Oe a2 (fun k hk=>(aR hrow k hk).1)⟩;rcases a3 with e|e
    ·rw[hk]at e;have:=HT.out k e.symm;unfold fresh;split
     ·rfl
     ·exact this
    ·rw[hk]at e;have:=Option.some.inj e;simp at this;unfold fresh;rw[if_pos (by omega)]
   generalize aY (eB (L.take j))=xs at *;subst hv;clear Rb hx;go_wp2_with (at_builtin;refine wpList_append_own_at _ rfl (.tmp 23) (.tmp 29) 68 rfl w.heap.size 70 ii _ 2 32 Tryz.underlying68 oG Zv Zw Zx rfl (by decide) (.slice av j jS) j xs rfl (hrow.alloc _) ⟨_,0,none⟩ 1 1 [.string x,.string ⟨#[]⟩] rfl rfl (cell_two_new _ _ _ _) (by simp[Value.oneCell']) (by unfold maxLen;omega) (by omega) (by simp;omega) ?_;intro v2 w2 AA qO Oc hA2)
   obtain⟨r1,r2,r3⟩:=HX.out w2 v2 _ AA qO hA2;have R2:Hid _:=r2;have R3:Hid _:=r3;clear r2 r3 AA qO Oc hA2 HX;go_wp2_with fail
   go_roundw
   case rel=>exact⟨j+1,_,by omega,by go_num,r1,R2,R3⟩
   case measure=>simp[intOf];omega
  ·have XA:j=L.length:=by omega
   rw[XA,zb2]at hrow;clear XA;obtain⟨ig,Oh,hv,hi1,hi2,VF,-⟩:=dJ hrow (by omega);subst hv;have adR:ig<wr.heap.size:=(aR hrow ig rfl).2;have adS:w.heap.size<=ig:=(aR hrow ig rfl).1;have Zy:τr ig=(0,0,0):=HT.out ig rfl;have ES:Hid (wr.ownsRow w.heap.size 70 2 (.slice (some ⟨ig,0,none⟩) L.length Oh) L.length (aY (dU L (s.ws.length+2) 0))):=by rw[AD];exact hrow
   have c5:=Hy (HR.out.rep.box (.cells #[.string kx,.string EP] 70)) (some ⟨wr.heap.size,0,none⟩) 1 (L:= [(kx,EP)]) (by decide) (by decide) (by decide) (fun x hx=>by simp at hx;subst hx;decide) (EM (kx,EP)) (fun ib io e=>by cases e;rw[rW];decide);have HS5:Hid (Stp 2 τ w (retag τr wr.heap.size) (wr.alloc (.cells #[.string kx,.string EP] 70))):=HR.out.nG.box _;have HG5:Hid (retag τr wr.heap.size ig=(0,0,0)):=by unfold Hid retag;rw[if_neg (by omega)];exact Zy
   have Oi:Hid ((wr.alloc (.cells #[.string kx,.string EP] 70)).ownsRow w.heap.size 70 2 (.slice (some ⟨ig,0,none⟩) L.length Oh) L.length (aY (dU L (s.ws.length+2) 0))):=ES.out.alloc _;have Oj:ig< (wr.alloc (.cells #[.string kx,.string EP] 70)).heap.size:=by simp;omega
   obtain⟨m,hm⟩:∃m:Nat,(s.ws.length:Int)+1=(m:Int):=⟨s.ws.length+1,by omega⟩
   rw[adP (by omega),hm]at c5;unfold ptr at c5;have Zz:kx=⟨#[120]⟩:=rfl;have VG:EP=⟨#[]⟩:=rfl;rw[Zz,VG]at c5 HS5 Oi Oj;clear hrow VF ES;go_wp2_with fail
   refine c5.mono ?_;rintro e wb ⟨τb,B,rfl,ZA,hPb⟩;clear c5;have T5:Hid _:=yz (w':=wb) Oi.out (hPb.block ig Oj (by rw[HG5.out];decide));have HG6:Hid (τb ig=(0,0,0)):=(hPb.tag ig Oj).trans HG5.out;have VH:ig<wb.heap.size:=Nat.lt_of_lt_of_le Oj hPb.size;have HS6:Hid (Stp 2 τ w τb wb):=HS5.out.trans hPb;clear hPb HS5 HG5 Oi Oj Zy adR HR HT;have c6:=RV ZA ((s.ws.length:Int)+1) (by omega) (by omega);rw[Ll,hm]at c6;unfold ptr at c6;clear ZA;go_wp2_with fail
   refine c6.mono ?_;rintro e wc ⟨C,rfl,ZB,Nb⟩;clear c6;have T6:Hid _:=yz (w':=wc) T5.out (Nb.block ig VH (by rw[HG6.out];decide));have HG7:Hid (τb ig=(0,0,0)):=HG6;have adW:ig<wc.heap.size:=Nat.lt_of_lt_of_le VH Nb.size;have HS7:Hid (Ra w τ wc τb sb (xS s) C):=⟨ZB,HS6.out.trans Nb⟩
   clear Nb ZB HS6 T5 HG6 VH;go_wp2_with fail
   go_loopw [10] (fun u wr=>∃(j:Nat),j<=L.length/\u=.int .i64 j/\Hid (wr.ownsRow w.heap.size 70 2 (.slice (some ⟨ig,0,none⟩) L.length Oh) L.length (aY (dU L (s.ws.length+2) j)))/\ig<wr.heap.size/\Hid (Ra w τ wr τb sb (xS s) C)) (fun u _=>L.length-(intOf u).toNat)
   case atStart=>exact⟨0,zb0 _,rfl,T6,adW,HS7⟩
   case round=>
    rename World=>Rc
    obtain⟨j,hj,rfl,ES,adX,HR⟩:=hrel;by_cases hlt:j<L.length
    ·have hx:L[j]?=some L[j]:=zby hlt;have HST:Hid _:=AE L (s.ws.length+2) j _ hx;have ck:=HJ.out τb Rc HR.out.nG j _ hx;have hxz:=dG (HG.out _ (zb1 hlt));have yc:kg<Rc.heap.size:=Nat.lt_of_lt_of_le tu HR.out.nG.size;generalize L[j]=x at *;have q0:(j:Int)< (L.length:Int):=by omega
     have q1:(0:Int)<=(j:Int):=by omega
     have q2:j<L.length:=hlt;have cd:=yx (w:=Rc.drew) (s.ws.length+2) (by omega) (by omega);rw[show ((s.ws.length+2:Nat):Int)=(m:Int)+1 from by omega,<-IntWalk.i64_in ((m:Int)+1) (by omega)]at cd;have hdz:=uW (s.ws.length+2);generalize oM (s.ws.length+2)=dg at *;have fz:=ES.out.frozenAt (j*2+1);clear hx;go_wp2_with fail
     have hxd:x.size+dg.size<=9223372036854775807:=by omega
     have yA:∀W:World,(Op.stringOp BinOp.add x dg).run Tryz.prog W=.ok (.string (x++dg)) W:=by intro W;go_simp
     have hmid:(aY (dU L (s.ws.length+2) j)).length=L.length*2:=by rw[pF,CI]
     obtain⟨old,hold⟩:∃old,(aY (dU L (s.ws.length+2) j))[j*2+1]?=some old:=⟨_,zby (by rw[hmid];omega)⟩
     have ad0:Hid ((aY (dU L (s.ws.length+2) j))[j*2+1]?=some old):=hold;clear hmid hold;go_region_held3 (fun W=>W.cell? ⟨kg,j,none⟩=some (.string x)) (first|(simp[*];done)|(rw[fM (by simp only;omega)];assumption)) ((go_at_call 25;refine cd.mono ?_;rintro e w6 ⟨rfl,BH⟩;have x6:=(BH.cell (p:=⟨kg,j,none⟩) yc).trans ck;have HR6:=yz (w':=w6) ES.out (BH.block ig adX);have fz6:=HR6.frozenAt (j*2+1);have y6:=(HR6.cellAt (j*2+1) (by omega)).trans ad0.out))
     have ZC:Hid ((w6.setCell ⟨ig,j*2+1,none⟩ (.string (x++dg))).ownsRow w.heap.size 70 2 (.slice (some ⟨ig,0,none⟩) L.length Oh) L.length (aY (dU L (s.ws.length+2) (j+1)))):=by have:=(HR6.stored (j*2+1) (.string (x++dg))).1;rw[HST.out]at this;exact this
     have HE':Hid (Ra w τ (w6.setCell ⟨ig,j*2+1,none⟩ (.string (x++dg))) τb sb (xS s) C):=by
      have ZD:Below Rc.heap.size Rc w6:=⟨BH.os,BH.tape,BH.output,BH.size,BH.block⟩
      refine⟨(HR.out.rep.below ZD).frame (fun k hk e=>⟨Below.heap_setCell _ _ _ _ (fun e'=>?_),rfl⟩),(HR.out.nG.trans (iw ZD)).UM (a:=⟨ig,j*2+1,none⟩) adS _⟩;have e'':k=ig:=e';rw[e'',HG7.out]at e;exact absurd e (by decide)
     have ad1:ig< (w6.setCell ⟨ig,j*2+1,none⟩ (.string (x++dg))).heap.size:=by have:=BH.size;have h2:Rc.drew.heap.size=Rc.heap.size:=rfl;simp[World.setCell];omega
     clear yA HR6 fz6 y6 x6 BH ES HR HST cd fz;go_wp2_with fail
     go_roundw
     case rel=>exact⟨j+1,by omega,by go_num,ZC,ad1,HE'⟩
     case measure=>simp[intOf];omega
    ·have XA:j=L.length:=by omega
     subst XA;have J1:(aS L (s.ws.length+2)).length=L.length:=by simp[aS]
     have HIt:Hid (xH Rc (some ⟨ig,0,none⟩) (aS L (s.ws.length+2))):=fun k x hx=>by
      have hr:=ES.out;rw[CJ]at hr;obtain⟨e1,e2⟩:=nT _ k x hx;have hk:=aE hx;rw[J1]at hk;refine⟨ig,0,rfl,?_,?_⟩
      ·rw[show 0+k*2=k*2 from by omega,hr.cellAt (k*2) (by omega),e1]
      ·rw[show 0+k*2+1=k*2+1 from by omega,hr.cellAt (k*2+1) (by omega),e2]
     have ZE:xI (aS L (s.ws.length+2)):=fun x hx=>by have:=gO ((vV HV.out).2.2 x hx);exact⟨by unfold maxLen;omega,by unfold maxLen;omega⟩
     have c4:=Hy HR.out.rep (some ⟨ig,0,none⟩) Oh (L:=aS L (s.ws.length+2)) (by rw[J1];unfold maxLen;omega) (by rw[J1];exact hi1) hi2 ZE HIt.out (fun ib io e=>by cases e;rw[HG7.out];decide);rw[J1,Od (by omega) HV.out,show (s.ws.length:Int)+2=(m:Int)+1 from by omega]at c4;unfold ptr at c4;clear ZE ES;go_wp2_with fail
     refine c4.mono ?_;rintro e wd ⟨τd,D,rfl,ZF,Q9⟩;clear c4;have HD:Hid (Ra w τ wd τd sb (Ei s L (fun _=>false)) D):=⟨ZF,HR.out.nG.trans Q9⟩
     clear ZF Q9 HR HIt T6 HS7;go_wp2_with fail
     go_loopw [13] (fun u wr=>∃(j:Nat) (A':SA),j<=L.length/\u=.int .i64 j/\Hid (Ra w τ wr τd sb (Ei s L (dS s.parts (L.take j))) A')) (fun u _=>L.length-(intOf u).toNat)
     case atStart=>exact⟨0,D,zb0 _,rfl,by rw[List.take_zero,uU];exact HD⟩
     case round=>
      rename World=>XB
      obtain⟨j,A3,hj,rfl,HR⟩:=hrel;by_cases hlt:j<L.length
      ·have hx:L[j]?=some L[j]:=zby hlt;have Rb:Hid (L.take (j+1)=L.take j++ [L[j]]):=zb3 hlt;have HM:Hid (L[j]∈L):=zb1 hlt;have ck:=HJ.out τd XB HR.out.nG j _ hx;have yB:=HG.out _ (zb1 hlt);have hxz:=dG yB;generalize L[j]=x at *;have cp:=T7 HR.out.rep x (by unfold maxLen;omega);rw[yB]at cp;obtain⟨hp1,HY⟩:=HP.out;obtain⟨q1,q2⟩:=eM (s.parts:Int) x (by omega);obtain⟨p,hp⟩:∃p:Nat,partOf (s.parts:Int) x=p:=⟨(partOf (s.parts:Int) x).toNat,by omega⟩
       have hpP:p<4:=by omega
       simp only[if_true]at cp;rw[show (Ei s L (dS s.parts (L.take j))).parts=s.parts from rfl,hp]at cp;have HON:Hid (dS s.parts (L.take (j+1))=put (dS s.parts (L.take j)) p):=by unfold Hid;rw[Rb.out];exact rX hp
       have HPr:Hid _:=RU (s:=s) (L:=L) (pf:=dS s.parts (L.take j)) hlen HM.out hp;unfold ptr at cp;clear hp q1 q2 hx hp1 HY;go_wp2_with fail
       refine cp.mono ?_;rintro e we ⟨rfl,hBe⟩;clear cp;have hRe:=HR.out.rep.below hBe;have HSe:Hid (Stp 2 τ w τd we):=HR.out.nG.trans (iw hBe);have cq:=EN hRe ((s.ws.length:Int)+2) p (by omega) (by omega) (by omega) (by omega);rw[HPr.out,<-HON.out,show (s.ws.length:Int)+2=(m:Int)+1 from by omega]at cq;unfold ptr at cq;clear HR hBe hRe HPr ck;cases hc:dS s.parts (L.take j) p with
       |true=>
        rw[hc]at cq;simp only[if_true]at cq;clear hc;go_wp2_with fail
        refine cq.mono ?_;rintro e wf ⟨F,rfl,ZG,RP⟩;clear cq;have HF:Hid (Ra w τ wf τd sb (Ei s L (dS s.parts (L.take (j+1)))) F):=⟨ZG,HSe.out.trans RP⟩
        clear ZG RP;go_wp2_with fail
        go_roundw
        case rel=>exact⟨j+1,F,by omega,by go_num,HF⟩
        case measure=>simp[intOf];omega
       |false=>
        rw[hc]at cq;simp only[Bool.false_eq_true,if_false]at cq;clear hc;go_wp2_with fail
        refine cq.mono ?_;rintro e wf ⟨F,rfl,ZG,RP⟩;clear cq;have HF:Hid (Ra w τ wf τd sb (Ei s L (dS s.parts (L.take (j+1)))) F):=⟨ZG,HSe.out.trans RP⟩
        clear ZG RP;go_wp2_with fail
        go_roundw
        case rel=>exact⟨j+1,F,by omega,by go_num,HF⟩
        case measure=>simp[intOf];omega
      ·have XA:j=L.length:=by omega
       rw[XA,zb2]at HR;go_wp2_with fail
       go_ret;exact⟨τd,A3,iu (by omega),HR.out.rep,HR.out.nG⟩
end
end
section
def iy(n:Int)(kv:Value)(f:Nat->Bool):Array Value:=#[.int .i64 n,kv,.bool (f 0),.bool (f 1),.bool (f 2),.bool (f 3)]
theorem yC{n:Int}(hp:p<4):(iy n kv f)[2+p]?=some (.bool (f p)):=by
 match p,hp with
 | 0,_=>rfl
 | 1,_=>rfl
 | 2,_=>rfl
 | 3,_=>rfl
theorem ET{n:Int}(hp:p<4):(iy n kv f).setIfInBounds (2+p) (.bool true)=iy n kv (put f p):=by
 match p,hp with
 | 0,_=>simp[iy,put]
 | 1,_=>simp[iy,put]
 | 2,_=>simp[iy,put]
 | 3,_=>simp[iy,put]
def Re(s:MS)(n:Int)(m:MW)(p:Nat):MS:=wY s n {m with comm:=put m.comm p}
theorem Lp{n:Int}(h:bF s n=some m):s.ws[(n-1).toNat]?=some m/\m.ed=false/\1<=n/\n<=s.ws.length:=by
 unfold bF at h;split at h
 ·cases h
 ·rename_i hb;split at h
  ·rename_i m' hm;split at h
   ·cases h
   ·rename_i hc;cases h;exact⟨hm,by simpa using hc,by omega,by omega⟩
  ·cases h
theorem Lq{n:Int}(hf:bF s n=some m)(ho:az s.parts m.items p=true)(ha:je s.parts m=true):eH s n p=(if m.comm p then 10 else 0,Re s n m p):=by
 unfold eH;rw[hf];simp only[ho,ha,Bool.true_eq_false,if_false,Int.toNat_natCast];cases hc:m.comm p with
 |true=>
  have e1:put m.comm p=m.comm:=by funext q;unfold put;split<;>simp_all
  have:Re s n m p=s:=by
   unfold Re wY;rw[e1];have:=(Lp hf).1;obtain⟨hk,hm⟩:=List.getElem?_eq_some_iff.1 this;have e2:s.ws.set (n-1).toNat m=s.ws:=by rw[<-hm];simp
   show {s with ws:=s.ws.set (n-1).toNat m}=s;rw[e2]
  simp[this]
 |false=>simp[Re]
section
variable {w:World}{τ:Nat->Tag}{sb:Nat}{s:MS}{A:SA}
theorem EU(hR:aW w τ 2 sb s A)(xb kb:Nat)(X:Array Value)(hX:aT w xb X 32)(hX0:X[0]?=some (ptr sb))(hxt:(τ xb).1≠2)(n:Nat)(hn:n<=1000)(kv:Value)(f:Nat->Bool)(hK:aT w kb (iy n kv f) 48)(Ej:(τ kb).1≠2)
 (key:ByteArray) (hg:bK key=true) (p:Nat) (hp:partOf s.parts key=p) {m:MW} (hf:bF s n=some m) (ho:az s.parts m.items p=true) (ha:je s.parts m=true) (Rz:m.comm p=f p):
 Calls Tryz.prog 20 #[ptr xb,ptr kb,.string key] w fun e w'=>∃A' w1,e=.returned (.bool true)/\aW w1 τ 2 sb (Re s n m p) A'/\Stp 2 τ w τ w1/\w'=w1.setCell ⟨kb,2+p,none⟩ (.bool true):=by
 have hp1:=hR.ok.p1;have HY:=hR.ok.p4;obtain⟨q1,q2⟩:=eM (s.parts:Int) key (by omega);have hpP:p<4:=by omega
 have hkz:=dG hg;have cp:=T7 hR key (by unfold maxLen;omega);rw[hg,hp]at cp;simp only[if_true]at cp;have hCM:=Lq hf ho ha;rw[Rz]at hCM;have HCM:Hid (eH s n p=(if f p then 10 else 0,Re s n m p)):=hCM;have HR:Hid (aW w τ 2 sb s A):=hR;have HX:Hid (aT w xb X 32):=hX;have HK:Hid (aT w kb (iy n kv f) 48):=hK;have x0:w.cell? ⟨xb,0,none⟩=some (.pointer (some ⟨sb,0,none⟩)):=hX.cell hX0;have HX0:Hid (X[0]?=some (.pointer (some ⟨sb,0,none⟩))):=hX0;unfold ptr at cp⊢;clear hR hf ho ha Rz hCM hp q1 q2 hg hX hK hX0;go_enter Tryz.func20,Tryz.ntmps20;go_wp2_with fail
 refine cp.mono ?_;rintro e w1 ⟨rfl,iM⟩;clear cp x0;have hR1:=HR.out.below iM;have oN:Stp 2 τ w τ w1:=iw iM;have hx1:aT w1 xb X 32:=HX.out.of_eq (iM.block xb HX.out.lt);have hk1:aT w1 kb (iy n kv f) 48:=HK.out.of_eq (iM.block kb HK.out.lt);have x1:w1.cell? ⟨xb,0,none⟩=some (.pointer (some ⟨sb,0,none⟩)):=hx1.cell HX0.out;have k1:w1.cell? ⟨kb,0,none⟩=some (.int .i64 (n:Int)):=hk1.cell (o:=0) rfl;have ZH:aW w1.drew τ 2 sb s A:=hR1.below ((Below.refl w1.heap.size w1).drew);have c2:=JZ ZH (n:Int) (p:Int) (by omega) (by omega) (by omega) (by omega);rw[HCM.out]at c2;unfold ptr at c2;have HS1:Hid (Stp 2 τ w τ w1):=oN;have HX1:Hid (aT w1 xb X 32):=hx1;have XC:Hid (aT w1 kb (iy n kv f) 48):=hk1;have hxl:=hx1.lt;have tu:=hk1.lt;clear hR1 ZH oN hx1 hk1 iM;cases Na:f p with
 |true=>
  rw[Na]at c2;simp only[if_true]at c2;have HFP:Hid (f p=true):=Na;clear Na;go_wp2_with fail
  go_region_held3 (fun W=>W.cell? ⟨xb,0,none⟩=some (.pointer (some ⟨sb,0,none⟩))/\W.cell? ⟨kb,0,none⟩=some (.int .i64 (n:Int))) (simp[*]) ((go_at_call 28;refine c2.mono ?_;rintro e w3 ⟨A3,rfl,RY,CK⟩;have RK:=HX1.out.of_eq (CK.block xb hxl hxt);have RZ:=XC.out.of_eq (CK.block kb tu Ej);have y1:=RK.cell HX0.out;have y2:=RZ.cell (o:=0) (v:=.int .i64 (n:Int)) rfl))
  have on3:=RZ.cell (yC hpP);have fz3:=RZ.frozen (2+p);rw[HFP.out]at on3;have HR3:Hid (aW w3 τ 2 sb (Re s n m p) A3):=RY;have HS3:Hid (Stp 2 τ w τ w3):=HS1.out.trans ⟨CK.os,CK.tape,CK.output,CK.size,CK.tag,CK.block⟩;have g2:(p:Int)<4:=by omega
  clear RY CK RK RZ y1 y2 c2;go_wp2_with fail
  go_ret;exact⟨A3,w3,rfl,HR3.out,HS3.out,rfl⟩
 |false=>
  rw[Na]at c2;simp only[Bool.false_eq_true,if_false]at c2;have HFP:Hid (f p=false):=Na;clear Na;go_wp2_with fail
  go_region_held3 (fun W=>W.cell? ⟨xb,0,none⟩=some (.pointer (some ⟨sb,0,none⟩))/\W.cell? ⟨kb,0,none⟩=some (.int .i64 (n:Int))) (simp[*]) ((go_at_call 28;refine c2.mono ?_;rintro e w3 ⟨A3,rfl,RY,CK⟩;have RK:=HX1.out.of_eq (CK.block xb hxl hxt);have RZ:=XC.out.of_eq (CK.block kb tu Ej);have y1:=RK.cell HX0.out;have y2:=RZ.cell (o:=0) (v:=.int .i64 (n:Int)) rfl))
  have on3:=RZ.cell (yC hpP);have fz3:=RZ.frozen (2+p);rw[HFP.out]at on3;have HR3:Hid (aW w3 τ 2 sb (Re s n m p) A3):=RY;have HS3:Hid (Stp 2 τ w τ w3):=HS1.out.trans ⟨CK.os,CK.tape,CK.output,CK.size,CK.tag,CK.block⟩;have g2:(p:Int)<4:=by omega
  clear RY CK RK RZ y1 y2 c2;go_wp2_with fail
  go_ret;exact⟨A3,w3,rfl,HR3.out,HS3.out,rfl⟩
end
end
section
structure KnD where
 kb:Nat
 n:Nat
 kg:Nat
 cap:Nat
 ks:List ByteArray
structure KnAt(w:World)(d:KnD):Prop where
 num:w.cell? ⟨d.kb,0,none⟩=some (.int .i64 d.n)
 keys:w.cell? ⟨d.kb,1,none⟩=some (.slice (some ⟨d.kg,0,none⟩) d.ks.length d.cap)
 key:∀(j:Nat) (x:ByteArray),d.ks[j]?=some x->w.cell? ⟨d.kg,j,none⟩=some (.string x)
 few:d.ks.length<=8
 lo:1<=d.n
 hi:d.n<=1000
structure KnsAt(w:World)(a:Option Addr)(D:List KnD):Prop where
 at_:∀(i:Nat) (d:KnD),D[i]?=some d->∃b,a=some ⟨b,0,none⟩/\w.cell? ⟨b,i,none⟩=some (ptr d.kb)
 kn:∀(i:Nat) (d:KnD),D[i]?=some d->KnAt w d
 few:D.length<=1000
def ofD(D:List KnD)(n:Nat):Option KnD:=D.find? fun d=>decide (d.n=n)
def ofV:Option KnD->Value
 |some d=>ptr d.kb
 |none=>.pointer none
section
variable {w w':World}{d:KnD}{D:List KnD}{a:Option Addr}
theorem KnAt.below(h:KnAt w d)(hB:Below w.heap.size w w'):KnAt w' d:=
 ⟨(hB.cell (p:=⟨d.kb,0,none⟩) (zbz w _ h.num)).trans h.num,(hB.cell (p:=⟨d.kb,1,none⟩) (zbz w _ h.keys)).trans h.keys,fun j x hx=>(hB.cell (p:=⟨d.kg,j,none⟩) (zbz w _ (h.key j x hx))).trans (h.key j x hx),h.few,h.lo,h.hi⟩
theorem KnsAt.below(h:KnsAt w a D)(hB:Below w.heap.size w w'):KnsAt w' a D:=
 ⟨fun i d hd=>by obtain⟨b,e,hc⟩:=h.at_ i d hd;exact⟨b,e,(hB.cell (p:=⟨b,i,none⟩) (zbz w _ hc)).trans hc⟩,fun i d hd=>(h.kn i d hd).below hB,h.few⟩
theorem ofD_mem{n:Nat}(h:ofD D n=some d):d∈D/\d.n=n:=⟨List.mem_of_find?_eq_some h,by simpa using List.find?_some h⟩
theorem keyIn_take{key:ByteArray}(hx:L[j]?=some x):dX (L.take (j+1)) key=(dX (L.take j) key || decide (x=key)):=by obtain⟨hj,rfl⟩:=List.getElem?_eq_some_iff.1 hx;unfold dX;rw[zb3 hj,List.any_append];simp only[List.any_cons,List.any_nil,Bool.or_false]
theorem has_any(h:KnAt w d)(key:ByteArray):Calls Tryz.prog 46 #[ptr d.kb,.string key] w fun e w'=>e=.returned (.bool (dX d.ks key))/\Below w.heap.size w w':=by
 obtain⟨kb,n,kg,cap,ks⟩:=d;obtain⟨c0,c1,c2,few,-,-⟩:=h;simp only at c0 c1 c2 few⊢;have tu:=zbz w _ c1;unfold ptr;have HC2:Hid (∀(j:Nat) (x:ByteArray),ks[j]?=some x->w.cell? ⟨kg,j,none⟩=some (.string x)):=c2;clear c0 c2;go_enter Tryz.func46,Tryz.ntmps46;go_wp2_with fail
 go_loopw [5] (fun u wr=>∃j:Nat,j<=ks.length/\u=.int .i64 j/\Below w.heap.size w wr/\Hid (dX (ks.take j) key=false)) (fun u _=>ks.length-(intOf u).toNat)
 case atStart=>exact⟨0,zb0 _,rfl,Below.refl _ _,by simp[Hid,dX]⟩
 case round=>
  obtain⟨j,hj,rfl,hB,HN⟩:=hrel;have V3:=(hB.cell (p:=⟨kb,1,none⟩) tu).trans c1;by_cases hlt:j<ks.length
  ·have hx:ks[j]?=some ks[j]:=zby hlt;have c2:=HC2.out j _ hx;have c2':=(hB.cell (p:=⟨kg,j,none⟩) (zbz w _ c2)).trans c2;have hst:=keyIn_take (key:=key) hx;rw[HN.out,Bool.false_or]at hst;have HM:Hid (ks[j]=key->dX ks key=true):=fun e=>jE.2 (e▸zb1 _);generalize ks[j]=x at *;have q0:(j:Int)< (ks.length:Int):=by omega
   by_cases he:x=key
   ·have hb:=sY he;have HT:Hid (dX ks key=true):=HM.out he;clear he hst hx c2 HM HN;go_wp2_with fail
    go_ret;exact⟨dH (by rw[HT.out]),hB⟩
   ·have hb:=sX he;have HN':Hid (dX (ks.take (j+1)) key=false):=by unfold Hid;rw[hst];simp[he]
    clear he hst hx c2 HM HN;go_wp2_with fail
    go_roundw
    case rel=>exact⟨j+1,by omega,by go_num,hB,HN'⟩
    case measure=>simp[intOf];omega
  ·have hjn:j=ks.length:=by omega
   subst hjn;have HT:Hid (dX ks key=false):=by have:=HN.out;rwa [zb2]at this
   clear HN;go_wp2_with fail
   go_ret;exact⟨dH (by rw[HT.out]),hB⟩
theorem of_any{xb cap:Nat}(hx:w.cell? ⟨xb,1,none⟩=some (.slice a D.length cap))(h:KnsAt w a D)(n:Nat)(hn:n<=1000):Calls Tryz.prog 45 #[ptr xb,.int .i64 n] w fun e w'=>e=.returned (ofV (ofD D n))/\Below w.heap.size w w':=by
 have hxl:=zbz w _ hx;have few:=h.few;unfold ptr;have H:Hid (KnsAt w a D):=h;clear h;go_enter Tryz.func45,Tryz.ntmps45;go_wp2_with fail
 go_loopw [5] (fun u wr=>∃j:Nat,j<=D.length/\u=.int .i64 j/\Below w.heap.size w wr/\Hid (∀d∈D.take j,d.n≠n)) (fun u _=>D.length-(intOf u).toNat)
 case atStart=>exact⟨0,zb0 _,rfl,Below.refl _ _,fun d hd=>by simp at hd⟩
 case round=>
  obtain⟨j,hj,rfl,hB,HN⟩:=hrel;have V3:=(hB.cell (p:=⟨xb,1,none⟩) hxl).trans hx;by_cases hlt:j<D.length
  ·have hd:D[j]?=some D[j]:=zby hlt;obtain⟨b,rfl,c2⟩:=H.out.at_ j _ hd;have c3:=(H.out.kn j _ hd).num;have hi:=(H.out.kn j _ hd).hi;unfold ptr at c2;have c2':=(hB.cell (p:=⟨b,j,none⟩) (zbz w _ c2)).trans c2;have c3':=(hB.cell (p:=⟨D[j].kb,0,none⟩) (zbz w _ c3)).trans c3;have HT:Hid (D[j].n=n->ofV (ofD D n)=.pointer (some ⟨D[j].kb,0,none⟩)):=fun e=>by
    have:ofD D n=some D[j]:=by have h1:=HN.out;unfold ofD;rw[List.find?_eq_some_iff_getElem];refine⟨by simpa using e,j,hlt,rfl,fun i hi=>?_⟩;have:=h1 D[i] (List.mem_take_iff_getElem.2 ⟨i,by omega,rfl⟩);simpa using this
    rw[this];rfl
   have HS:Hid (D[j].n≠n->∀d∈D.take (j+1),d.n≠n):=fun e d hd=>by
    rw[zb3 hlt]at hd;rcases List.mem_append.1 hd with h|h
    ·exact HN.out d h
    ·simp at h;subst h;exact e
   generalize D[j]=d at *;obtain⟨kb,m,kg,bC,ks⟩:=d;simp only at c2 c3 c2' c3' hi HT HS;have q0:(j:Int)< (D.length:Int):=by omega
   clear c2 c3 hd HN;by_cases he:m=n
   ·subst he;have HV:Hid _:=HT.out rfl;clear HT HS;go_wp2_with fail
    go_ret;exact⟨by rw[HV.out];rfl,hB⟩
   ·have he':((m:Int)==(n:Int))=false:=by simp;omega
    have HN':Hid _:=HS.out he;clear HT HS he;go_wp2_with fail
    go_roundw
    case rel=>exact⟨j+1,by omega,by go_num,hB,HN'⟩
    case measure=>simp[intOf];omega
  ·have hjn:j=D.length:=by omega
   subst hjn;have HT:Hid (ofV (ofD D n)=.pointer none):=by
    have:ofD D n=none:=by unfold ofD;rw[List.find?_eq_none];intro d hd;have:=HN.out d (by rwa [zb2]);simpa using this
    unfold Hid;rw[this];rfl
   clear HN;go_wp2_with fail
   go_ret;exact⟨by rw[HT.out];rfl,hB⟩
end
section
variable {P:Program}{md:Region.Mode}{ops:Array Oper}{Q:Exit->Act->World->Prop}{S:World->Prop}{i fuel:Nat}{oi:Oper}{v:Value}{listed:Array Bool}{a:Act}{w:World}
theorem tD(hi:ops[i]?=some oi)(hk:(Region.noSelect ops && Region.free md ops listed i &&(Region.ready md ops listed).contains i)=true)(hQ:∀c a w,Q (.panic c) (a.put oi.dst v) w->Q (.panic c) a w)(hw:Region.wanted oi (yielded ops a.tmps)=true)
 (hy:∀W,S W->(execOp a.eval oi).run P W=.ok (.value v) W) (hS:S w) (h:wpAnyH P md ops Q S fuel (listed.setIfInBounds i true) (a.put oi.dst v) w):wpAnyH P md ops Q S (fuel+1) listed a w:=by simp only[Bool.and_eq_true]at hk;exact wpAnyH_take hi hk.1.1 hk.1.2 hk.2 hQ (.inl ⟨hw,hy⟩) hS h
theorem Ib(hi:ops[i]?=some oi)(hk:(Region.noSelect ops && Region.free md ops listed i &&(Region.ready md ops listed).contains i)=true)(hQ:∀c a w,Q (.panic c) (a.put oi.dst undef) w->Q (.panic c) a w)(hw:Region.wanted oi (yielded ops a.tmps)=false)
 (hS:S w) (h:wpAnyH P md ops Q S fuel (listed.setIfInBounds i true) (a.put oi.dst undef) w):wpAnyH P md ops Q S (fuel+1) listed a w:=by simp only[Bool.and_eq_true]at hk;exact wpAnyH_take hi hk.1.1 hk.1.2 hk.2 hQ (.inr ⟨hw,rfl⟩) hS h
end
end
section
structure RtD where
 ks:List ByteArray
 kg:Nat
 bC:Nat
 sure:List Nat
 sa:Option Addr
 scap:Nat
 ab:Nat
 lS:Nat
 wn:Nat->Nat
 vl:Nat->ByteArray
structure RtAt(w:World)(xb rb wcap:Nat)(a:Option Addr)(D:List KnD)(R:RtD):Prop where
 xw:w.cell? ⟨xb,1,none⟩=some (.slice a D.length wcap)
 kns:KnsAt w a D
 rk:w.cell? ⟨rb,1,none⟩=some (.slice (some ⟨R.kg,0,none⟩) R.ks.length R.bC)
 rs:w.cell? ⟨rb,3,none⟩=some (.slice R.sa R.sure.length R.scap)
 key:∀(j:Nat) (x:ByteArray),R.ks[j]?=some x->w.cell? ⟨R.kg,j,none⟩=some (.string x)/\x.size<=1000
 sure:∀(j m:Nat),R.sure[j]?=some m->m<=1000/\∃b,R.sa=some ⟨b,0,none⟩/\w.cell? ⟨b,j,none⟩=some (.int .i64 m)
 NS:∀(j:Nat) (x:ByteArray),R.ks[j]?=some x->R.wn j<=1000/\w.cell? ⟨R.ab,j*3,none⟩=some (.string x)/\w.cell? ⟨R.ab,j*3+1,none⟩=some (.int .i64 (R.wn j))/\w.cell? ⟨R.ab,j*3+2,none⟩=some (.string (R.vl j))
 few:R.ks.length<=8
 fews:R.sure.length<=1000
structure RtOk(D:List KnD)(ks:List ByteArray)(sure:List Nat)(wn:Nat->Nat)(vl:Nat->ByteArray):Prop where
 zero:∀(j:Nat) (x:ByteArray),ks[j]?=some x->wn j=0->vl j=⟨#[]⟩
 wrt:∀(i:Nat) (x:ByteArray),ks[i]?=some x->wn i≠0->∃d,ofD D (wn i)=some d/\dX d.ks x=true/\vl i=x++oM d.n/\∀(j:Nat) (y:ByteArray),ks[j]?=some y->dX d.ks y=true->d.n<=wn j
 sure:∀(j m:Nat),sure[j]?=some m->∃d,ofD D m=some d/\∀(i:Nat) (x:ByteArray),ks[i]?=some x->dX d.ks x=true->d.n<=wn i
section
variable {w w':World}{D:List KnD}{a:Option Addr}{R:RtD}{xb rb wcap:Nat}
theorem below_cell(hB:Below w.heap.size w w'){p:Addr}(h:w.cell? p=some v):w'.cell? p=some v:=(hB.cell (p:=p) (zbz w _ h)).trans h
theorem RtAt.below(h:RtAt w xb rb wcap a D R)(hB:Below w.heap.size w w'):RtAt w' xb rb wcap a D R:=
 ⟨below_cell hB h.xw,h.kns.below hB,below_cell hB h.rk,below_cell hB h.rs,fun j x hx=>⟨below_cell hB (h.key j x hx).1,(h.key j x hx).2⟩,fun j m hm=>by
   obtain⟨h1,b,e,hc⟩:=h.sure j m hm;exact⟨h1,b,e,below_cell hB hc⟩,fun j x hx=>by obtain⟨h1,h2,h3,h4⟩:=h.NS j x hx;exact⟨h1,below_cell hB h2,below_cell hB h3,below_cell hB h4⟩,h.few,h.fews⟩
theorem KnsAt.of(h:KnsAt w a D){n:Nat}{d:KnD}(hd:ofD D n=some d):KnAt w d:=by obtain⟨i,hi⟩:=List.getElem?_of_mem (ofD_mem hd).1;exact h.kn i d hi
theorem right_any(h:RtAt w xb rb wcap a D R)(ho:RtOk D R.ks R.sure R.wn R.vl):Calls Tryz.prog 24 #[ptr xb,ptr rb,.slice (some ⟨R.ab,0,none⟩) R.ks.length R.lS] w fun e w'=>e=.returned (.bool true)/\Below w.heap.size w w':=by
 obtain⟨ks,kg,bC,sure,sa,scap,ab,lS,wn,vl⟩:=R;have H:Hid (RtAt w xb rb wcap a D ⟨ks,kg,bC,sure,sa,scap,ab,lS,wn,vl⟩):=h;have HO:Hid (RtOk D ks sure wn vl):=ho;have few:ks.length<=8:=h.few;have fews:sure.length<=1000:=h.fews;have rk:w.cell? ⟨rb,1,none⟩=some (.slice (some ⟨kg,0,none⟩) ks.length bC):=h.rk;clear h ho;simp only;unfold ptr;go_enter Tryz.func24,Tryz.ntmps24;go_wp2_with fail
 clear rk;go_loopw [7] (fun u wr=>∃j:Nat,j<=ks.length/\u=.int .i64 j/\Below w.heap.size w wr) (fun u _=>ks.length-(intOf u).toNat)
 case atStart=>exact⟨0,zb0 _,rfl,Below.refl _ _⟩
 case round=>
  obtain⟨i,hi,rfl,hB⟩:=hrel;by_cases hlt:i<ks.length
  ·have HX:Hid (ks[i]?=some ks[i]):=zby hlt;have H1:=H.out.below hB;have rk:wr.cell? ⟨rb,1,none⟩=some (.slice (some ⟨kg,0,none⟩) ks.length bC):=H1.rk;obtain⟨kc,hz⟩:=H1.key i _ HX.out;obtain⟨hw,a0,a1,a2⟩:=H1.NS i _ HX.out;simp only at kc hz hw a0 a1 a2;generalize ks[i]=x at *;have ajy:(x.toList == x.toList)=true:=by simp
   have q0:(i:Int)< (ks.length:Int):=by omega
   have co:=of_any (w:=wr.drew) (H.out.below hB.drew).xw (H.out.below hB.drew).kns (wn i) hw;unfold ptr at co;clear H1;obtain⟨wi,hwi⟩:∃wi,wn i=wi:=⟨_,rfl⟩
   rw[hwi]at co a1 hw;have HWI:Hid (wn i=wi):=hwi;clear hwi;go_wp2_with fail
   go_region_held3 (fun W=>W.cell? ⟨ab,i*3,none⟩=some (.string x)/\W.cell? ⟨rb,1,none⟩=some (.slice (some ⟨kg,0,none⟩) ks.length bC)/\W.cell? ⟨kg,i,none⟩=some (.string x)) (simp[*]) (fail)
   go_wp2_with fail
   refine co.mono ?_;rintro e w1 ⟨rfl,iM⟩;clear co;have Eg:Below w.heap.size w w1:=hB.drew.trans (iM.mono hB.size);replace a0:=below_cell iM a0;replace a1:=below_cell iM a1;replace a2:=below_cell iM a2;clear iM hB rk kc;by_cases h0:wi=0;case' pos=>
    subst h0
    have hv:vl i=⟨#[]⟩:=HO.out.zero i x HX.out HWI.out
    rw[hv]at a2
    clear hv
    replace a1:w1.cell? ⟨ab,i*3+1,none⟩=some (.int .i64 0):=a1
    go_wp2_with fail
    have hBz:=Eg
    clear a0 a1 a2 Eg
   case' neg=>
    obtain⟨d,hd,hk,hv,hle⟩:=HO.out.wrt i x HX.out (by rw[HWI.out];exact h0)
    have HLE:Hid (∀(j:Nat) (y:ByteArray),ks[j]?=some y->dX d.ks y=true->d.n<=wn j):=hle
    rw[HWI.out]at hd
    have K0:=H.out.kns.of hd
    have HK0:Hid (KnAt w d):=K0
    have hdl:=K0.lo
    have hdh:=K0.hi
    simp only[hd,ofV,ptr]
    rw[hv]at a2
    have ch:=has_any (K0.below Eg) x
    rw[hk]at ch
    unfold ptr at ch
    clear hv hk hle hd K0
    have h0':((wi:Int)== 0)=false:=by simp;omega
    go_wp2_with fail
    refine ch.mono ?_
    rintro e w2 ⟨rfl,dP⟩
    clear ch
    have hBb:Below w.heap.size w w2:=Eg.trans (dP.mono Eg.size)
    replace a0:=below_cell dP a0
    replace a2:=below_cell dP a2
    clear a1 dP Eg
    have n0:=(HK0.out.below hBb).num
    have cd:=yx (w:=w2.drew) d.n hdl hdh
    have hdz:=uW d.n
    have hab:=zbz w2 _ a0
    have hkb:=zbz w2 _ n0
    generalize oM d.n=dg at *
    have hxd:x.size+dg.size<=9223372036854775807:=by omega
    have yA:∀W:World,(Op.stringOp BinOp.add x dg).run Tryz.prog W=.ok (.string (x++dg)) W:=by intro W;go_simp
    have ZW:((x++dg).toList ==(x++dg).toList)=true:=by simp
    go_wp2_with fail
    go_region_held3 (fun W=>W.cell? ⟨ab,i*3,none⟩=some (.string x)/\W.cell? ⟨ab,i*3+2,none⟩=some (.string (x++dg))/\W.cell? ⟨d.kb,0,none⟩=some (.int .i64 (d.n:Int))) (simp[*]) ((go_at_call 25;refine cd.mono ?_;rintro e w3 ⟨rfl,lU⟩;have m1:=(lU.cell (p:=⟨ab,i*3,none⟩) hab).trans a0;have m2:=(lU.cell (p:=⟨ab,i*3+2,none⟩) hab).trans a2;have m3:=(lU.cell (p:=⟨d.kb,0,none⟩) hkb).trans n0))
    clear cd a0 a2 n0 m1 m2 m3 yA ZW
    have Rj:Below w.heap.size w w3:=hBb.drew.trans (lU.mono hBb.size)
    clear lU hBb
    go_wp2_with fail
    go_loopw [10] (fun u wr=>∃j:Nat,j<=ks.length/\u=.int .i64 j/\Below w.heap.size w wr) (fun u _=>ks.length-(intOf u).toNat)
    case atStart=>exact⟨0,zb0 _,rfl,Rj⟩
    case' round=>
     rename World=>Rc
     obtain⟨j,hj,rfl,hBd⟩:=hrel
     clear Rj
     by_cases hjl:j<ks.length
     case pos=>
      have hy:ks[j]?=some ks[j]:=zby hjl
      obtain⟨hw2,b0,b1,-⟩:=(H.out.below hBd).NS j _ hy
      simp only at hw2 b0 b1
      have HL:Hid (dX d.ks ks[j]=true->d.n<=wn j):=HLE.out j _ hy
      generalize ks[j]=y at *
      have ch:=has_any (HK0.out.below hBd) y
      unfold ptr at ch
      have q1:(j:Int)< (ks.length:Int):=by omega
      clear hy
      go_wp2_with fail
      refine ch.mono ?_
      rintro e w4 ⟨rfl,rj⟩
      clear ch
      have hBe:Below w.heap.size w w4:=hBd.trans (rj.mono hBd.size)
      replace b1:=below_cell rj b1
      have n1:=(HK0.out.below hBe).num
      clear b0 rj hBd
      cases hb:dX d.ks y with
      |true=>
       have hge:¬((wn j:Int)< (d.n:Int)):=by have:=HL.out hb;omega
       clear HL hb
       go_wp2_with fail
       go_region_held3 (fun W=>W.cell? ⟨ab,j*3+1,none⟩=some (.int .i64 (wn j:Int))/\W.cell? ⟨d.kb,0,none⟩=some (.int .i64 (d.n:Int))) (simp[*]) (fail)
       go_wp2_with fail
       go_roundw
       case rel=>exact⟨j+1,by omega,by go_num,hBe.drew⟩
       case measure=>simp[intOf];omega
      |false=>
       clear HL hb
       go_wp2_with fail
       refine wp_region_held_drew (S:=fun _=>True) (by kernel_rfl) trivial (fun hHeld=>?_)
       co_applyP tD (i:=0) rfl (by kernel_rfl) (by exact fun _ _ _ h=>h) (by rfl) (fun W _=>?b0) (by assumption);(case b0=>go_simp;all_goals with_reducible rfl);try walk_nrm
       co_applyP tD (i:=1) rfl (by kernel_rfl) (by exact fun _ _ _ h=>h) (by rfl) (fun W _=>?b1) (by assumption);(case b1=>go_simp;all_goals with_reducible rfl);try walk_nrm
       co_applyP Ib (i:=2) rfl (by kernel_rfl) (by exact fun _ _ _ h=>h) (by rfl) (by assumption);try walk_nrm
       co_applyP Ib (i:=3) rfl (by kernel_rfl) (by exact fun _ _ _ h=>h) (by rfl) (by assumption);try walk_nrm
       co_applyP Ib (i:=4) rfl (by kernel_rfl) (by exact fun _ _ _ h=>h) (by rfl) (by assumption);try walk_nrm
       co_applyP Ib (i:=5) rfl (by kernel_rfl) (by exact fun _ _ _ h=>h) (by rfl) (by assumption);try walk_nrm
       co_applyP Ib (i:=6) rfl (by kernel_rfl) (by exact fun _ _ _ h=>h) (by rfl) (by assumption);try walk_nrm
       co_applyP Ib (i:=7) rfl (by kernel_rfl) (by exact fun _ _ _ h=>h) (by rfl) (by assumption);try walk_nrm
       co_applyP Ib (i:=8) rfl (by kernel_rfl) (by exact fun _ _ _ h=>h) (by rfl) (by assumption);try walk_nrm
       co_applyP Ib (i:=9) rfl (by kernel_rfl) (by exact fun _ _ _ h=>h) (by rfl) (by assumption);try walk_nrm
       co_applyP Ib (i:=10) rfl (by kernel_rfl) (by exact fun _ _ _ h=>h) (by rfl) (by assumption);try walk_nrm
       co_applyP Ib (i:=11) rfl (by kernel_rfl) (by exact fun _ _ _ h=>h) (by rfl) (by assumption);try walk_nrm
       co_applyP tD (i:=12) rfl (by kernel_rfl) (by exact fun _ _ _ h=>h) (by rfl) (fun W _=>?Vh) (by assumption);(case Vh=>go_simp;all_goals with_reducible rfl);try walk_nrm
       refine wpAnyH_done (by kernel_rfl) ?_ _
       go_wp2_with fail
       go_roundw
       case rel=>exact⟨j+1,by omega,by go_num,hBe.drew⟩
       case measure=>simp[intOf];omega
     go_wp2_with fail
     have hBz:=hBd
     clear hBd HLE HK0
   all_goals
    go_loopw [12] (fun u wr=>∃j:Nat,j<=sure.length/\u=.int .i64 j/\Below w.heap.size w wr) (fun u _=>sure.length-(intOf u).toNat)
    case atStart=>exact⟨0,zb0 _,rfl,hBz⟩
    case round=>
     rename World=>XB
     obtain⟨j,hj,rfl,hBs⟩:=hrel
     clear hBz
     have H2:=H.out.below hBs
     have rs:=H2.rs
     simp only at rs
     by_cases hjl:j<sure.length
     ·obtain⟨hm,b,hsa,sc⟩:=H2.sure j _ (zby hjl)
      obtain⟨d2,hd2,ajK⟩:=HO.out.sure j _ (zby hjl)
      simp only at hm hsa sc
      have HL:Hid (dX d2.ks x=true->d2.n<=wn i):=ajK i x HX.out
      generalize sure[j]=m at *
      rw[hsa]at rs
      have co:=of_any H2.xw H2.kns m hm
      rw[hd2]at co
      unfold ofV ptr at co
      have Ud:Hid (KnAt w d2):=H.out.kns.of hd2
      have q1:(j:Int)< (sure.length:Int):=by omega
      clear H2 hd2 ajK hsa
      go_wp2_with fail
      refine co.mono ?_
      rintro e w5 ⟨rfl,Df⟩
      clear co rs sc
      have hBt:Below w.heap.size w w5:=hBs.trans (Df.mono hBs.size)
      clear Df hBs
      obtain⟨Rt,b0,b1,-⟩:=(H.out.below hBt).NS i _ HX.out
      simp only at Rt b0 b1
      have ch:=has_any (Ud.out.below hBt) x
      unfold ptr at ch
      go_wp2_with fail
      refine ch.mono ?_
      rintro e w6 ⟨rfl,BH⟩
      clear ch
      have C7:Below w.heap.size w w6:=hBt.trans (BH.mono hBt.size)
      replace b1:=below_cell BH b1
      have n1:=(Ud.out.below C7).num
      clear b0 BH hBt
      cases hb:dX d2.ks x with
      |true=>
       have hge:¬((wn i:Int)< (d2.n:Int)):=by have:=HL.out hb;omega
       clear HL hb
       go_wp2_with fail
       go_region_held3 (fun W=>W.cell? ⟨ab,i*3+1,none⟩=some (.int .i64 (wn i:Int))/\W.cell? ⟨d2.kb,0,none⟩=some (.int .i64 (d2.n:Int))) (simp[*]) (fail)
       go_wp2_with fail
       go_roundw
       case rel=>exact⟨j+1,by omega,by go_num,C7.drew⟩
       case measure=>simp[intOf];omega
      |false=>
       clear HL hb
       go_wp2_with fail
       refine wp_region_held_drew (S:=fun _=>True) (by kernel_rfl) trivial (fun hHeld=>?_)
       co_applyP tD (i:=0) rfl (by kernel_rfl) (by exact fun _ _ _ h=>h) (by rfl) (fun W _=>?b0) (by assumption);(case b0=>go_simp;all_goals with_reducible rfl);try walk_nrm
       co_applyP tD (i:=1) rfl (by kernel_rfl) (by exact fun _ _ _ h=>h) (by rfl) (fun W _=>?b1) (by assumption);(case b1=>go_simp;all_goals with_reducible rfl);try walk_nrm
       co_applyP Ib (i:=2) rfl (by kernel_rfl) (by exact fun _ _ _ h=>h) (by rfl) (by assumption);try walk_nrm
       co_applyP Ib (i:=3) rfl (by kernel_rfl) (by exact fun _ _ _ h=>h) (by rfl) (by assumption);try walk_nrm
       co_applyP Ib (i:=4) rfl (by kernel_rfl) (by exact fun _ _ _ h=>h) (by rfl) (by assumption);try walk_nrm
       co_applyP Ib (i:=5) rfl (by kernel_rfl) (by exact fun _ _ _ h=>h) (by rfl) (by assumption);try walk_nrm
       co_applyP Ib (i:=6) rfl (by kernel_rfl) (by exact fun _ _ _ h=>h) (by rfl) (by assumption);try walk_nrm
       co_applyP Ib (i:=7) rfl (by kernel_rfl) (by exact fun _ _ _ h=>h) (by rfl) (by assumption);try walk_nrm
       co_applyP Ib (i:=8) rfl (by kernel_rfl) (by exact fun _ _ _ h=>h) (by rfl) (by assumption);try walk_nrm
       co_applyP Ib (i:=9) rfl (by kernel_rfl) (by exact fun _ _ _ h=>h) (by rfl) (by assumption);try walk_nrm
       co_applyP Ib (i:=10) rfl (by kernel_rfl) (by exact fun _ _ _ h=>h) (by rfl) (by assumption);try walk_nrm
       co_applyP Ib (i:=11) rfl (by kernel_rfl) (by exact fun _ _ _ h=>h) (by rfl) (by assumption);try walk_nrm
       co_applyP tD (i:=12) rfl (by kernel_rfl) (by exact fun _ _ _ h=>h) (by rfl) (fun W _=>?Vh) (by assumption);(case Vh=>go_simp;all_goals with_reducible rfl);try walk_nrm
       refine wpAnyH_done (by kernel_rfl) ?_ _
       go_wp2_with fail
       go_roundw
       case rel=>exact⟨j+1,by omega,by go_num,C7.drew⟩
       case measure=>simp[intOf];omega
     ·clear H2
      go_wp2_with fail
      go_roundw
      case rel=>exact⟨i+1,by omega,by go_num,hBs⟩
      case measure=>simp[intOf];omega
  ·have hin:i=ks.length:=by omega
   subst hin;go_wp2_with fail
   go_ret;exact⟨rfl,hB⟩
end
end
section
def El(P b n:Nat):MW:={items:=aS (aA b) n,dL:=dS P (aA b),comm:=dS P (aA b),ed:=false}
def uZ(P:Nat)(bf:Nat->Nat):Nat->List MW
 | 0=> []
 |k+1=>uZ P bf k++ [xW,El P (bf k) (2*k+2)]
def nJ(P:Nat)(M:Int)(bf:Nat->Nat)(k:Nat)(rs:List MR):MS:={parts:=P,mode:=M,ws:=uZ P bf k,rs:=rs}
def lQ(bf:Nat->Nat)(x:ByteArray):Nat->Nat
 | 0=>0
 |k+1=>if dX (aA (bf k)) x=true then 2*k+2 else lQ bf x k
def Nd(P:Nat)(M:Int)(bf:Nat->Nat)(k j:Nat):MS:={parts:=P,mode:=M,ws:=uZ P bf k++ [xW,{El P (bf k) (2*k+2)with comm:=dS P ((aA (bf k)).take j)}],rs:= []}
section
variable {P:Nat}{M:Int}{bf:Nat->Nat}{k:Nat}{rs:List MR}
theorem gT:∀k,(uZ P bf k).length=2*k
 | 0=>rfl
 |k+1=>by simp[uZ,gT k];omega
theorem tF:(nJ P M bf k rs).ws.length=2*k:=gT k
theorem xJ:∀{k j:Nat},j<k->(uZ P bf k)[2*j]?=some xW/\(uZ P bf k)[2*j+1]?=some (El P (bf j) (2*j+2))
 | 0,j,h=>by omega
 |k+1,j,h=>by
  unfold uZ;by_cases e:j=k
  ·subst e;rw[List.getElem?_append_right (by rw[gT];omega),List.getElem?_append_right (by rw[gT];omega),gT];simp
  ·obtain⟨h1,h2⟩:=xJ (show j<k by omega);rw[List.getElem?_append_left (by rw[gT];omega),List.getElem?_append_left (by rw[gT];omega)];exact⟨h1,h2⟩
theorem OE:Ei (nJ P M bf k []) (aA (bf k)) (dS P (aA (bf k)))=Nd P M bf k 0:=by unfold Ei Nd;rw[tF];simp[nJ,T4,El,uU]
theorem So:Nd P M bf k (aA (bf k)).length=nJ P M bf (k+1) []:=by show ({parts:=P,mode:=M,ws:=uZ P bf k++ [xW,{El P (bf k) (2*k+2)with comm:=dS P ((aA (bf k)).take (aA (bf k)).length)}],rs:= []}:MS)=_;rw[zb2];rfl
theorem Sp(j:Nat):bF (Nd P M bf k j) ((2*k+2:Nat):Int)=some {El P (bf k) (2*k+2)with comm:=dS P ((aA (bf k)).take j)}:=by
 have:=jW (s:=Nd P M bf k j) (i:=2*k+1) (m:={El P (bf k) (2*k+2)with comm:=dS P ((aA (bf k)).take j)}) (by show (uZ P bf k++_)[2*k+1]?=_;rw[List.getElem?_append_right (by rw[gT];omega),gT,show 2*k+1-2*k=1 by omega];rfl) rfl
 rw[show ((2*k+2:Nat):Int)=((2*k+1:Nat):Int)+1 by omega];exact this
theorem Z8{n:Nat}(hx:x∈aA b)(hp:partOf P x=p):az P (El P b n).items p=true:=by show az P (aS (aA b) n) p=true;rw[rZ,List.any_eq_true];exact⟨x,hx,by simpa using hp⟩
theorem VV{n:Nat}:je P {El P b n with comm:=cm}=true:=by simp only[je,List.all_eq_true,List.mem_range];intro p _;show (!az P (aS (aA b) n) p || dS P (aA b) p)=true;rw[rZ,yy];cases (aA b).any fun x=>decide (partOf P x=(p:Int)) <;>rfl
theorem LH(hx:(aA (bf k))[j]?=some x)(hp:partOf P x=p):Re (Nd P M bf k j) ((2*k+2:Nat):Int) {El P (bf k) (2*k+2)with comm:=dS P ((aA (bf k)).take j)} p=Nd P M bf k (j+1):=by obtain⟨hj,rfl⟩:=List.getElem?_eq_some_iff.1 hx;unfold Re;rw[C1,show (((2*k+2:Nat):Int)-1).toNat=2*k+1 by omega];unfold setAt Nd;simp only;rw[List.set_append_right _ _ (by rw[gT];omega),gT,show 2*k+1-2*k=1 by omega,zb3 hj,rX hp];rfl
theorem Ka(hP:0<P)(hx:x∈aA b):dS P (aA b) (partOf (P:Int) x).toNat=true:=by rw[yy,List.any_eq_true];refine⟨x,hx,?_⟩;have:=eM (P:Int) x (by omega);simp only[decide_eq_true_eq];omega
theorem OG(hP:0<P)(hx:x≠kx):∀n,n<=k->pJ P (uZ P bf k) x (2*n)=lQ bf x n:=by
 intro n;induction n with
 |zero=>intro _;rfl
 |succ n ih=>
  intro hn;obtain⟨h1,h2⟩:=xJ (P:=P) (bf:=bf) (show n<k by omega);rw[show 2*(n+1)=2*n+1+1 from by omega];have hx0:aH xW.items x=false:=by show aH [(kx,EP)] x=false;simp[aH,Ne.symm hx]
  have hy:aH (El P (bf n) (2*n+2)).items x=dX (aA (bf n)) x:=rY _ _ _;simp only[pJ,h1,h2,hx0,hy,Bool.false_and,Bool.false_eq_true,if_false,lQ];cases hk:dX (aA (bf n)) x with
  |false=>simp only[Bool.false_and,Bool.false_eq_true,if_false];exact ih (by omega)
  |true=>
   have:(El P (bf n) (2*n+2)).comm (partOf (P:Int) x).toNat=true:=Ka hP (jE.1 hk);simp only[this,Bool.and_self,if_true]
theorem Im(hP:0<P)(hx:x≠kx):aU (nJ P M bf k rs) x=lQ bf x k:=by unfold aU;rw[tF];exact OG hP hx k (Nat.le_refl _)
theorem pK(x:ByteArray):∀k,lQ bf x k≠0->∃j,j<k/\lQ bf x k=2*j+2/\x∈aA (bf j)
 | 0,h=>absurd rfl h
 |k+1,h=>by
  unfold lQ at h⊢;by_cases e:dX (aA (bf k)) x=true
  ·rw[if_pos e];exact⟨k,by omega,rfl,jE.1 e⟩
  ·rw[if_neg e]at h⊢;obtain⟨j,h1,h2,h3⟩:=pK x k h;exact⟨j,by omega,h2,h3⟩
theorem Kb{x:ByteArray}:∀{k j:Nat},j<k->x∈aA (bf j)->2*j+2<=lQ bf x k
 | 0,j,h,_=>by omega
 |k+1,j,h,hx=>by
  unfold lQ;by_cases e:dX (aA (bf k)) x=true
  ·rw[if_pos e];omega
  ·rw[if_neg e];have:j≠k:=fun e'=>by subst e';exact e (jE.2 hx)
   exact Kb (by omega) hx
end
end
section
section
variable {w0 w w':World}{τ τ':Nat->Tag}{sb xb lb kb n:Nat}{s s':MS}{A A':SA}{lv:Nat->Nat}{kv:Value}{f:Nat->Bool}
theorem VW(hE:Env w0 w τ)(ht:(τ q).1=1):w0.heap.size<=q:=by
 rcases Nat.lt_or_ge q w0.heap.size with e|e
 ·rw[hE.yt q e]at ht;cases ht
 ·exact e
end
end
section
theorem LJ:∀b,b<64->∀x∈aA b,x≠kx:=by decide+kernel
def gR(L:List ByteArray)(v:ByteArray->Nat)(m:Nat):MR:={keys:=L,asked:=fun q=>decide (m<=q)&& decide (q<L.length),found:=fun q=>if m<=q/\q<L.length then v (L.getD q ⟨#[]⟩)else 0,fin:=false}
section
variable {P:Nat}{M:Int}{bf:Nat->Nat}{k:Nat}{L:List ByteArray}{v:ByteArray->Nat}
theorem OK:iG (gR L v 0)=true:=by unfold iG;simp only[List.all_eq_true,List.mem_range];intro j hj;show (decide (0<=j)&& decide (j<L.length))=true;have:j<L.length:=hj;simp[this]
theorem sj(hx:L[j]?=some x):(gR L v 0).found j=v x:=by have hj:=aE hx;show (if 0<=j/\j<L.length then v (L.getD j ⟨#[]⟩)else 0)=v x;rw[if_pos ⟨zb0 _,hj⟩];simp[List.getD,hx]
end
end
end Go.Proofs.YteoahlieielcdaaGreat
