import Derived.Test.YteoahlieielcdaaGreatPr21
set_option linter.all false
set_option maxHeartbeats 40000000
set_option maxRecDepth 100000
namespace Go.Proofs.YteoahlieielcdaaGreat
open Go.Proofs.Tryz
open Go Go.RowKit Go.MuLone
abbrev zbv:=@RowKit.Below.heap_alloc
abbrev zbw:=@List.getElem?_eq_getElem
abbrev zbx:=@World.block_lt_of_cell?
abbrev zby:=@Nat.zero_le
abbrev zbz:=@List.getElem_mem
abbrev zb0:=@List.take_length
abbrev zb1:=@List.take_succ_eq_append_getElem
variable{rs:List MR}{i aO b P p j q:Nat}{r:MR}{x:ah}{w0 w w' w2:af}{τ τ' τ0:Nat->Tag}{s:MS}{A:SA}{L:List ah}{o:Obj}{rb:Option Nat}{kv:aj}{f:Nat->Bool}{m:MW}
section
open Go.Maps (Keyed)
def Qd:(prog.info? 62).map (fun i=>(i.zero,i.size,i.bytes))=some (some (.agg #[.string ByteArray.empty,.int .i64 0,.string ByteArray.empty]),3,40):=by kernel_rfl
def Pn(n:Nat)(hn:n<=8)(W:af):∃M:Array aj,M.size=n*3/\(Instr.makeSlice 42 (.int .i64 (n:Int)) (.int .i64 (n:Int))).run prog W=.ok (.slice (some ⟨W.heap.size,0,none⟩) n n) (W.alloc (.cells M 62)):=by obtain⟨i0,hi,hz0,MO,Tr⟩:=info_parts Qd;have h:=run_make (P:=prog) W 42 62 i0 _ underlying42 hi hz0 .i64 .i64 (n:Int) (n:Int) (by omega) (by omega) (by rw[Tr];omega) (by omega);refine⟨_,?_,by simpa using h⟩;rw[size_madeCells,MO]
section
variable {w:af}{A:SA}
end
end
section
open Go.Maps (Keyed)
def nW(s:MS)(i:Nat)(r:MR):MS:={s with rs:=s.rs.set i {r with fin:=true}}
def qA(hr:rs[i]?=some r)(hf:r.fin=false):bq (rs.set i {r with fin:=true})+1=bq rs:=by
 unfold bq;induction rs generalizing i with
 |nil=>simp at hr
 |cons a l ih=>
  cases i with
  |zero=>
   simp at hr;subst hr;simp[hf]
  |succ i=>
   have:=ih (by simpa using hr);simp only[List.set_cons_succ,List.countP_cons];omega
def Bh(hr:rs[i]?=some r)(n:Int):ed (rs.set i {r with fin:=true}) n=if n=(i:Int)+1 then none else ed rs n:=by
 have hi:=aM hr;unfold ed;simp only[List.length_set];by_cases e:n=(i:Int)+1
 ·subst e;rw[if_pos rfl,if_neg (by omega),show ((i:Int)+1-1).toNat=i from by omega];simp[hi]
 ·rw[if_neg e];split
  ·rfl
  ·rw[List.getElem?_set_ne (by omega)]
def HA{B:SB}(hr:rs[i]?=some r):dK (rs.set i {r with fin:=true}) B=del (dK rs B) (.int .i64 ((i:Int)+1)):=by
 funext kl;by_cases e:kl=.int .i64 ((i:Int)+1)
 ·subst e;rw[mH (by trivial)];simp[dK,Bh hr]
 ·rw[kq e];cases kl with
  |int k n=>
   cases k<;>try rfl
   have hn:n≠(i:Int)+1:=fun e'=>e (by rw[e']);simp only[dK,Bh hr,if_neg hn]
  |_=>rfl
section
variable {w:af}{τ:Nat->Tag}{aO b:Nat}{s:MS}{A:SA}
def a9.fin(h:a9 w τ aO b s A){i:Nat}{r:MR}(hr:s.rs[i]?=some r)(jh:r.fin=false){w':af}(hne:∀k,k≠A.R.rm->w'.heap[k]?=w.heap[k]?)
 (hM:aS w' prog 3 A.R.rm (del (dK s.rs A.R) (.int .i64 ((i:Int)+1)))):a9 w' τ aO b (nW s i r) A:=by
 have hi:=aM hr;have dL:∀{q:Nat} {rq:MR},(s.rs.set i {r with fin:=true})[q]?=some rq->rq.fin=false->q≠i/\s.rs[q]?=some rq:=by
  intro q rq hq hf;rcases jO hq with⟨rfl,rfl⟩|⟨e,hq⟩
  ·cases hf
  ·exact⟨fun e'=>e e'.symm,hq⟩
 have hne':∀{k g g':Nat},τ k=(aO,g,g')->g≠10->w'.heap[k]?=w.heap[k]? :=fun ht hg=>hne _ (fun e=>by rw[e,h.reads.iq]at ht;simp at ht;omega);have:=h.Hl (w':=w') (τ':=τ) (rs':=s.rs.set i {r with fin:=true}) (B':=A.R) (fun k hk h1 h2 h3=>⟨hne _ (fun e=>by rw[e,h.reads.iq]at h3;simp at h3),rfl⟩) h.tag
  ⟨h.ok.p1,h.ok.p4,h.ok.len,h.ok.items,fun q rq hq=>?_,?_⟩ ⟨h.told.sv,fun q rq hq hf=>?_,fun q rq j hq ha=>?_,fun q rq j x hq hf hx=>?_,fun q rq j x hq hf hx hv=>?_,fun q rq j x hq hf hx hv=>?_,fun q rq j x hq hf hx hv=>?_⟩ ?_ ⟨?_,h.reads.iq,fun q rq hq hf=>?_,fun q rq hq hf=>?_,fun q rq hq hf=>?_,fun q rq hq hf=>?_,fun q rq j x hq hf hx=>?_,fun q rq j x hq hf hx=>?_,fun q rq hq hf=>?_,fun q rq k hq hf hk=>?_⟩
 ·exact this
 ·rcases jO hq with⟨rfl,rfl⟩|⟨_,hq⟩
  ·exact h.ok.keys i r hr
  ·exact h.ok.keys q rq hq
 ·have:=qA hr jh;have h50:=h.ok.opn;show bq (s.rs.set i {r with fin:=true})<=50;omega
 ·exact h.told.no q rq (dL hq hf).2 hf
 ·rcases jO hq with⟨rfl,rfl⟩|⟨_,hq⟩
  ·exact h.told.un i r j hr ha
  ·exact h.told.un q rq j hq ha
 ·exact h.told.hv q rq j x (dL hq hf).2 hf hx
 ·exact h.told.tv q rq j x (dL hq hf).2 hf hx hv
 ·exact h.told.t0 q rq j x (dL hq hf).2 hf hx hv
 ·exact h.told.fm q rq j x (dL hq hf).2 hf hx hv
 ·simp only[List.length_set];exact h.blk.of_eq (hne' h.tag (by omega))
 ·rw[HA hr];exact hM
 ·have h1:=(dL hq hf).2;exact(h.reads.rd q rq h1 hf).of_eq (hne' (h.reads.iI q rq h1 hf) (by omega))
 ·exact h.reads.iI q rq (dL hq hf).2 hf
 ·have h1:=(dL hq hf).2;exact(h.reads.vV q rq h1 hf).of_eq (hne' (h.reads.mI q rq h1 hf) (by omega))
 ·exact h.reads.mI q rq (dL hq hf).2 hf
 ·have h1:=(dL hq hf).2;exact(h.reads.q q rq j x h1 hf hx).of_eq (hne' (h.reads.lu q rq j x h1 hf hx) (by omega))
 ·exact h.reads.lu q rq j x (dL hq hf).2 hf hx
 ·have h1:=(dL hq hf).2;exact aH (h.reads.ky q rq h1 hf) (fun k hk=>hne' (h.reads.dJ q rq k h1 hf hk) (by omega))
 ·exact h.reads.dJ q rq k (dL hq hf).2 hf hk
def G0{l:List KV}{v:ah}(hg:∀y∈l,fU y=true)(h:fO l x=some v):v.size<=64:=by unfold fO at h;obtain⟨y,hy,rfl⟩:=Option.map_eq_some_iff.1 h;exact(gN (hg y (List.mem_of_find?_eq_some hy))).2.2
end
end
section
structure Env(w0 w:af)(τ:Nat->Tag):Prop where
 below:Below w0.heap.size w0 w
 lm:∀k,k<w0.heap.size->τ k=(0,0,0)
def Env.ou(h:Env w0 w τ)(hs:Stp aO τ w τ' w')(Xv:aO≠0):Env w0 w' τ':=by
 have hsz:=h.below.size;refine⟨⟨hs.os.trans h.below.os,hs.tape.trans h.below.tape,hs.output.trans h.below.output,Nat.le_trans hsz hs.size,fun k hk=>?_⟩,fun k hk=>?_⟩
 ·exact(hs.block k (by omega) (by rw[h.lm k hk];exact fun e=>Xv e.symm)).trans (h.below.block k hk)
 ·rw[hs.tag k (by omega),h.lm k hk]
def Env.V9(h:Env w0 w τ)(hb:Below w.heap.size w w'):Env w0 w' τ:=⟨h.below.trans (hb.mono h.below.size),h.lm⟩
def retag(τ:Nat->Tag)(n:Nat):Nat->Tag:=fun k=>if k=n then(0,0,0)else τ k
def Env.alloc{w0 w:af}{τ:Nat->Tag}(h:Env w0 w τ)(o:Obj):Env w0 (w.alloc o) (retag τ w.heap.size):=by have hsz:=h.below.size;refine⟨h.below.alloc hsz _,fun k hk=>?_⟩;unfold retag;rw[if_neg (by omega)];exact h.lm k hk
def a9.box(h:a9 w τ aO b s A)(o:Obj):a9 (w.alloc o) (retag τ w.heap.size) aO b s A:=
 h.frame (fun k hk _=>⟨zbv _ _ _ hk,by unfold retag;rw[if_neg (by omega)]⟩)
def a9.other{abm:Nat}(h:a9 w τ aO b s A)(hs:Stp abm τ w τ' w')(hne:aO≠abm):a9 w' τ' aO b s A:=
 h.frame (fun k hk e=>⟨hs.block k hk (by rw[e];exact hne),hs.tag k hk⟩)
section
variable {w:af}
def jr(c n:Int)(w:af)(h1: -9223372036854775808<=c)(h2:c<=9223372036854775807)(hn:0<n)(hn':n<=9223372036854775807):
 Calls prog 18 #[.int .i64 c,.int .i64 n] w fun e w'=>e=.returned (.int .i64 (fC c n))/\w'=w:=by
 by_cases h:c<0
 ·go_enter func18,ntmps18;go_wp2;go_ret;exact⟨gX (by rw[<-OX c n h]),rfl⟩
 ·go_enter func18,ntmps18;go_wp2;go_ret;exact⟨gX (by rw[<-OY c n (by omega)]),rfl⟩
def kK:ah:=⟨#[107]⟩
def kV:ah:=⟨#[118]⟩
def t0:MS:={parts:=1,mode:=1,ws:= [],rs:= []}
def t1:MS:=(jA t0 [(kK,kV)]).2.2
def t2:MS:=(dI t1 1 0).2
def t3:MS:=(eE t2 1 0).2
def t4:MS:=(oH t3 [kK]).2.2
def t5:MS:=(kE t4 1 kK).2
def ZU:jA t0 [(kK,kV)]=(1,0,t1):=by rfl
def ZV:dI t1 1 0=(0,t2):=by rfl
def ZW:eE t2 1 0=(0,t3):=by rfl
def ZX:oH t3 [kK]=(1,0,t4):=by rfl
def ZY:kE t4 1 kK=(0,t5):=by rfl
def ZR:MR:=(t5.rs[0]?).getD (eY [])
def SC:fP t5 1=some ZR:=by rfl
def Og:hU ZR=true:=by rfl
def BX:ZR.keys= [kK]:=by rfl
def Ea(x:KV):wT (w.alloc (.cells #[.string x.1,.string x.2] 70)) (some ⟨w.heap.size,0,none⟩) [x]:=by
 intro k y hy;match k,hy with
 | 0,hy=>
   simp at hy;subst hy;exact⟨w.heap.size,0,rfl,(bg.new w _ _).cell (o:=0) rfl,(bg.new w _ _).cell (o:=1) rfl⟩
def Oe(x:ah):Cd (w.alloc (.cells #[.string x] 9)) (some ⟨w.heap.size,0,none⟩) [x]:=by
 intro k y hy;match k,hy with
 | 0,hy=>
   simp at hy;subst hy;exact⟨w.heap.size,0,rfl,(bg.new w _ _).cell (o:=0) rfl⟩
def qZ(τ:Nat->Tag)(n:Nat):retag τ n n=(0,0,0):=by unfold retag;rw[if_pos rfl]
def AE(p:Nat)(m:Int):MS:={parts:=p,mode:=m,ws:= [],rs:= []}
end
end
section
def S5:List ah:= [⟨#[97]⟩,⟨#[98]⟩,⟨#[99]⟩,⟨#[100,100]⟩,⟨#[101,49]⟩,⟨#[122,122,122,122]⟩]
def YW(k:Nat):ah:=S5.getD k ⟨#[]⟩
def OZ(b k:Nat):Bool:=Go.bits BinOp.and IntKind.i64 ((b:Int)/ 2 ^ k) 1 == 1
def gM(b:Nat):Nat->List ah
 | 0=> []
 |k+1=>gM b k++(if OZ b k then [YW k]else [])
def iM(b:Nat):List ah:=gM b 6
def GN(b k:Nat):(gM b k).length<=k:=by
 induction k with
 |zero=>simp[gM]
 |succ k ih=>
  simp only[gM];split<;>simp<;>omega
def Av:∀b,b<64->(iM b).Nodup/\(∀x∈iM b,bK x=true)/\(1<=b->1<=(iM b).length)/\(iM b).length<=6:=by decide+kernel
section
variable {w:af}
def Nb(b:Nat):Calls prog 17 #[.int .i64 b] w fun e w'=>∃v,e=.returned v/\w'.ownsRow w.heap.size 9 1 v (iM b).length ((iM b).map Value.string)/\Below w.heap.size w w':=by
 obtain⟨si,hsi,Wj,Wl,Wm⟩:=info_parts sM;go_enter func17,ntmps17;go_wp2_with fail
 go_loopw [3,4] (fun s3 u wr=>∃(k:Nat),k<=6/\u=.int .i64 k/\wr.ownsRow w.heap.size 9 1 s3 (gM b k).length ((gM b k).map Value.string)/\Below w.heap.size w wr) (fun _ u _=>6-(intOf u).toNat)
 case atStart=>exact⟨0,by omega,rfl,World.ownsRow_nil _ _ _ _,Below.refl _ _⟩
 case round=>
  obtain⟨k,hk,rfl,hrow,hB⟩:=hrel;by_cases hlt:k<6
  ·obtain⟨av,gZ,hv3⟩:=cy hrow;have hLk:=GN b k;have hsz:=hB.size;obtain⟨bt,Dz⟩:∃bt,OZ b k=bt:=⟨_,rfl⟩
   have afP:=Dz;unfold OZ at afP;cases bt with
   |true=>
    have HK:Hid (gM b (k+1)=gM b k++ [YW k]):=by show gM b k++(if OZ b k=true then [YW k]else [])=_;rw[Dz];rfl
    have h6:((wr.alloc (.cells #[.string ⟨#[97]⟩,.string ⟨#[98]⟩,.string ⟨#[99]⟩,.string ⟨#[100,100]⟩,.string ⟨#[101,49]⟩,.string ⟨#[122,122,122,122]⟩] 9))).cell? ⟨wr.heap.size,k,none⟩=some (.string (YW k)):=by
     refine(bg.new wr _ _).cell ?_;match k,hlt with
     | 0,_=>rfl
     | 1,_=>rfl
     | 2,_=>rfl
     | 3,_=>rfl
     | 4,_=>rfl
     | 5,_=>rfl
    have U5:=(hrow.alloc (.cells #[.string ⟨#[97]⟩,.string ⟨#[98]⟩,.string ⟨#[99]⟩,.string ⟨#[100,100]⟩,.string ⟨#[101,49]⟩,.string ⟨#[122,122,122,122]⟩] 9))
    have dQ:Below w.heap.size w (wr.alloc (.cells #[.string ⟨#[97]⟩,.string ⟨#[98]⟩,.string ⟨#[99]⟩,.string ⟨#[100,100]⟩,.string ⟨#[101,49]⟩,.string ⟨#[122,122,122,122]⟩] 9)):=hB.alloc hsz _;have hrw:=U5;generalize hxs:(gM b k).map Value.string=xs at *;generalize hnk:(gM b k).length=nk at *;generalize YW k=sk at *;have HX:Hid (∀(w2:af) (v2:aj),w2.ownsRow w.heap.size 9 1 v2 (nk+1) (xs++ [.string sk])->w2.ownsRow w.heap.size 9 1 v2 (gM b (k+1)).length ((gM b (k+1)).map Value.string)):=fun w2 v2 h=>by rw[HK.out,List.length_append,List.map_append,hxs,hnk];exact h
    clear Dz HK hxs hnk hrow;subst hv3;have hcz:w.heap.size<=(wr.alloc (.cells #[.string ⟨#[97]⟩,.string ⟨#[98]⟩,.string ⟨#[99]⟩,.string ⟨#[100,100]⟩,.string ⟨#[101,49]⟩,.string ⟨#[122,122,122,122]⟩] 9)).heap.size:=dQ.size;go_wp2_with (at_builtin;refine wpList_append_own_at _ rfl (.tmp 14) (.tmp 19) 38 rfl w.heap.size 9 si _ 1 16 underlying38 hsi Wj Wl Wm rfl (by decide) (.slice av nk gZ) nk xs rfl (U5.alloc _) ⟨_,0,none⟩ 1 1 [.string sk] rfl rfl (by first|exact cell_one_new _ _ _|(simpa using cell_one_new (wr.alloc (.cells #[.string ⟨#[97]⟩,.string ⟨#[98]⟩,.string ⟨#[99]⟩,.string ⟨#[100,100]⟩,.string ⟨#[101,49]⟩,.string ⟨#[122,122,122,122]⟩] 9)) (.string sk) 9)) (by simp[Value.oneCell']) (by unfold maxLen;omega) (by omega) (by simp;omega) ?_;intro v2 w2 vR oG Ja hA2)
    have Zm:=HX.out w2 v2 vR;have kB:Below w.heap.size w w2:=(dQ.alloc hcz _).grown oG (by simp;omega) (fun q e=>(aQ hrw q e).1);clear Ja hA2;go_wp2_with fail
    go_roundw
    case rel=>exact⟨k+1,by omega,by go_num,Zm,kB⟩
    case measure=>simp[intOf];omega
   |false=>
    have HK:Hid (gM b (k+1)=gM b k):=by show gM b k++(if OZ b k=true then [YW k]else [])=_;rw[Dz];simp
    clear Dz;go_wp2_with fail
    go_roundw
    case rel=>exact⟨k+1,by omega,by go_num,by rw[HK.out];exact hrow,hB⟩
    case measure=>simp[intOf];omega
  ·have ZE:k=6:=by omega
   subst ZE;go_wp2_with fail
   go_ret;exact⟨_,rfl,hrow,hB⟩
end
end
section
def vv:ah:=⟨#[118]⟩
def sY(L:List ah):List KV:=L.map (fun x=>(x,vv))
def iE(P:Nat)(L:List ah):Nat->Bool:=fun q=>aJ P (sY L) q
def K7(P:Nat):iE P []=fun _=>false:=by funext q;simp[iE,sY,aJ]
def GQ(hp:partOf P x=p):iE P (L++ [x])=put (iE P L) p:=by
 funext q;simp only[iE,sY,List.map_append,List.map_cons,List.map_nil,lA,put,hp];by_cases e:q=p
 ·subst e;simp
 ·have:¬((p:Int)=(q:Int)):=by omega
  simp[e,this]
section
variable {P:Nat}{M:Int}{L:List ah}{pf:Nat->Bool}{rs:List MR}
end
end
section
def fresh(τ:Nat->Tag)(n:Nat):Nat->Tag:=fun k=>if n<=k then(0,0,0)else τ k
def a9.grown(h:a9 w τ aO b s A)(hG:(w.alloc o).grownBy w2 rb)(hrb:∀k,rb=some k->τ k=(0,0,0))(Xv:aO≠0):a9 w2 (fresh τ w.heap.size) aO b s A:=
 h.frame (fun k hk e=>⟨(hG.block k (by simp;omega) (fun e'=>by rw[hrb k e'.symm]at e;exact Xv e.symm)).trans (zbv _ _ _ hk),by unfold fresh;rw[if_neg (by omega)]⟩)
section
variable {w1 w w':af}{τ τ':Nat->Tag}{sb:Nat}{s s':MS}{A A':SA}{L:List ah}{ig onb:Nat}{f:Nat->Bool}
end
end
section
def l9(on:Int)(n:Nat)(hn:0<n):∃p:Nat,p<n/\fC on n=(p:Int):=by obtain⟨h1,h2⟩:=BW on n (by omega);exact⟨(fC on n).toNat,by omega,by omega⟩
section
variable {w:af}
end
end
section
def nA:Nat->Nat->ah->ah
 | 0,_,s=>s
 |f+1,n,s=>if n=0 then s else nA f (n / 10) (⟨#[UInt8.ofNat (48+n % 10)]⟩++s)
def q9(n:Nat):ah:=nA 20 n ⟨#[]⟩
section
variable {w:af}
def xu(n:Nat)(h1:1<=n)(h2:n<=1000):Calls prog 25 #[.int .i64 n] w fun e w'=>e=.returned (.string (q9 n))/\Below w.heap.size w w':=by
 go_enter func25,ntmps25;go_wp2_with fail
 go_loopw [0,3] (fun u s3 wr=>∃(f m:Nat) (s:ah),u=.int .i64 m/\s3=.string s/\m<10 ^ f/\f<=20/\s.size+f=20/\m<=1000/\(m=0->1<=s.size)/\Hid (nA f m s=q9 n)/\Below w.heap.size w wr) (fun u _ _=>(intOf u).toNat)
 case atStart=>exact⟨20,n,⟨#[]⟩,rfl,rfl,by omega,by omega,rfl,by omega,by omega,rfl,Below.refl _ _⟩
 case round=>
  obtain⟨f,m,s,rfl,rfl,hm,hf,hs,hm2,h0,HD,hB⟩:=hrel;by_cases hlt:0<m
  ·have hlt':decide ((m:Int)> 0)=true:=by simp;omega
   have kc:(convert 116 9 (.slice (some ⟨wr.heap.size,0,none⟩) 1 1)).run prog (wr.alloc (.cells #[.int .u8 (48+(m:Int)% 10)] 5))=.ok (.string ⟨#[UInt8.ofNat (48+m % 10)]⟩) (wr.alloc (.cells #[.int .u8 (48+(m:Int)% 10)] 5)):=by
    have:=run_convert_bytes_arg (P:=prog) (wr.alloc (.cells #[.int .u8 (48+(m:Int)% 10)] 5)) 116 5 underlying116 underlying5 wr.heap.size 0 1 1 [48+(m:Int)% 10] rfl (fun i hi=>by
     match i,hi with
     | 0,_=>exact(bg.new wr _ _).cell (o:=0) rfl) 9 underlying9
    rw[this];have e:(48+(m:Int)% 10).toNat=48+m % 10:=by omega
    simp[strOfNums,e]
   generalize K8:(⟨#[UInt8.ofNat (48+m % 10)]⟩:ah)=xx at *;have hxs:xx.size=1:=by rw[<-K8];rfl
   have HN:Hid (∃g,f=g+1/\m / 10<10 ^ g/\nA g (m / 10) (xx++s)=q9 n):=by
    cases f with
    |zero=>simp at hm;omega
    |succ g=>
     refine⟨g,rfl,by rw[Nat.pow_succ]at hm;omega,?_⟩;have:=HD.out;unfold nA at this;rw[if_neg (by omega),K8]at this;exact this
   clear K8;go_wp2_with fail
   go_roundw
   case rel=>
    obtain⟨g,rfl,h8,h9⟩:=HN.out;exact⟨g,m / 10,xx++s,by go_num,rfl,h8,by omega,by rw[ByteArray.size_append];omega,by omega,fun _=>by rw[ByteArray.size_append];omega,h9,hB.alloc hB.size _⟩
   case measure=>simp[intOf];omega
  ·have hm0:m=0:=by omega
   subst hm0;have hs1:=h0 rfl;have hne:s.toList.isEmpty=false:=by
    rw[ByteArray.toList_eq,Bool.eq_false_iff];intro h;rw[List.isEmpty_iff]at h;have:s.data.toList.length=0:=by rw[h];rfl
    simp at this;simp[ByteArray.size,this]at hs1
   have HE:Hid (s=q9 n):=by
    have:=HD.out;cases f with
    |zero=>exact this
    |succ g=>unfold nA at this;rw[if_pos rfl]at this;exact this
   go_wp2_with fail
   go_ret;exact⟨congrArg (fun x=>Ending.returned (.string x)) HE.out,hB⟩
end
end
section
def kx:ah:=⟨#[120]⟩
def F3:ah:=⟨#[]⟩
def xW:MW:={jk [(kx,F3)]with dP:=true}
def aX(L:List ah)(n:Nat):List KV:=L.map (fun x=>(x,x++q9 n))
def eu(L:List ah):List KV:=L.map (fun x=>(x,F3))
def Xw(L:List ah)(n:Nat)(pf:Nat->Bool):MW:={items:=aX L n,dH:=pf,comm:=fun _=>false,dP:=false}
def Dr(s:MS)(L:List ah)(pf:Nat->Bool):MS:={s with ws:=s.ws++ [xW,Xw L (s.ws.length+2) pf]}
def YX(s:MS):MS:={s with ws:=s.ws++ [jk [(kx,F3)]]}
def xS(s:MS):MS:={s with ws:=s.ws++ [xW]}
def Et(f:Nat):∀(n:Nat) (s:ah),(nA f n s).size<=f+s.size:=by
 induction f with
 |zero=>intro n s;simp[nA]
 |succ f ih=>
  intro n s;unfold nA;split
  ·omega
  ·refine Nat.le_trans (ih _ _) ?_;rw[ByteArray.size_append,show (ByteArray.mk #[UInt8.ofNat (48+n % 10)]).size=1 from rfl];omega
def uw(n:Nat):(q9 n).size<=20:=Et 20 n ⟨#[]⟩
def qB(L:List ah)(x:ah)(n:Nat):aX (L++ [x]) n=aX L n++ [(x,x++q9 n)]:=by simp[aX]
def qR(L:List ah)(n:Nat)(x:ah):aP (aX L n) x=cg L x:=by simp[aP,cg,aX,List.any_map,Function.comp_def]
def K9:∀(L A:List ah) (n:Nat),(A++L).Nodup->(∀x∈L,bK x=true)->cH (aX A n) (aX L n)=0:=by
 intro L;induction L with
 |nil=>intro A n _ _;rfl
 |cons x r ih=>
  intro A n hn hg;have hgx:=hg x (by simp);have hz:=uw n;have h1:fU (x,x++q9 n)=true:=by simp only[fU,hgx,Bool.true_and,decide_eq_true_eq,ByteArray.size_append];simp[bK]at hgx;omega
  have h2:aP (aX A n) x=false:=by rw[qR];simp only[cg,List.any_eq_false,decide_eq_true_eq];rintro y hy rfl;have:=(List.nodup_append.1 hn).2.2 y hy y (by simp);exact this rfl
  show cH (aX A n) ((x,x++q9 n):: aX r n)=0;rw[Eu h1 h2,<-qB];exact ih (A++ [x]) n (by simpa using hn) (fun y hy=>hg y (by simp[hy]))
def Xx(n:Nat)(hn:L.Nodup)(hg:∀x∈L,bK x=true)(h1:1<=L.length)(h8:L.length<=8):ez (aX L n)=0:=by
 unfold ez;have hvl:(aX L n).length=L.length:=by simp[aX]
 rw[if_neg (by rw[hvl];omega)];exact K9 L [] n (by simpa using hn) hg
section
variable {s:MS}{L:List ah}{pf:Nat->Bool}
def afQ(h:s.ws.length<200):jA s [(kx,F3)]=((s.ws.length:Int)+1,0,YX s):=by
 have hc:ez [(kx,F3)]=0:=by decide+kernel
 unfold jA;rw[if_neg (by rw[hc];simp),if_neg (by omega)];rfl
def Ld:iV (YX s) ((s.ws.length:Int)+1)=(0,xS s):=by
 have hf:bI (YX s) ((s.ws.length:Int)+1)=some (jk [(kx,F3)]):=by unfold bI;rw[if_neg (by simp[YX];omega),show ((s.ws.length:Int)+1-1).toNat=s.ws.length from by omega];simp[YX,jk]
 unfold iV;rw[hf];simp only[jk,Bool.or_false,Bool.false_eq_true,if_false];unfold uq YX xS;rw[show ((s.ws.length:Int)+1-1).toNat=s.ws.length from by omega];simp[xW,jk]
def O7(h:s.ws.length+1<200)(hc:ez (aX L (s.ws.length+2))=0):jA (xS s) (aX L (s.ws.length+2))=((s.ws.length:Int)+2,0,Dr s L (fun _=>false)):=by unfold jA;rw[if_neg (by rw[hc];simp),if_neg (by simp[xS];omega)];simp only[xS,Dr,List.length_append,List.length_cons,List.length_nil,Prod.mk.injEq,true_and];refine⟨by omega,?_⟩;simp[Xw,jk]
def S6(h:s.ws.length+2<=200):bI (Dr s L pf) ((s.ws.length:Int)+2)=some (Xw L (s.ws.length+2) pf):=by unfold bI;rw[if_neg (by simp[Dr];omega),show ((s.ws.length:Int)+2-1).toNat=s.ws.length+1 from by omega];simp[Dr,Xw]
def qQ(P:Int)(L:List ah)(n:Nat)(q:Int):aJ P (aX L n) q=L.any (fun x=>decide (partOf P x=q)):=by simp[aJ,aX,List.any_map,Function.comp_def]
def wY(P:Nat)(L:List ah)(q:Nat):iE P L q=L.any (fun x=>decide (partOf P x=(q:Int))):=by simp[iE,aJ,sY,List.any_map,Function.comp_def]
def Xy(g:MW):uq (Dr s L pf) ((s.ws.length:Int)+2) g={s with ws:=s.ws++ [xW,g]}:=by unfold uq Dr;rw[show ((s.ws.length:Int)+2-1).toNat=s.ws.length+1 from by omega];simp
def S7(h:s.ws.length+2<=200)(hx:x∈L)(hp:partOf s.parts x=p):dI (Dr s L pf) ((s.ws.length:Int)+2) p=(if pf p then 10 else 0,Dr s L (put pf p)):=by
 unfold dI;rw[S6 h];have h1:aJ (Dr s L pf).parts (Xw L (s.ws.length+2) pf).items p=true:=by show aJ s.parts (aX L (s.ws.length+2)) p=true;rw[qQ,List.any_eq_true];exact⟨x,hx,by simpa using hp⟩
 simp only[h1,Bool.true_eq_false,if_false,Int.toNat_natCast];cases hc:pf p with
 |true=>
  have:put pf p=pf:=by funext q;unfold put;split<;>simp_all
  have h2:(Xw L (s.ws.length+2) pf).dH p=true:=hc;simp only[h2,if_true,this]
 |false=>
  have h2:(Xw L (s.ws.length+2) pf).dH p=false:=hc;simp only[h2,Bool.false_eq_true,if_false,Xy];rfl
end
end
section
def Stp.O8{s:Nat}(h:Stp s τ0 w0 τ w)(hG:(w.alloc o).grownBy w2 rb)(hrb:∀k,rb=some k->w0.heap.size<=k):Stp s τ0 w0 (fresh τ w.heap.size) w2:=by
 have Ro:w.heap.size<w2.heap.size:=by have:=hG.size;simp at this;omega
 refine⟨hG.os.trans h.os,hG.tape.trans h.tape,hG.output.trans h.output,by have:=h.size;omega,fun k hk=>?_,fun k hk hs=>?_⟩
 ·unfold fresh;rw[if_neg (by have:=h.size;omega)];exact h.tag k hk
 ·exact(hG.block k (by have:=h.size;simp;omega) (fun e=>by have:=hrb k e.symm;omega)).trans ((zbv _ _ _ (by have:=h.size;omega)).trans (h.block k hk hs))
def Stp.box{s:Nat}(h:Stp s τ0 w0 τ w)(o:Obj):Stp s τ0 w0 (retag τ w.heap.size) (w.alloc o):=by
 refine⟨h.os,h.tape,h.output,by have:=h.size;simp;omega,fun k hk=>?_,fun k hk hs=>?_⟩
 ·unfold retag;rw[if_neg (by have:=h.size;omega)];exact h.tag k hk
 ·exact(zbv _ _ _ (by have:=h.size;omega)).trans (h.block k hk hs)
def zT(L:List ah)(x:ah):eu (L++ [x])=eu L++ [(x,F3)]:=by simp[eu]
def dR(L:List ah)(n j:Nat):List KV:=aX (L.take j) n++eu (L.drop j)
def Ce(L:List ah)(n j:Nat):(dR L n j).length=L.length:=by simp[dR,aX,eu];omega
def zU(L:List ah)(n:Nat):dR L n 0=eu L:=by simp[dR,aX]
def Cf(L:List ah)(n:Nat):dR L n L.length=aX L n:=by simp[dR,eu]
def vr(a b:List KV):bn (a++b)=bn a++bn b:=by simp[bn]
def zV(L:List ah)(n j:Nat)(x:ah)(h:L[j]?=some x):(bn (dR L n j)).set (j*2+1) (.string (x++q9 n))=bn (dR L n (j+1)):=by
 obtain⟨hj,rfl⟩:=List.getElem?_eq_some_iff.1 h;unfold dR;rw[zb1 hj,qB,List.drop_eq_getElem_cons hj,List.append_assoc,vr,vr];have hl:(bn (aX (L.take j) n)).length=j*2:=by rw[oV];simp[aX];omega
 have e:bn (eu (L[j] :: L.drop (j+1)))=.string L[j] :: .string F3 :: bn (eu (L.drop (j+1))):=rfl;rw[e,List.set_append_right _ _ (by rw[hl];omega),hl,show j*2+1-j*2=1 from by omega];simp[bn]
structure Rp(w0:af)(τ0:Nat->Tag)(w:af)(τ:Nat->Tag)(sb:Nat)(s:MS)(A:SA):Prop where
 rep:a9 w τ 2 sb s A
 ou:Stp 2 τ0 w0 τ w
section
variable {w:af}{τ:Nat->Tag}{sb:Nat}{s:MS}{A:SA}{L:List ah}
def xX{base:Nat}{e:az}{size:Nat}{g n cap:Nat}{xs:List aj}(h:w.ownsRow base e size (.slice (some ⟨g,0,none⟩) n cap) n xs)(hb:w'.heap[g]?=w.heap[g]?):w'.ownsRow base e size (.slice (some ⟨g,0,none⟩) n cap) n xs:=
 aH h (fun k hk=>by cases hk;exact hb)
def Kt(hR:a9 w τ 2 sb s A)(kg bX:Nat)(UE:1<=L.length)(MU:L.length<=8)(hnd:L.Nodup)(hg:∀x∈L,bK x=true)
 (hkc:∀(j:Nat) (x:ah),L[j]?=some x->w.cell? ⟨kg,j,none⟩=some (.string x)) (ot:kg<w.heap.size) (BQ:(τ kg).1=0) (hlen:s.ws.length+2<=200):
 Calls prog 19 #[ptr sb,.slice (some ⟨kg,0,none⟩) L.length bX] w fun e w'=>∃τ' A',e=.returned (.int .i64 ((s.ws.length:Int)+2))/\a9 w' τ' 2 sb (Dr s L (iE s.parts L)) A'/\Stp 2 τ w τ' w':=by
 have HG:Hid (∀x∈L,bK x=true):=hg;have HKC:Hid (∀(j:Nat) (x:ah),L[j]?=some x->w.cell? ⟨kg,j,none⟩=some (.string x)):=hkc;have HV:Hid (ez (aX L (s.ws.length+2))=0):=Xx _ hnd hg UE MU;have HW:Hid (Rp w τ w τ sb s A):=⟨hR,Stp.refl _ _ _⟩
 have HP:Hid (1<=s.parts/\s.parts<=4):=⟨hR.ok.p1,hR.ok.p4⟩
 have GR:Hid (∀(τr:Nat->Tag) (wr:af),Stp 2 τ w τr wr->∀(j:Nat) (x:ah),L[j]?=some x->wr.cell? ⟨kg,j,none⟩=some (.string x)):=fun τr wr hs j x hx=>
  (World.cell?_of_block (w:=w) (a:=⟨kg,j,none⟩) (hs.block kg ot (by rw[BQ];decide))).trans (hkc j x hx)
 unfold ptr;clear hg hkc hR hnd BQ;obtain⟨ii,oB,iz0,iz1,iz2⟩:=info_parts Jw;go_enter func19,ntmps19;go_wp2_with fail
 go_loopw [5,6] (fun s5 u wr=>∃(j:Nat) (τr:Nat->Tag),j<=L.length/\u=.int .i64 j/\wr.ownsRow w.heap.size 70 2 s5 j (bn (eu (L.take j)))/\Hid (∀k,s5.ownBlock=some k->τr k=(0,0,0))/\Hid (Rp w τ wr τr sb s A)) (fun _ u _=>L.length-(intOf u).toNat)
 case atStart=>exact⟨0,τ,zby _,rfl,World.ownsRow_nil _ _ _ _,(fun k e=>(by cases e)),HW⟩
 case round=>
  obtain⟨j,τr,hj,rfl,hrow,HT,HR⟩:=hrel;by_cases hlt:j<L.length
  ·have hx:L[j]?=some L[j]:=zbw hlt;have Rq:Hid (eu (L.take (j+1))=eu (L.take j)++ [(L[j],F3)]):=by unfold Hid;rw[zb1 hlt,zT]
   have ck:=GR.out τr wr HR.out.ou j _ hx;generalize L[j]=x at *;obtain⟨av,gZ,hv⟩:=cy hrow;have alz:=HR.out.ou.size;have HX:Hid (∀(w2:af) (v2:aj) (o:Obj),w2.ownsRow w.heap.size 70 2 v2 (j+1) (bn (eu (L.take j))++ [.string x,.string ⟨#[]⟩])->(wr.alloc o).grownBy w2 (Value.slice av j gZ).ownBlock->(v2.ownBlock=(Value.slice av j gZ).ownBlock\/v2.ownBlock=some (wr.alloc o).heap.size)->
    w2.ownsRow w.heap.size 70 2 v2 (j+1) (bn (eu (L.take (j+1))))/\(∀k,v2.ownBlock=some k->fresh τr wr.heap.size k=(0,0,0))/\Rp w τ w2 (fresh τr wr.heap.size) sb s A):=fun w2 v2 o a1 a2 a3=>by
    rw[hv]at hrow HT;refine⟨by rw[Rq.out,sZ];exact a1,fun k hk=>?_,HR.out.rep.grown a2 HT.out (by decide),HR.out.ou.O8 a2 (fun k hk=>(aQ hrow k hk).1)⟩;rcases a3 with e|e
    ·rw[hk]at e;have:=HT.out k e.symm;unfold fresh;split
     ·rfl
     ·exact this
    ·rw[hk]at e;have:=Option.some.inj e;simp at this;unfold fresh;rw[if_pos (by omega)]
   generalize bn (eu (L.take j))=xs at *;subst hv;clear Rq hx;go_wp2_with (at_builtin;refine wpList_append_own_at _ rfl (.tmp 23) (.tmp 29) 68 rfl w.heap.size 70 ii _ 2 32 underlying68 oB iz0 iz1 iz2 rfl (by decide) (.slice av j gZ) j xs rfl (hrow.alloc _) ⟨_,0,none⟩ 1 1 [.string x,.string ⟨#[]⟩] rfl rfl (cell_two_new _ _ _ _) (by simp[Value.oneCell']) (by unfold maxLen;omega) (by omega) (by simp;omega) ?_;intro v2 w2 vR oG Ja hA2)
   obtain⟨r1,r2,r3⟩:=HX.out w2 v2 _ vR oG hA2;have R2:Hid _:=r2;have R3:Hid _:=r3;clear r2 r3 vR oG Ja hA2 HX;go_wp2_with fail
   go_roundw
   case rel=>exact⟨j+1,_,by omega,by go_num,r1,R2,R3⟩
   case measure=>simp[intOf];omega
  ·have YY:j=L.length:=by omega
   rw[YY,zb0]at hrow;clear YY;obtain⟨ig,O9,hv,hi1,hi2,Xz,-⟩:=cJ hrow (by omega);subst hv;have afU:ig<wr.heap.size:=(aQ hrow ig rfl).2;have afV:w.heap.size<=ig:=(aQ hrow ig rfl).1;have abp:τr ig=(0,0,0):=HT.out ig rfl;have Ew:Hid (wr.ownsRow w.heap.size 70 2 (.slice (some ⟨ig,0,none⟩) L.length O9) L.length (bn (dR L (s.ws.length+2) 0))):=by rw[zU];exact hrow
   have c5:=Gr (HR.out.rep.box (.cells #[.string kx,.string F3] 70)) (some ⟨wr.heap.size,0,none⟩) 1 (L:= [(kx,F3)]) (by decide) (by decide) (by decide) (fun x hx=>by simp at hx;subst hx;decide) (Ea (kx,F3)) (fun ib io e=>by cases e;rw[qZ];decide);have NS:Hid (Stp 2 τ w (retag τr wr.heap.size) (wr.alloc (.cells #[.string kx,.string F3] 70))):=HR.out.ou.box _;have HG5:Hid (retag τr wr.heap.size ig=(0,0,0)):=by unfold Hid retag;rw[if_neg (by omega)];exact abp
   have Pa:Hid ((wr.alloc (.cells #[.string kx,.string F3] 70)).ownsRow w.heap.size 70 2 (.slice (some ⟨ig,0,none⟩) L.length O9) L.length (bn (dR L (s.ws.length+2) 0))):=Ew.out.alloc _;have Pb:ig< (wr.alloc (.cells #[.string kx,.string F3] 70)).heap.size:=by simp;omega
   obtain⟨m,hm⟩:∃m:Nat,(s.ws.length:Int)+1=(m:Int):=⟨s.ws.length+1,by omega⟩
   rw[afQ (by omega),hm]at c5;unfold ptr at c5;have abq:kx=⟨#[120]⟩:=rfl;have XA:F3=⟨#[]⟩:=rfl;rw[abq,XA]at c5 NS Pa Pb;clear hrow Xz Ew;go_wp2_with fail
   refine c5.mono ?_;rintro e wb ⟨τb,B,rfl,hRb,hPb⟩;clear c5;have U6:Hid _:=xX (w':=wb) Pa.out (hPb.block ig Pb (by rw[HG5.out];decide));have HG6:Hid (τb ig=(0,0,0)):=(hPb.tag ig Pb).trans HG5.out;have XB:ig<wb.heap.size:=Nat.lt_of_lt_of_le Pb hPb.size;have HS6:Hid (Stp 2 τ w τb wb):=NS.out.trans hPb;clear hPb NS HG5 Pa Pb abp afU HR HT;have c6:=S8 hRb ((s.ws.length:Int)+1) (by omega) (by omega);rw[Ld,hm]at c6;unfold ptr at c6;clear hRb;go_wp2_with fail
   refine c6.mono ?_;rintro e wc ⟨C,rfl,hRc,UT⟩;clear c6;have U7:Hid _:=xX (w':=wc) U6.out (UT.block ig XB (by rw[HG6.out];decide));have HG7:Hid (τb ig=(0,0,0)):=HG6;have afY:ig<wc.heap.size:=Nat.lt_of_lt_of_le XB UT.size;have HS7:Hid (Rp w τ wc τb sb (xS s) C):=⟨hRc,HS6.out.trans UT⟩
   clear UT hRc HS6 U6 HG6 XB;go_wp2_with fail
   go_loopw [10] (fun u wr=>∃(j:Nat),j<=L.length/\u=.int .i64 j/\Hid (wr.ownsRow w.heap.size 70 2 (.slice (some ⟨ig,0,none⟩) L.length O9) L.length (bn (dR L (s.ws.length+2) j)))/\ig<wr.heap.size/\Hid (Rp w τ wr τb sb (xS s) C)) (fun u _=>L.length-(intOf u).toNat)
   case atStart=>exact⟨0,zby _,rfl,U7,afY,HS7⟩
   case round=>
    rename af=>SF
    obtain⟨j,hj,rfl,Ew,afZ,HR⟩:=hrel;by_cases hlt:j<L.length
    ·have hx:L[j]?=some L[j]:=zbw hlt;have Wh:Hid _:=zV L (s.ws.length+2) j _ hx;have ck:=GR.out τb SF HR.out.ou j _ hx;have hxz:=cZ (HG.out _ (zbz hlt));have xM:kg<SF.heap.size:=Nat.lt_of_lt_of_le ot HR.out.ou.size;generalize L[j]=x at *;have q0:(j:Int)< (L.length:Int):=by omega
     have q1:(0:Int)<=(j:Int):=by omega
     have q2:j<L.length:=hlt;have cd:=xu (w:=SF.drew) (s.ws.length+2) (by omega) (by omega);rw[show ((s.ws.length+2:Nat):Int)=(m:Int)+1 from by omega,<-IntWalk.i64_in ((m:Int)+1) (by omega)]at cd;have hdz:=uw (s.ws.length+2);generalize q9 (s.ws.length+2)=dg at *;have fz:=Ew.out.frozenAt (j*2+1);clear hx;go_wp2_with fail
     have UD:x.size+dg.size<=9223372036854775807:=by omega
     have xy:∀W:af,(Op.stringOp BinOp.add x dg).run prog W=.ok (.string (x++dg)) W:=by intro W;go_simp
     have hmid:(bn (dR L (s.ws.length+2) j)).length=L.length*2:=by rw[oV,Ce]
     obtain⟨old,hold⟩:∃old,(bn (dR L (s.ws.length+2) j))[j*2+1]?=some old:=⟨_,zbw (by rw[hmid];omega)⟩
     have af0:Hid ((bn (dR L (s.ws.length+2) j))[j*2+1]?=some old):=hold;clear hmid hold;go_region_held3 (fun W=>W.cell? ⟨kg,j,none⟩=some (.string x)) (first|(simp[*];done)|(rw[ij (by simp only;omega)];assumption)) ((go_at_call 25;refine cd.mono ?_;rintro e w6 ⟨rfl,KD⟩;have x6:=(KD.cell (p:=⟨kg,j,none⟩) xM).trans ck;have HR6:=xX (w':=w6) Ew.out (KD.block ig afZ);have fz6:=HR6.frozenAt (j*2+1);have y6:=(HR6.cellAt (j*2+1) (by omega)).trans af0.out))
     have abr:Hid ((w6.setCell ⟨ig,j*2+1,none⟩ (.string (x++dg))).ownsRow w.heap.size 70 2 (.slice (some ⟨ig,0,none⟩) L.length O9) L.length (bn (dR L (s.ws.length+2) (j+1)))):=by have:=(HR6.stored (j*2+1) (.string (x++dg))).1;rw[Wh.out]at this;exact this
     have HE':Hid (Rp w τ (w6.setCell ⟨ig,j*2+1,none⟩ (.string (x++dg))) τb sb (xS s) C):=by
      have abt:Below SF.heap.size SF w6:=⟨KD.os,KD.tape,KD.output,KD.size,KD.block⟩
      refine⟨(HR.out.rep.below abt).frame (fun k hk e=>⟨Below.heap_setCell _ _ _ _ (fun e'=>?_),rfl⟩),(HR.out.ou.trans (jB abt)).Wn (a:=⟨ig,j*2+1,none⟩) afV _⟩;have e'':k=ig:=e';rw[e'',HG7.out]at e;exact absurd e (by decide)
     have af1:ig< (w6.setCell ⟨ig,j*2+1,none⟩ (.string (x++dg))).heap.size:=by have:=KD.size;have h2:SF.drew.heap.size=SF.heap.size:=rfl;simp[World.setCell];omega
     clear xy HR6 fz6 y6 x6 KD Ew HR Wh cd fz;go_wp2_with fail
     go_roundw
     case rel=>exact⟨j+1,by omega,by go_num,abr,af1,HE'⟩
     case measure=>simp[intOf];omega
    ·have YY:j=L.length:=by omega
     subst YY;have Jx:(aX L (s.ws.length+2)).length=L.length:=by simp[aX]
     have HIt:Hid (wT SF (some ⟨ig,0,none⟩) (aX L (s.ws.length+2))):=fun k x hx=>by
      have hr:=Ew.out;rw[Cf]at hr;obtain⟨e1,e2⟩:=nB _ k x hx;have hk:=aM hx;rw[Jx]at hk;refine⟨ig,0,rfl,?_,?_⟩
      ·rw[show 0+k*2=k*2 from by omega,hr.cellAt (k*2) (by omega),e1]
      ·rw[show 0+k*2+1=k*2+1 from by omega,hr.cellAt (k*2+1) (by omega),e2]
     have abu:wU (aX L (s.ws.length+2)):=fun x hx=>by have:=gN ((vu HV.out).2.2 x hx);exact⟨by unfold maxLen;omega,by unfold maxLen;omega⟩
     have c4:=Gr HR.out.rep (some ⟨ig,0,none⟩) O9 (L:=aX L (s.ws.length+2)) (by rw[Jx];unfold maxLen;omega) (by rw[Jx];exact hi1) hi2 abu HIt.out (fun ib io e=>by cases e;rw[HG7.out];decide);rw[Jx,O7 (by omega) HV.out,show (s.ws.length:Int)+2=(m:Int)+1 from by omega]at c4;unfold ptr at c4;clear abu Ew;go_wp2_with fail
     refine c4.mono ?_;rintro e wd ⟨τd,D,rfl,hRd,YL⟩;clear c4;have HD:Hid (Rp w τ wd τd sb (Dr s L (fun _=>false)) D):=⟨hRd,HR.out.ou.trans YL⟩
     clear hRd YL HR HIt U7 HS7;go_wp2_with fail
     go_loopw [13] (fun u wr=>∃(j:Nat) (A':SA),j<=L.length/\u=.int .i64 j/\Hid (Rp w τ wr τd sb (Dr s L (iE s.parts (L.take j))) A')) (fun u _=>L.length-(intOf u).toNat)
     case atStart=>exact⟨0,D,zby _,rfl,by rw[List.take_zero,K7];exact HD⟩
     case round=>
      rename af=>wr3
      obtain⟨j,A3,hj,rfl,HR⟩:=hrel;by_cases hlt:j<L.length
      ·have hx:L[j]?=some L[j]:=zbw hlt;have Rq:Hid (L.take (j+1)=L.take j++ [L[j]]):=zb1 hlt;have HM:Hid (L[j]∈L):=zbz hlt;have ck:=GR.out τd wr3 HR.out.ou j _ hx;have xY:=HG.out _ (zbz hlt);have hxz:=cZ xY;generalize L[j]=x at *;have cp:=Jg HR.out.rep x (by unfold maxLen;omega);rw[xY]at cp;obtain⟨hp1,FX⟩:=HP.out;obtain⟨q1,q2⟩:=dW (s.parts:Int) x (by omega);obtain⟨p,hp⟩:∃p:Nat,partOf (s.parts:Int) x=p:=⟨(partOf (s.parts:Int) x).toNat,by omega⟩
       have hpP:p<4:=by omega
       simp only[if_true]at cp;rw[show (Dr s L (iE s.parts (L.take j))).parts=s.parts from rfl,hp]at cp;have HON:Hid (iE s.parts (L.take (j+1))=put (iE s.parts (L.take j)) p):=by unfold Hid;rw[Rq.out];exact GQ hp
       have HPr:Hid _:=S7 (s:=s) (L:=L) (pf:=iE s.parts (L.take j)) hlen HM.out hp;unfold ptr at cp;clear hp q1 q2 hx hp1 FX;go_wp2_with fail
       refine cp.mono ?_;rintro e we ⟨rfl,AF⟩;clear cp;have hRe:=HR.out.rep.below AF;have HSe:Hid (Stp 2 τ w τd we):=HR.out.ou.trans (jB AF);have cq:=xp hRe ((s.ws.length:Int)+2) p (by omega) (by omega) (by omega) (by omega);rw[HPr.out,<-HON.out,show (s.ws.length:Int)+2=(m:Int)+1 from by omega]at cq;unfold ptr at cq;clear HR AF hRe HPr ck;cases hc:iE s.parts (L.take j) p with
       |true=>
        rw[hc]at cq;simp only[if_true]at cq;clear hc;go_wp2_with fail
        refine cq.mono ?_;rintro e wf ⟨F,rfl,hRf,Sy⟩;clear cq;have HF:Hid (Rp w τ wf τd sb (Dr s L (iE s.parts (L.take (j+1)))) F):=⟨hRf,HSe.out.trans Sy⟩
        clear hRf Sy;go_wp2_with fail
        go_roundw
        case rel=>exact⟨j+1,F,by omega,by go_num,HF⟩
        case measure=>simp[intOf];omega
       |false=>
        rw[hc]at cq;simp only[Bool.false_eq_true,if_false]at cq;clear hc;go_wp2_with fail
        refine cq.mono ?_;rintro e wf ⟨F,rfl,hRf,Sy⟩;clear cq;have HF:Hid (Rp w τ wf τd sb (Dr s L (iE s.parts (L.take (j+1)))) F):=⟨hRf,HSe.out.trans Sy⟩
        clear hRf Sy;go_wp2_with fail
        go_roundw
        case rel=>exact⟨j+1,F,by omega,by go_num,HF⟩
        case measure=>simp[intOf];omega
      ·have YY:j=L.length:=by omega
       rw[YY,zb0]at HR;go_wp2_with fail
       go_ret;exact⟨τd,A3,gX (by omega),HR.out.rep,HR.out.ou⟩
end
end
section
def fQ(n:Int)(kv:aj)(f:Nat->Bool):Array aj:=#[.int .i64 n,kv,.bool (f 0),.bool (f 1),.bool (f 2),.bool (f 3)]
def qX{n:Int}(hp:p<4):(fQ n kv f)[2+p]?=some (.bool (f p)):=by
 match p,hp with
 | 0,_=>rfl
 | 1,_=>rfl
 | 2,_=>rfl
 | 3,_=>rfl
def DS{n:Int}(hp:p<4):(fQ n kv f).setIfInBounds (2+p) (.bool true)=fQ n kv (put f p):=by
 match p,hp with
 | 0,_=>simp[fQ,put]
 | 1,_=>simp[fQ,put]
 | 2,_=>simp[fQ,put]
 | 3,_=>simp[fQ,put]
def NI(s:MS)(n:Int)(m:MW)(p:Nat):MS:=uq s n {m with comm:=put m.comm p}
def Le{n:Int}(h:bI s n=some m):s.ws[(n-1).toNat]?=some m/\m.dP=false/\1<=n/\n<=s.ws.length:=by
 unfold bI at h;split at h
 ·cases h
 ·rename_i hb;split at h
  ·rename_i m' hm;split at h
   ·cases h
   ·rename_i hc;cases h;exact⟨hm,by simpa using hc,by omega,by omega⟩
  ·cases h
def Lf{n:Int}(hf:bI s n=some m)(ho:aJ s.parts m.items p=true)(ha:fo s.parts m=true):eE s n p=(if m.comm p then 10 else 0,NI s n m p):=by
 unfold eE;rw[hf];simp only[ho,ha,Bool.true_eq_false,if_false,Int.toNat_natCast];cases hc:m.comm p with
 |true=>
  have e1:put m.comm p=m.comm:=by funext q;unfold put;split<;>simp_all
  have:NI s n m p=s:=by
   unfold NI uq;rw[e1];have:=(Le hf).1;obtain⟨hk,hm⟩:=List.getElem?_eq_some_iff.1 this;have e2:s.ws.set (n-1).toNat m=s.ws:=by rw[<-hm];simp
   show {s with ws:=s.ws.set (n-1).toNat m}=s;rw[e2]
  simp[this]
 |false=>simp[NI]
section
variable {w:af}{τ:Nat->Tag}{sb:Nat}{s:MS}{A:SA}
def DT(hR:a9 w τ 2 sb s A)(xb kb:Nat)(X:Array aj)(hX:bg w xb X 32)(hX0:X[0]?=some (ptr sb))(hxt:(τ xb).1≠2)(n:Nat)(hn:n<=1000)(kv:aj)(f:Nat->Bool)(hK:bg w kb (fQ n kv f) 48)(BQ:(τ kb).1≠2)
 (key:ah) (hg:bK key=true) (p:Nat) (hp:partOf s.parts key=p) {m:MW} (hf:bI s n=some m) (ho:aJ s.parts m.items p=true) (ha:fo s.parts m=true) (SR:m.comm p=f p):
 Calls prog 20 #[ptr xb,ptr kb,.string key] w fun e w'=>∃A' w1,e=.returned (.bool true)/\a9 w1 τ 2 sb (NI s n m p) A'/\Stp 2 τ w τ w1/\w'=w1.setCell ⟨kb,2+p,none⟩ (.bool true):=by
 have hp1:=hR.ok.p1;have FX:=hR.ok.p4;obtain⟨q1,q2⟩:=dW (s.parts:Int) key (by omega);have hpP:p<4:=by omega
 have hkz:=cZ hg;have cp:=Jg hR key (by unfold maxLen;omega);rw[hg,hp]at cp;simp only[if_true]at cp;have hCM:=Lf hf ho ha;rw[SR]at hCM;have HCM:Hid (eE s n p=(if f p then 10 else 0,NI s n m p)):=hCM;have HR:Hid (a9 w τ 2 sb s A):=hR;have HX:Hid (bg w xb X 32):=hX;have HK:Hid (bg w kb (fQ n kv f) 48):=hK;have x0:w.cell? ⟨xb,0,none⟩=some (.pointer (some ⟨sb,0,none⟩)):=hX.cell hX0;have HX0:Hid (X[0]?=some (.pointer (some ⟨sb,0,none⟩))):=hX0;unfold ptr at cp⊢;clear hR hf ho ha SR hCM hp q1 q2 hg hX hK hX0;go_enter func20,ntmps20;go_wp2_with fail
 refine cp.mono ?_;rintro e w1 ⟨rfl,je⟩;clear cp x0;have hR1:=HR.out.below je;have qp:Stp 2 τ w τ w1:=jB je;have hx1:bg w1 xb X 32:=HX.out.of_eq (je.block xb HX.out.lt);have hk1:bg w1 kb (fQ n kv f) 48:=HK.out.of_eq (je.block kb HK.out.lt);have x1:w1.cell? ⟨xb,0,none⟩=some (.pointer (some ⟨sb,0,none⟩)):=hx1.cell HX0.out;have k1:w1.cell? ⟨kb,0,none⟩=some (.int .i64 (n:Int)):=hk1.cell (o:=0) rfl;have abx:a9 w1.drew τ 2 sb s A:=hR1.below ((Below.refl w1.heap.size w1).drew);have c2:=Jk abx (n:Int) (p:Int) (by omega) (by omega) (by omega) (by omega);rw[HCM.out]at c2;unfold ptr at c2;have xm:Hid (Stp 2 τ w τ w1):=qp;have HX1:Hid (bg w1 xb X 32):=hx1;have HK1:Hid (bg w1 kb (fQ n kv f) 48):=hk1;have hxl:=hx1.lt;have ot:=hk1.lt;clear hR1 abx qp hx1 hk1 je;cases MT:f p with
 |true=>
  rw[MT]at c2;simp only[if_true]at c2;have HFP:Hid (f p=true):=MT;clear MT;go_wp2_with fail
  go_region_held3 (fun W=>W.cell? ⟨xb,0,none⟩=some (.pointer (some ⟨sb,0,none⟩))/\W.cell? ⟨kb,0,none⟩=some (.int .i64 (n:Int))) (simp[*]) ((go_at_call 28;refine c2.mono ?_;rintro e w3 ⟨A3,rfl,DU,vS⟩;have S3:=HX1.out.of_eq (vS.block xb hxl hxt);have Kw:=HK1.out.of_eq (vS.block kb ot BQ);have y1:=S3.cell HX0.out;have y2:=Kw.cell (o:=0) (v:=.int .i64 (n:Int)) rfl))
  have on3:=Kw.cell (qX hpP);have fz3:=Kw.frozen (2+p);rw[HFP.out]at on3;have HR3:Hid (a9 w3 τ 2 sb (NI s n m p) A3):=DU;have BR:Hid (Stp 2 τ w τ w3):=xm.out.trans ⟨vS.os,vS.tape,vS.output,vS.size,vS.tag,vS.block⟩;have g2:(p:Int)<4:=by omega
  clear DU vS S3 Kw y1 y2 c2;go_wp2_with fail
  go_ret;exact⟨A3,w3,rfl,HR3.out,BR.out,rfl⟩
 |false=>
  rw[MT]at c2;simp only[Bool.false_eq_true,if_false]at c2;have HFP:Hid (f p=false):=MT;clear MT;go_wp2_with fail
  go_region_held3 (fun W=>W.cell? ⟨xb,0,none⟩=some (.pointer (some ⟨sb,0,none⟩))/\W.cell? ⟨kb,0,none⟩=some (.int .i64 (n:Int))) (simp[*]) ((go_at_call 28;refine c2.mono ?_;rintro e w3 ⟨A3,rfl,DU,vS⟩;have S3:=HX1.out.of_eq (vS.block xb hxl hxt);have Kw:=HK1.out.of_eq (vS.block kb ot BQ);have y1:=S3.cell HX0.out;have y2:=Kw.cell (o:=0) (v:=.int .i64 (n:Int)) rfl))
  have on3:=Kw.cell (qX hpP);have fz3:=Kw.frozen (2+p);rw[HFP.out]at on3;have HR3:Hid (a9 w3 τ 2 sb (NI s n m p) A3):=DU;have BR:Hid (Stp 2 τ w τ w3):=xm.out.trans ⟨vS.os,vS.tape,vS.output,vS.size,vS.tag,vS.block⟩;have g2:(p:Int)<4:=by omega
  clear DU vS S3 Kw y1 y2 c2;go_wp2_with fail
  go_ret;exact⟨A3,w3,rfl,HR3.out,BR.out,rfl⟩
end
end
section
section
variable {P p:Nat}{M:Int}{cm:Nat->Bool}{k:Nat}{rs:List MR}
def Nf(n:Nat)(x:ah):∀{L:List ah},x∈L->(aX L n).find? (fun y=>decide (y.1=x))=some (x,x++q9 n):=by
 intro L;induction L with
 |nil=>intro h;cases h
 |cons y r ih=>
  intro h;show List.find? _ ((y,y++q9 n):: aX r n)=_;by_cases e:y=x
  ·subst e;simp
  ·rw[List.find?_cons_of_neg (by simpa using e)];rcases List.mem_cons.1 h with h|h
   ·exact absurd h.symm e
   ·exact ih h
def NJ(hr:rs[i]?=some r)(hf:r.fin=false):ed rs ((i:Int)+1)=some r:=by have hi:=aM hr;unfold ed;rw[if_neg (by omega),show ((i:Int)+1-1).toNat=i from by omega,hr];simp[hf]
end
end
section
structure FQ where
 kb:Nat
 n:Nat
 kg:Nat
 cap:Nat
 ks:List ah
structure BM(w:af)(d:FQ):Prop where
 num:w.cell? ⟨d.kb,0,none⟩=some (.int .i64 d.n)
 keys:w.cell? ⟨d.kb,1,none⟩=some (.slice (some ⟨d.kg,0,none⟩) d.ks.length d.cap)
 key:∀(j:Nat) (x:ah),d.ks[j]?=some x->w.cell? ⟨d.kg,j,none⟩=some (.string x)
 FT:d.ks.length<=8
 lo:1<=d.n
 hi:d.n<=1000
structure sL(w:af)(a:Option aA)(D:List FQ):Prop where
 at_:∀(i:Nat) (d:FQ),D[i]?=some d->∃b,a=some ⟨b,0,none⟩/\w.cell? ⟨b,i,none⟩=some (ptr d.kb)
 kn:∀(i:Nat) (d:FQ),D[i]?=some d->BM w d
 FT:D.length<=1000
def Kg(D:List FQ)(n:Nat):Option FQ:=D.find? fun d=>decide (d.n=n)
def ZZ:Option FQ->aj
 |some d=>ptr d.kb
 |none=>.pointer none
section
variable {w w':af}{d:FQ}{D:List FQ}{a:Option aA}
def BM.below(h:BM w d)(hB:Below w.heap.size w w'):BM w' d:=
 ⟨(hB.cell (p:=⟨d.kb,0,none⟩) (zbx w _ h.num)).trans h.num,(hB.cell (p:=⟨d.kb,1,none⟩) (zbx w _ h.keys)).trans h.keys,fun j x hx=>(hB.cell (p:=⟨d.kg,j,none⟩) (zbx w _ (h.key j x hx))).trans (h.key j x hx),h.FT,h.lo,h.hi⟩
def sL.below(h:sL w a D)(hB:Below w.heap.size w w'):sL w' a D:=
 ⟨fun i d hd=>by obtain⟨b,e,hc⟩:=h.at_ i d hd;exact⟨b,e,(hB.cell (p:=⟨b,i,none⟩) (zbx w _ hc)).trans hc⟩,fun i d hd=>(h.kn i d hd).below hB,h.FT⟩
def SD{n:Nat}(h:Kg D n=some d):d∈D/\d.n=n:=⟨List.mem_of_find?_eq_some h,by simpa using List.find?_some h⟩
def Gs{key:ah}(hx:L[j]?=some x):cg (L.take (j+1)) key=(cg (L.take j) key || decide (x=key)):=by obtain⟨hj,rfl⟩:=List.getElem?_eq_some_iff.1 hx;unfold cg;rw[zb1 hj,List.any_append];simp only[List.any_cons,List.any_nil,Bool.or_false]
def BZ(h:BM w d)(key:ah):Calls prog 46 #[ptr d.kb,.string key] w fun e w'=>e=.returned (.bool (cg d.ks key))/\Below w.heap.size w w':=by
 obtain⟨kb,n,kg,cap,ks⟩:=d;obtain⟨c0,c1,c2,FT,-,-⟩:=h;simp only at c0 c1 c2 FT⊢;have ot:=zbx w _ c1;unfold ptr;have HC2:Hid (∀(j:Nat) (x:ah),ks[j]?=some x->w.cell? ⟨kg,j,none⟩=some (.string x)):=c2;clear c0 c2;go_enter func46,ntmps46;go_wp2_with fail
 go_loopw [5] (fun u wr=>∃j:Nat,j<=ks.length/\u=.int .i64 j/\Below w.heap.size w wr/\Hid (cg (ks.take j) key=false)) (fun u _=>ks.length-(intOf u).toNat)
 case atStart=>exact⟨0,zby _,rfl,Below.refl _ _,by simp[Hid,cg]⟩
 case round=>
  obtain⟨j,hj,rfl,hB,HN⟩:=hrel;have SE:=(hB.cell (p:=⟨kb,1,none⟩) ot).trans c1;by_cases hlt:j<ks.length
  ·have hx:ks[j]?=some ks[j]:=zbw hlt;have c2:=HC2.out j _ hx;have UU:=(hB.cell (p:=⟨kg,j,none⟩) (zbx w _ c2)).trans c2;have hst:=Gs (key:=key) hx;rw[HN.out,Bool.false_or]at hst;have HM:Hid (ks[j]=key->cg ks key=true):=fun e=>gp.2 (e▸zbz _);generalize ks[j]=x at *;have q0:(j:Int)< (ks.length:Int):=by omega
   by_cases he:x=key
   ·have hb:=pS he;have HT:Hid (cg ks key=true):=HM.out he;clear he hst hx c2 HM HN;go_wp2_with fail
    go_ret;exact⟨cL (by rw[HT.out]),hB⟩
   ·have hb:=pU he;have Wf:Hid (cg (ks.take (j+1)) key=false):=by unfold Hid;rw[hst];simp[he]
    clear he hst hx c2 HM HN;go_wp2_with fail
    go_roundw
    case rel=>exact⟨j+1,by omega,by go_num,hB,Wf⟩
    case measure=>simp[intOf];omega
  ·have hjn:j=ks.length:=by omega
   subst hjn;have HT:Hid (cg ks key=false):=by have:=HN.out;rwa [zb0]at this
   clear HN;go_wp2_with fail
   go_ret;exact⟨cL (by rw[HT.out]),hB⟩
def Oh{xb cap:Nat}(hx:w.cell? ⟨xb,1,none⟩=some (.slice a D.length cap))(h:sL w a D)(n:Nat)(hn:n<=1000):Calls prog 45 #[ptr xb,.int .i64 n] w fun e w'=>e=.returned (ZZ (Kg D n))/\Below w.heap.size w w':=by
 have hxl:=zbx w _ hx;have FT:=h.FT;unfold ptr;have H:Hid (sL w a D):=h;clear h;go_enter func45,ntmps45;go_wp2_with fail
 go_loopw [5] (fun u wr=>∃j:Nat,j<=D.length/\u=.int .i64 j/\Below w.heap.size w wr/\Hid (∀d∈D.take j,d.n≠n)) (fun u _=>D.length-(intOf u).toNat)
 case atStart=>exact⟨0,zby _,rfl,Below.refl _ _,fun d hd=>by simp at hd⟩
 case round=>
  obtain⟨j,hj,rfl,hB,HN⟩:=hrel;have SE:=(hB.cell (p:=⟨xb,1,none⟩) hxl).trans hx;by_cases hlt:j<D.length
  ·have hd:D[j]?=some D[j]:=zbw hlt;obtain⟨b,rfl,c2⟩:=H.out.at_ j _ hd;have c3:=(H.out.kn j _ hd).num;have hi:=(H.out.kn j _ hd).hi;unfold ptr at c2;have UU:=(hB.cell (p:=⟨b,j,none⟩) (zbx w _ c2)).trans c2;have c3':=(hB.cell (p:=⟨D[j].kb,0,none⟩) (zbx w _ c3)).trans c3;have HT:Hid (D[j].n=n->ZZ (Kg D n)=.pointer (some ⟨D[j].kb,0,none⟩)):=fun e=>by
    have:Kg D n=some D[j]:=by have h1:=HN.out;unfold Kg;rw[List.find?_eq_some_iff_getElem];refine⟨by simpa using e,j,hlt,rfl,fun i hi=>?_⟩;have:=h1 D[i] (List.mem_take_iff_getElem.2 ⟨i,by omega,rfl⟩);simpa using this
    rw[this];rfl
   have HS:Hid (D[j].n≠n->∀d∈D.take (j+1),d.n≠n):=fun e d hd=>by
    rw[zb1 hlt]at hd;rcases List.mem_append.1 hd with h|h
    ·exact HN.out d h
    ·simp at h;subst h;exact e
   generalize D[j]=d at *;obtain⟨kb,m,kg,bX,ks⟩:=d;simp only at c2 c3 UU c3' hi HT HS;have q0:(j:Int)< (D.length:Int):=by omega
   clear c2 c3 hd HN;by_cases he:m=n
   ·subst he;have HV:Hid _:=HT.out rfl;clear HT HS;go_wp2_with fail
    go_ret;exact⟨by rw[HV.out];rfl,hB⟩
   ·have he':((m:Int)==(n:Int))=false:=by simp;omega
    have Wf:Hid _:=HS.out he;clear HT HS he;go_wp2_with fail
    go_roundw
    case rel=>exact⟨j+1,by omega,by go_num,hB,Wf⟩
    case measure=>simp[intOf];omega
  ·have hjn:j=D.length:=by omega
   subst hjn;have HT:Hid (ZZ (Kg D n)=.pointer none):=by
    have:Kg D n=none:=by unfold Kg;rw[List.find?_eq_none];intro d hd;have:=HN.out d (by rwa [zb0]);simpa using this
    unfold Hid;rw[this];rfl
   clear HN;go_wp2_with fail
   go_ret;exact⟨by rw[HT.out];rfl,hB⟩
end
section
variable {P:aB}{md:Region.Mode}{ops:Array Oper}{Q:Exit->Act->af->Prop}{S:af->Prop}{i fuel:Nat}{oi:Oper}{v:aj}{listed:Array Bool}{a:Act}{w:af}
def VP(hi:ops[i]?=some oi)(hy:∀W,S W->(execOp a.eval oi).run P W=.ok (.value v) W)(hk:(Region.noSelect ops && Region.free md ops listed i &&(Region.ready md ops listed).contains i)=true:=by kernel_rfl)(hQ:∀c a w,Q (.panic c) (a.put oi.dst v) w->Q (.panic c) a w:=by exact fun _ _ _ h=>h)(hw:Region.wanted oi (yielded ops a.tmps)=true:=by rfl)
 (hS:S w:=by assumption) (h:wpAnyH P md ops Q S fuel (listed.setIfInBounds i true) (a.put oi.dst v) w):wpAnyH P md ops Q S (fuel+1) listed a w:=by simp only[Bool.and_eq_true]at hk;exact wpAnyH_take hi hk.1.1 hk.1.2 hk.2 hQ (.inl ⟨hw,hy⟩) hS h
def AJ(hi:ops[i]?=some oi)(hk:(Region.noSelect ops && Region.free md ops listed i &&(Region.ready md ops listed).contains i)=true:=by kernel_rfl)(hQ:∀c a w,Q (.panic c) (a.put oi.dst undef) w->Q (.panic c) a w:=by exact fun _ _ _ h=>h)(hw:Region.wanted oi (yielded ops a.tmps)=false:=by rfl)
 (hS:S w:=by assumption) (h:wpAnyH P md ops Q S fuel (listed.setIfInBounds i true) (a.put oi.dst undef) w):wpAnyH P md ops Q S (fuel+1) listed a w:=by simp only[Bool.and_eq_true]at hk;exact wpAnyH_take hi hk.1.1 hk.1.2 hk.2 hQ (.inr ⟨hw,rfl⟩) hS h
end
end
section
section
variable {w0 w w':af}{τ τ':Nat->Tag}{sb xb lb kb n:Nat}{s s':MS}{A A':SA}{lv:Nat->Nat}{kv:aj}{f:Nat->Bool}
def NL(hE:Env w0 w τ)(ht:(τ q).1=1):w0.heap.size<=q:=by
 rcases Nat.lt_or_ge q w0.heap.size with e|e
 ·rw[hE.lm q e]at ht;cases ht
 ·exact e
end
end
section
def Ke:∀b,b<64->∀x∈iM b,x≠kx:=by decide+kernel
section
variable {P:Nat}{M:Int}{bf:Nat->Nat}{k:Nat}{L:List ah}{v:ah->Nat}
end
end
end Go.Proofs.YteoahlieielcdaaGreat
