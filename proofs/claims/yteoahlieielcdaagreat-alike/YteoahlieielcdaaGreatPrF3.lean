import Derived.Test.YteoahlieielcdaaGreatPr21
set_option linter.all false
set_option maxHeartbeats 40000000
set_option maxRecDepth 100000
namespace Go.Proofs.YteoahlieielcdaaGreat
open Go.Proofs.Tryz
open Go Go.RowKit Go.MuLone
abbrev zbp:=@RowKit.Below.heap_alloc
abbrev zbq:=@List.getElem?_eq_getElem
abbrev zbr:=@List.take_succ_eq_append_getElem
variable{rs:List MR}{i aD b P p:Nat}{r:MR}{x:ByteArray}{w0 w w' w2:World}{τ τ' τ0:Nat->Tag}{s:MS}{A:SA}{L:List ByteArray}{o:Obj}{rb:Option Nat}
section
open Go.Maps (Keyed)
theorem PN:(prog.info? 62).map (fun i=>(i.zero,i.size,i.bytes))=some (some (.agg #[.string ByteArray.empty,.int .i64 0,.string ByteArray.empty]),3,40):=by kernel_rfl
theorem Fa(n:Nat)(hn:n<=8)(W:World):∃M:Array Value,M.size=n*3/\(Instr.makeSlice 42 (.int .i64 (n:Int)) (.int .i64 (n:Int))).run prog W=.ok (.slice (some ⟨W.heap.size,0,none⟩) n n) (W.alloc (.cells M 62)):=by obtain⟨i0,hi,hz0,LK,OL⟩:=info_parts PN;have h:=run_make (P:=prog) W 42 62 i0 _ underlying42 hi hz0 .i64 .i64 (n:Int) (n:Int) (by omega) (by omega) (by rw[OL];omega) (by omega);refine⟨_,?_,by simpa using h⟩;rw[size_madeCells,LK]
section
variable {w:World}{A:SA}
end
end
section
open Go.Maps (Keyed)
def Fc(s:MS)(i:Nat)(r:MR):MS:={s with rs:=s.rs.set i {r with fin:=true}}
theorem AW(hr:rs[i]?=some r)(hf:r.fin=false):cj (rs.set i {r with fin:=true})+1=cj rs:=by
 unfold cj;induction rs generalizing i with
 |nil=>simp at hr
 |cons a l ih=>
  cases i with
  |zero=>
   simp at hr;subst hr;simp[hf]
  |succ i=>
   have:=ih (by simpa using hr);simp only[List.set_cons_succ,List.countP_cons];omega
theorem BV(hr:rs[i]?=some r)(n:Int):fO (rs.set i {r with fin:=true}) n=if n=(i:Int)+1 then none else fO rs n:=by
 have hi:=aE hr;unfold fO;simp only[List.length_set];by_cases e:n=(i:Int)+1
 ·subst e;rw[if_pos rfl,if_neg (by omega),show ((i:Int)+1-1).toNat=i from by omega];simp[hi]
 ·rw[if_neg e];split
  ·rfl
  ·rw[List.getElem?_set_ne (by omega)]
theorem IU{B:SB}(hr:rs[i]?=some r):dc (rs.set i {r with fin:=true}) B=del (dc rs B) (.int .i64 ((i:Int)+1)):=by
 funext kl;by_cases e:kl=.int .i64 ((i:Int)+1)
 ·subst e;rw[mQ (by trivial)];simp[dc,BV hr]
 ·rw[kS e];cases kl with
  |int k n=>
   cases k<;>try rfl
   have hn:n≠(i:Int)+1:=fun e'=>e (by rw[e']);simp only[dc,BV hr,if_neg hn]
  |_=>rfl
section
variable {w:World}{τ:Nat->Tag}{aD b:Nat}{s:MS}{A:SA}
theorem aW.fin(h:aW w τ aD b s A){i:Nat}{r:MR}(hr:s.rs[i]?=some r)(jr:r.fin=false){w':World}(hne:∀k,k≠A.R.rm->w'.heap[k]?=w.heap[k]?)
 (hM:aK w' prog 3 A.R.rm (del (dc s.rs A.R) (.int .i64 ((i:Int)+1)))):aW w' τ aD b (Fc s i r) A:=by
 have hi:=aE hr;have dK:∀{q:Nat} {rq:MR},(s.rs.set i {r with fin:=true})[q]?=some rq->rq.fin=false->q≠i/\s.rs[q]?=some rq:=by
  intro q rq hq hf;rcases jU hq with⟨rfl,rfl⟩|⟨e,hq⟩
  ·cases hf
  ·exact⟨fun e'=>e e'.symm,hq⟩
 have hne':∀{k g g':Nat},τ k=(aD,g,g')->g≠10->w'.heap[k]?=w.heap[k]? :=fun ht hg=>hne _ (fun e=>by rw[e,h.reads.gS]at ht;simp at ht;omega);have:=h.IC (w':=w') (τ':=τ) (rs':=s.rs.set i {r with fin:=true}) (B':=A.R) (fun k hk h1 h2 h3=>⟨hne _ (fun e=>by rw[e,h.reads.gS]at h3;simp at h3),rfl⟩) h.tag
  ⟨h.ok.p1,h.ok.p4,h.ok.len,h.ok.items,fun q rq hq=>?_,?_⟩ ⟨h.told.sv,fun q rq hq hf=>?_,fun q rq j hq ha=>?_,fun q rq j x hq hf hx=>?_,fun q rq j x hq hf hx hv=>?_,fun q rq j x hq hf hx hv=>?_,fun q rq j x hq hf hx hv=>?_⟩ ?_ ⟨?_,h.reads.gS,fun q rq hq hf=>?_,fun q rq hq hf=>?_,fun q rq hq hf=>?_,fun q rq hq hf=>?_,fun q rq j x hq hf hx=>?_,fun q rq j x hq hf hx=>?_,fun q rq hq hf=>?_,fun q rq k hq hf hk=>?_⟩
 ·exact this
 ·rcases jU hq with⟨rfl,rfl⟩|⟨_,hq⟩
  ·exact h.ok.keys i r hr
  ·exact h.ok.keys q rq hq
 ·have:=AW hr jr;have h50:=h.ok.opn;show cj (s.rs.set i {r with fin:=true})<=50;omega
 ·exact h.told.no q rq (dK hq hf).2 hf
 ·rcases jU hq with⟨rfl,rfl⟩|⟨_,hq⟩
  ·exact h.told.un i r j hr ha
  ·exact h.told.un q rq j hq ha
 ·exact h.told.hv q rq j x (dK hq hf).2 hf hx
 ·exact h.told.tv q rq j x (dK hq hf).2 hf hx hv
 ·exact h.told.t0 q rq j x (dK hq hf).2 hf hx hv
 ·exact h.told.fm q rq j x (dK hq hf).2 hf hx hv
 ·simp only[List.length_set];exact h.blk.of_eq (hne' h.tag (by omega))
 ·rw[IU hr];exact hM
 ·have h1:=(dK hq hf).2;exact(h.reads.rd q rq h1 hf).of_eq (hne' (h.reads.iI q rq h1 hf) (by omega))
 ·exact h.reads.iI q rq (dK hq hf).2 hf
 ·have h1:=(dK hq hf).2;exact(h.reads.u5 q rq h1 hf).of_eq (hne' (h.reads.l5 q rq h1 hf) (by omega))
 ·exact h.reads.l5 q rq (dK hq hf).2 hf
 ·have h1:=(dK hq hf).2;exact(h.reads.q q rq j x h1 hf hx).of_eq (hne' (h.reads.lA q rq j x h1 hf hx) (by omega))
 ·exact h.reads.lA q rq j x (dK hq hf).2 hf hx
 ·have h1:=(dK hq hf).2;exact ak (h.reads.ky q rq h1 hf) (fun k hk=>hne' (h.reads.dF q rq k h1 hf hk) (by omega))
 ·exact h.reads.dF q rq k (dK hq hf).2 hf hk
theorem yQ{l:List KV}{v:ByteArray}(hg:∀y∈l,gj y=true)(h:jg l x=some v):v.size<=64:=by unfold jg at h;obtain⟨y,hy,rfl⟩:=Option.map_eq_some_iff.1 h;exact(gO (hg y (List.mem_of_find?_eq_some hy))).2.2
end
end
section
structure Env(w0 w:World)(τ:Nat->Tag):Prop where
 below:Below w0.heap.size w0 w
 yt:∀k,k<w0.heap.size->τ k=(0,0,0)
theorem Env.nG(h:Env w0 w τ)(hs:Stp aD τ w τ' w')(VB:aD≠0):Env w0 w' τ':=by
 have hsz:=h.below.size;refine⟨⟨hs.os.trans h.below.os,hs.tape.trans h.below.tape,hs.output.trans h.below.output,Nat.le_trans hsz hs.size,fun k hk=>?_⟩,fun k hk=>?_⟩
 ·exact(hs.block k (by omega) (by rw[h.yt k hk];exact fun e=>VB e.symm)).trans (h.below.block k hk)
 ·rw[hs.tag k (by omega),h.yt k hk]
theorem Env.below'(h:Env w0 w τ)(hb:Below w.heap.size w w'):Env w0 w' τ:=⟨h.below.trans (hb.mono h.below.size),h.yt⟩
def retag(τ:Nat->Tag)(n:Nat):Nat->Tag:=fun k=>if k=n then(0,0,0)else τ k
theorem Env.alloc{w0 w:World}{τ:Nat->Tag}(h:Env w0 w τ)(o:Obj):Env w0 (w.alloc o) (retag τ w.heap.size):=by have hsz:=h.below.size;refine⟨h.below.alloc hsz _,fun k hk=>?_⟩;unfold retag;rw[if_neg (by omega)];exact h.yt k hk
theorem aW.box(h:aW w τ aD b s A)(o:Obj):aW (w.alloc o) (retag τ w.heap.size) aD b s A:=
 h.frame (fun k hk _=>⟨zbp _ _ _ hk,by unfold retag;rw[if_neg (by omega)]⟩)
theorem aW.other{Zf:Nat}(h:aW w τ aD b s A)(hs:Stp Zf τ w τ' w')(hne:aD≠Zf):aW w' τ' aD b s A:=
 h.frame (fun k hk e=>⟨hs.block k hk (by rw[e];exact hne),hs.tag k hk⟩)
section
variable {w:World}
theorem qv(c n:Int)(w:World)(h1: -9223372036854775808<=c)(h2:c<=9223372036854775807)(hn:0<n)(hn':n<=9223372036854775807):
 Calls prog 18 #[.int .i64 c,.int .i64 n] w fun e w'=>e=.returned (.int .i64 (eY c n))/\w'=w:=by
 by_cases h:c<0
 ·go_enter func18,ntmps18;go_wp2;go_ret;exact⟨iu (by rw[<-N7 c n h]),rfl⟩
 ·go_enter func18,ntmps18;go_wp2;go_ret;exact⟨iu (by rw[<-N8 c n (by omega)]),rfl⟩
def kK:ByteArray:=⟨#[107]⟩
def kV:ByteArray:=⟨#[118]⟩
def t0:MS:={parts:=1,mode:=1,ws:= [],rs:= []}
def t1:MS:=(jD t0 [(kK,kV)]).2.2
def t2:MS:=(ez t1 1 0).2
def t3:MS:=(eH t2 1 0).2
def t4:MS:=(py t3 [kK]).2.2
def t5:MS:=(lT t4 1 kK).2
theorem Zg:jD t0 [(kK,kV)]=(1,0,t1):=by rfl
theorem Zh:ez t1 1 0=(0,t2):=by rfl
theorem Zi:eH t2 1 0=(0,t3):=by rfl
theorem Zj:py t3 [kK]=(1,0,t4):=by rfl
theorem Zk:lT t4 1 kK=(0,t5):=by rfl
def Zl:MR:=(t5.rs[0]?).getD (gq [])
theorem RO:gN t5 1=some Zl:=by rfl
theorem N9:iG Zl=true:=by rfl
theorem JW:Zl.keys= [kK]:=by rfl
theorem EM(x:KV):xH (w.alloc (.cells #[.string x.1,.string x.2] 70)) (some ⟨w.heap.size,0,none⟩) [x]:=by
 intro k y hy;match k,hy with
 | 0,hy=>
   simp at hy;subst hy;exact⟨w.heap.size,0,rfl,(aT.new w _ _).cell (o:=0) rfl,(aT.new w _ _).cell (o:=1) rfl⟩
theorem Ob(x:ByteArray):CG (w.alloc (.cells #[.string x] 9)) (some ⟨w.heap.size,0,none⟩) [x]:=by
 intro k y hy;match k,hy with
 | 0,hy=>
   simp at hy;subst hy;exact⟨w.heap.size,0,rfl,(aT.new w _ _).cell (o:=0) rfl⟩
theorem rW(τ:Nat->Tag)(n:Nat):retag τ n n=(0,0,0):=by unfold retag;rw[if_pos rfl]
def Zm(p:Nat)(m:Int):MS:={parts:=p,mode:=m,ws:= [],rs:= []}
end
end
section
def RQ:List ByteArray:= [⟨#[97]⟩,⟨#[98]⟩,⟨#[99]⟩,⟨#[100,100]⟩,⟨#[101,49]⟩,⟨#[122,122,122,122]⟩]
def Eh(k:Nat):ByteArray:=RQ.getD k ⟨#[]⟩
def jv(b k:Nat):Bool:=Go.bits BinOp.and IntKind.i64 ((b:Int)/ 2 ^ k) 1 == 1
def bV(b:Nat):Nat->List ByteArray
 | 0=> []
 |k+1=>bV b k++(if jv b k then [Eh k]else [])
def aA(b:Nat):List ByteArray:=bV b 6
theorem yu(b k:Nat):(bV b k).length<=k:=by
 induction k with
 |zero=>simp[bV]
 |succ k ih=>
  simp only[bV];split<;>simp<;>omega
theorem uT:∀b,b<64->(aA b).Nodup/\(∀x∈aA b,bK x=true)/\(1<=b->1<=(aA b).length)/\(aA b).length<=6:=by decide+kernel
section
variable {w:World}
theorem EO(b:Nat):Calls prog 17 #[.int .i64 b] w fun e w'=>∃v,e=.returned v/\w'.ownsRow w.heap.size 9 1 v (aA b).length ((aA b).map Value.string)/\Below w.heap.size w w':=by
 obtain⟨si,hsi,Zq,Zr,Zs⟩:=info_parts yw;go_enter func17,ntmps17;go_wp2_with fail
 go_loopw [3,4] (fun s3 u wr=>∃(k:Nat),k<=6/\u=.int .i64 k/\wr.ownsRow w.heap.size 9 1 s3 (bV b k).length ((bV b k).map Value.string)/\Below w.heap.size w wr) (fun _ u _=>6-(intOf u).toNat)
 case atStart=>exact⟨0,by omega,rfl,World.ownsRow_nil _ _ _ _,Below.refl _ _⟩
 case round=>
  obtain⟨k,hk,rfl,hrow,hB⟩:=hrel;by_cases hlt:k<6
  ·obtain⟨av,jS,Zt⟩:=gH hrow;have hLk:=yu b k;have hsz:=hB.size;obtain⟨bt,xG⟩:∃bt,jv b k=bt:=⟨_,rfl⟩
   have adO:=xG;unfold jv at adO;cases bt with
   |true=>
    have HK:Hid (bV b (k+1)=bV b k++ [Eh k]):=by show bV b k++(if jv b k=true then [Eh k]else [])=_;rw[xG];rfl
    have h6:((wr.alloc (.cells #[.string ⟨#[97]⟩,.string ⟨#[98]⟩,.string ⟨#[99]⟩,.string ⟨#[100,100]⟩,.string ⟨#[101,49]⟩,.string ⟨#[122,122,122,122]⟩] 9))).cell? ⟨wr.heap.size,k,none⟩=some (.string (Eh k)):=by
     refine(aT.new wr _ _).cell ?_;match k,hlt with
     | 0,_=>rfl
     | 1,_=>rfl
     | 2,_=>rfl
     | 3,_=>rfl
     | 4,_=>rfl
     | 5,_=>rfl
    have T3:=(hrow.alloc (.cells #[.string ⟨#[97]⟩,.string ⟨#[98]⟩,.string ⟨#[99]⟩,.string ⟨#[100,100]⟩,.string ⟨#[101,49]⟩,.string ⟨#[122,122,122,122]⟩] 9))
    have dP:Below w.heap.size w (wr.alloc (.cells #[.string ⟨#[97]⟩,.string ⟨#[98]⟩,.string ⟨#[99]⟩,.string ⟨#[100,100]⟩,.string ⟨#[101,49]⟩,.string ⟨#[122,122,122,122]⟩] 9)):=hB.alloc hsz _;have hrw:=T3;generalize hxs:(bV b k).map Value.string=xs at *;generalize hnk:(bV b k).length=nk at *;generalize Eh k=sk at *;have HX:Hid (∀(w2:World) (v2:Value),w2.ownsRow w.heap.size 9 1 v2 (nk+1) (xs++ [.string sk])->w2.ownsRow w.heap.size 9 1 v2 (bV b (k+1)).length ((bV b (k+1)).map Value.string)):=fun w2 v2 h=>by rw[HK.out,List.length_append,List.map_append,hxs,hnk];exact h
    clear xG HK hxs hnk hrow;subst Zt;have hcz:w.heap.size<=(wr.alloc (.cells #[.string ⟨#[97]⟩,.string ⟨#[98]⟩,.string ⟨#[99]⟩,.string ⟨#[100,100]⟩,.string ⟨#[101,49]⟩,.string ⟨#[122,122,122,122]⟩] 9)).heap.size:=dP.size;go_wp2_with (at_builtin;refine wpList_append_own_at _ rfl (.tmp 14) (.tmp 19) 38 rfl w.heap.size 9 si _ 1 16 underlying38 hsi Zq Zr Zs rfl (by decide) (.slice av nk jS) nk xs rfl (T3.alloc _) ⟨_,0,none⟩ 1 1 [.string sk] rfl rfl (by first|exact cell_one_new _ _ _|(simpa using cell_one_new (wr.alloc (.cells #[.string ⟨#[97]⟩,.string ⟨#[98]⟩,.string ⟨#[99]⟩,.string ⟨#[100,100]⟩,.string ⟨#[101,49]⟩,.string ⟨#[122,122,122,122]⟩] 9)) (.string sk) 9)) (by simp[Value.oneCell']) (by unfold maxLen;omega) (by omega) (by simp;omega) ?_;intro v2 w2 AA qO Oc hA2)
    have hO3:=HX.out w2 v2 AA;have lU:Below w.heap.size w w2:=(dP.alloc hcz _).grown qO (by simp;omega) (fun q e=>(aR hrw q e).1);clear Oc hA2;go_wp2_with fail
    go_roundw
    case rel=>exact⟨k+1,by omega,by go_num,hO3,lU⟩
    case measure=>simp[intOf];omega
   |false=>
    have HK:Hid (bV b (k+1)=bV b k):=by show bV b k++(if jv b k=true then [Eh k]else [])=_;rw[xG];simp
    clear xG;go_wp2_with fail
    go_roundw
    case rel=>exact⟨k+1,by omega,by go_num,by rw[HK.out];exact hrow,hB⟩
    case measure=>simp[intOf];omega
  ·have hk6:k=6:=by omega
   subst hk6;go_wp2_with fail
   go_ret;exact⟨_,rfl,hrow,hB⟩
end
end
section
def vv:ByteArray:=⟨#[118]⟩
def tj(L:List ByteArray):List KV:=L.map (fun x=>(x,vv))
def dS(P:Nat)(L:List ByteArray):Nat->Bool:=fun q=>az P (tj L) q
theorem uU(P:Nat):dS P []=fun _=>false:=by funext q;simp[dS,tj,az]
theorem rX(hp:partOf P x=p):dS P (L++ [x])=put (dS P L) p:=by
 funext q;simp only[dS,tj,List.map_append,List.map_cons,List.map_nil,lZ,put,hp];by_cases e:q=p
 ·subst e;simp
 ·have:¬((p:Int)=(q:Int)):=by omega
  simp[e,this]
section
variable {P:Nat}{M:Int}{L:List ByteArray}{pf:Nat->Bool}{rs:List MR}
end
end
section
def fresh(τ:Nat->Tag)(n:Nat):Nat->Tag:=fun k=>if n<=k then(0,0,0)else τ k
theorem aW.grown(h:aW w τ aD b s A)(hG:(w.alloc o).grownBy w2 rb)(hrb:∀k,rb=some k->τ k=(0,0,0))(VB:aD≠0):aW w2 (fresh τ w.heap.size) aD b s A:=
 h.frame (fun k hk e=>⟨(hG.block k (by simp;omega) (fun e'=>by rw[hrb k e'.symm]at e;exact VB e.symm)).trans (zbp _ _ _ hk),by unfold fresh;rw[if_neg (by omega)]⟩)
section
variable {w1 w w':World}{τ τ':Nat->Tag}{sb:Nat}{s s':MS}{A A':SA}{L:List ByteArray}{ig onb:Nat}{f:Nat->Bool}
end
end
section
def nS:Nat->Nat->ByteArray->ByteArray
 | 0,_,s=>s
 |f+1,n,s=>if n=0 then s else nS f (n / 10) (⟨#[UInt8.ofNat (48+n % 10)]⟩++s)
def oM(n:Nat):ByteArray:=nS 20 n ⟨#[]⟩
section
variable {w:World}
theorem yx(n:Nat)(h1:1<=n)(h2:n<=1000):Calls prog 25 #[.int .i64 n] w fun e w'=>e=.returned (.string (oM n))/\Below w.heap.size w w':=by
 go_enter func25,ntmps25;go_wp2_with fail
 go_loopw [0,3] (fun u s3 wr=>∃(f m:Nat) (s:ByteArray),u=.int .i64 m/\s3=.string s/\m<10 ^ f/\f<=20/\s.size+f=20/\m<=1000/\(m=0->1<=s.size)/\Hid (nS f m s=oM n)/\Below w.heap.size w wr) (fun u _ _=>(intOf u).toNat)
 case atStart=>exact⟨20,n,⟨#[]⟩,rfl,rfl,by omega,by omega,rfl,by omega,by omega,rfl,Below.refl _ _⟩
 case round=>
  obtain⟨f,m,s,rfl,rfl,hm,hf,hs,hm2,h0,HD,hB⟩:=hrel;by_cases hlt:0<m
  ·have hlt':decide ((m:Int)> 0)=true:=by simp;omega
   have kc:(convert 116 9 (.slice (some ⟨wr.heap.size,0,none⟩) 1 1)).run prog (wr.alloc (.cells #[.int .u8 (48+(m:Int)% 10)] 5))=.ok (.string ⟨#[UInt8.ofNat (48+m % 10)]⟩) (wr.alloc (.cells #[.int .u8 (48+(m:Int)% 10)] 5)):=by
    have:=run_convert_bytes_arg (P:=prog) (wr.alloc (.cells #[.int .u8 (48+(m:Int)% 10)] 5)) 116 5 underlying116 underlying5 wr.heap.size 0 1 1 [48+(m:Int)% 10] rfl (fun i hi=>by
     match i,hi with
     | 0,_=>exact(aT.new wr _ _).cell (o:=0) rfl) 9 underlying9
    rw[this];have e:(48+(m:Int)% 10).toNat=48+m % 10:=by omega
    simp[strOfNums,e]
   generalize Li:(⟨#[UInt8.ofNat (48+m % 10)]⟩:ByteArray)=xx at *;have hxs:xx.size=1:=by rw[<-Li];rfl
   have HN:Hid (∃g,f=g+1/\m / 10<10 ^ g/\nS g (m / 10) (xx++s)=oM n):=by
    cases f with
    |zero=>simp at hm;omega
    |succ g=>
     refine⟨g,rfl,by rw[Nat.pow_succ]at hm;omega,?_⟩;have:=HD.out;unfold nS at this;rw[if_neg (by omega),Li]at this;exact this
   clear Li;go_wp2_with fail
   go_roundw
   case rel=>
    obtain⟨g,rfl,h8,h9⟩:=HN.out;exact⟨g,m / 10,xx++s,by go_num,rfl,h8,by omega,by rw[ByteArray.size_append];omega,by omega,fun _=>by rw[ByteArray.size_append];omega,h9,hB.alloc hB.size _⟩
   case measure=>simp[intOf];omega
  ·have hm0:m=0:=by omega
   subst hm0;have hs1:=h0 rfl;have hne:s.toList.isEmpty=false:=by
    rw[ByteArray.toList_eq,Bool.eq_false_iff];intro h;rw[List.isEmpty_iff]at h;have:s.data.toList.length=0:=by rw[h];rfl
    simp at this;simp[ByteArray.size,this]at hs1
   have HE:Hid (s=oM n):=by
    have:=HD.out;cases f with
    |zero=>exact this
    |succ g=>unfold nS at this;rw[if_pos rfl]at this;exact this
   go_wp2_with fail
   go_ret;exact⟨congrArg (fun x=>Ending.returned (.string x)) HE.out,hB⟩
end
end
section
theorem uV(on:Int)(n:Nat)(hn:0<n):∃p:Nat,p<n/\eY on n=(p:Int):=by obtain⟨h1,h2⟩:=td on n (by omega);exact⟨(eY on n).toNat,by omega,by omega⟩
section
variable {w:World}
end
end
section
def kx:ByteArray:=⟨#[120]⟩
def EP:ByteArray:=⟨#[]⟩
def xW:MW:={jT [(kx,EP)]with ed:=true}
def aS(L:List ByteArray)(n:Nat):List KV:=L.map (fun x=>(x,x++oM n))
def eB(L:List ByteArray):List KV:=L.map (fun x=>(x,EP))
def T4(L:List ByteArray)(n:Nat)(pf:Nat->Bool):MW:={items:=aS L n,dL:=pf,comm:=fun _=>false,ed:=false}
def Ei(s:MS)(L:List ByteArray)(pf:Nat->Bool):MS:={s with ws:=s.ws++ [xW,T4 L (s.ws.length+2) pf]}
def Xz(s:MS):MS:={s with ws:=s.ws++ [jT [(kx,EP)]]}
def xS(s:MS):MS:={s with ws:=s.ws++ [xW]}
theorem EQ(f:Nat):∀(n:Nat) (s:ByteArray),(nS f n s).size<=f+s.size:=by
 induction f with
 |zero=>intro n s;simp[nS]
 |succ f ih=>
  intro n s;unfold nS;split
  ·omega
  ·refine Nat.le_trans (ih _ _) ?_;rw[ByteArray.size_append,show (ByteArray.mk #[UInt8.ofNat (48+n % 10)]).size=1 from rfl];omega
theorem uW(n:Nat):(oM n).size<=20:=EQ 20 n ⟨#[]⟩
theorem ru(L:List ByteArray)(x:ByteArray)(n:Nat):aS (L++ [x]) n=aS L n++ [(x,x++oM n)]:=by simp[aS]
theorem rY(L:List ByteArray)(n:Nat)(x:ByteArray):aH (aS L n) x=dX L x:=by simp[aH,dX,aS,List.any_map,Function.comp_def]
theorem Lj:∀(L A:List ByteArray) (n:Nat),(A++L).Nodup->(∀x∈L,bK x=true)->cF (aS A n) (aS L n)=0:=by
 intro L;induction L with
 |nil=>intro A n _ _;rfl
 |cons x r ih=>
  intro A n hn hg;have hgx:=hg x (by simp);have hz:=uW n;have h1:gj (x,x++oM n)=true:=by simp only[gj,hgx,Bool.true_and,decide_eq_true_eq,ByteArray.size_append];simp[bK]at hgx;omega
  have h2:aH (aS A n) x=false:=by rw[rY];simp only[dX,List.any_eq_false,decide_eq_true_eq];rintro y hy rfl;have:=(List.nodup_append.1 hn).2.2 y hy y (by simp);exact this rfl
  show cF (aS A n) ((x,x++oM n):: aS r n)=0;rw[ER h1 h2,<-ru];exact ih (A++ [x]) n (by simpa using hn) (fun y hy=>hg y (by simp[hy]))
theorem VD(n:Nat)(hn:L.Nodup)(hg:∀x∈L,bK x=true)(h1:1<=L.length)(h8:L.length<=8):eC (aS L n)=0:=by
 unfold eC;have hvl:(aS L n).length=L.length:=by simp[aS]
 rw[if_neg (by rw[hvl];omega)];exact Lj L [] n (by simpa using hn) hg
section
variable {s:MS}{L:List ByteArray}{pf:Nat->Bool}
theorem adP(h:s.ws.length<200):jD s [(kx,EP)]=((s.ws.length:Int)+1,0,Xz s):=by
 have hc:eC [(kx,EP)]=0:=by decide+kernel
 unfold jD;rw[if_neg (by rw[hc];simp),if_neg (by omega)];rfl
theorem Ll:jd (Xz s) ((s.ws.length:Int)+1)=(0,xS s):=by
 have hf:bF (Xz s) ((s.ws.length:Int)+1)=some (jT [(kx,EP)]):=by unfold bF;rw[if_neg (by simp[Xz];omega),show ((s.ws.length:Int)+1-1).toNat=s.ws.length from by omega];simp[Xz,jT]
 unfold jd;rw[hf];simp only[jT,Bool.or_false,Bool.false_eq_true,if_false];unfold wY Xz xS;rw[show ((s.ws.length:Int)+1-1).toNat=s.ws.length from by omega];simp[xW,jT]
theorem Od(h:s.ws.length+1<200)(hc:eC (aS L (s.ws.length+2))=0):jD (xS s) (aS L (s.ws.length+2))=((s.ws.length:Int)+2,0,Ei s L (fun _=>false)):=by unfold jD;rw[if_neg (by rw[hc];simp),if_neg (by simp[xS];omega)];simp only[xS,Ei,List.length_append,List.length_cons,List.length_nil,Prod.mk.injEq,true_and];refine⟨by omega,?_⟩;simp[T4,jT]
theorem RR(h:s.ws.length+2<=200):bF (Ei s L pf) ((s.ws.length:Int)+2)=some (T4 L (s.ws.length+2) pf):=by unfold bF;rw[if_neg (by simp[Ei];omega),show ((s.ws.length:Int)+2-1).toNat=s.ws.length+1 from by omega];simp[Ei,T4]
theorem rZ(P:Int)(L:List ByteArray)(n:Nat)(q:Int):az P (aS L n) q=L.any (fun x=>decide (partOf P x=q)):=by simp[az,aS,List.any_map,Function.comp_def]
theorem yy(P:Nat)(L:List ByteArray)(q:Nat):dS P L q=L.any (fun x=>decide (partOf P x=(q:Int))):=by simp[dS,az,tj,List.any_map,Function.comp_def]
theorem VE(g:MW):wY (Ei s L pf) ((s.ws.length:Int)+2) g={s with ws:=s.ws++ [xW,g]}:=by unfold wY Ei;rw[show ((s.ws.length:Int)+2-1).toNat=s.ws.length+1 from by omega];simp
theorem RU(h:s.ws.length+2<=200)(hx:x∈L)(hp:partOf s.parts x=p):ez (Ei s L pf) ((s.ws.length:Int)+2) p=(if pf p then 10 else 0,Ei s L (put pf p)):=by
 unfold ez;rw[RR h];have h1:az (Ei s L pf).parts (T4 L (s.ws.length+2) pf).items p=true:=by show az s.parts (aS L (s.ws.length+2)) p=true;rw[rZ,List.any_eq_true];exact⟨x,hx,by simpa using hp⟩
 simp only[h1,Bool.true_eq_false,if_false,Int.toNat_natCast];cases hc:pf p with
 |true=>
  have:put pf p=pf:=by funext q;unfold put;split<;>simp_all
  have h2:(T4 L (s.ws.length+2) pf).dL p=true:=hc;simp only[h2,if_true,this]
 |false=>
  have h2:(T4 L (s.ws.length+2) pf).dL p=false:=hc;simp only[h2,Bool.false_eq_true,if_false,VE];rfl
end
end
section
theorem Stp.Oe{s:Nat}(h:Stp s τ0 w0 τ w)(hG:(w.alloc o).grownBy w2 rb)(hrb:∀k,rb=some k->w0.heap.size<=k):Stp s τ0 w0 (fresh τ w.heap.size) w2:=by
 have Og:w.heap.size<w2.heap.size:=by have:=hG.size;simp at this;omega
 refine⟨hG.os.trans h.os,hG.tape.trans h.tape,hG.output.trans h.output,by have:=h.size;omega,fun k hk=>?_,fun k hk hs=>?_⟩
 ·unfold fresh;rw[if_neg (by have:=h.size;omega)];exact h.tag k hk
 ·exact(hG.block k (by have:=h.size;simp;omega) (fun e=>by have:=hrb k e.symm;omega)).trans ((zbp _ _ _ (by have:=h.size;omega)).trans (h.block k hk hs))
theorem Stp.box{s:Nat}(h:Stp s τ0 w0 τ w)(o:Obj):Stp s τ0 w0 (retag τ w.heap.size) (w.alloc o):=by
 refine⟨h.os,h.tape,h.output,by have:=h.size;simp;omega,fun k hk=>?_,fun k hk hs=>?_⟩
 ·unfold retag;rw[if_neg (by have:=h.size;omega)];exact h.tag k hk
 ·exact(zbp _ _ _ (by have:=h.size;omega)).trans (h.block k hk hs)
theorem AB(L:List ByteArray)(x:ByteArray):eB (L++ [x])=eB L++ [(x,EP)]:=by simp[eB]
def dU(L:List ByteArray)(n j:Nat):List KV:=aS (L.take j) n++eB (L.drop j)
theorem CI(L:List ByteArray)(n j:Nat):(dU L n j).length=L.length:=by simp[dU,aS,eB];omega
theorem AD(L:List ByteArray)(n:Nat):dU L n 0=eB L:=by simp[dU,aS]
theorem CJ(L:List ByteArray)(n:Nat):dU L n L.length=aS L n:=by simp[dU,eB]
theorem vU(a b:List KV):aY (a++b)=aY a++aY b:=by simp[aY]
theorem AE(L:List ByteArray)(n j:Nat)(x:ByteArray)(h:L[j]?=some x):(aY (dU L n j)).set (j*2+1) (.string (x++oM n))=aY (dU L n (j+1)):=by
 obtain⟨hj,rfl⟩:=List.getElem?_eq_some_iff.1 h;unfold dU;rw[zbr hj,ru,List.drop_eq_getElem_cons hj,List.append_assoc,vU,vU];have hl:(aY (aS (L.take j) n)).length=j*2:=by rw[pF];simp[aS];omega
 have e:aY (eB (L[j] :: L.drop (j+1)))=.string L[j] :: .string EP :: aY (eB (L.drop (j+1))):=rfl;rw[e,List.set_append_right _ _ (by rw[hl];omega),hl,show j*2+1-j*2=1 from by omega];simp[aY]
structure Ra(w0:World)(τ0:Nat->Tag)(w:World)(τ:Nat->Tag)(sb:Nat)(s:MS)(A:SA):Prop where
 rep:aW w τ 2 sb s A
 nG:Stp 2 τ0 w0 τ w
section
variable {w:World}{τ:Nat->Tag}{sb:Nat}{s:MS}{A:SA}{L:List ByteArray}
theorem yz{base:Nat}{e:TypeId}{size:Nat}{g n cap:Nat}{xs:List Value}(h:w.ownsRow base e size (.slice (some ⟨g,0,none⟩) n cap) n xs)(hb:w'.heap[g]?=w.heap[g]?):w'.ownsRow base e size (.slice (some ⟨g,0,none⟩) n cap) n xs:=
 ak h (fun k hk=>by cases hk;exact hb)
theorem Lm(hR:aW w τ 2 sb s A)(kg bC:Nat)(KQ:1<=L.length)(Hz:L.length<=8)(hnd:L.Nodup)(hg:∀x∈L,bK x=true)
 (hkc:∀(j:Nat) (x:ByteArray),L[j]?=some x->w.cell? ⟨kg,j,none⟩=some (.string x)) (tu:kg<w.heap.size) (Ej:(τ kg).1=0) (hlen:s.ws.length+2<=200):
 Calls prog 19 #[ptr sb,.slice (some ⟨kg,0,none⟩) L.length bC] w fun e w'=>∃τ' A',e=.returned (.int .i64 ((s.ws.length:Int)+2))/\aW w' τ' 2 sb (Ei s L (dS s.parts L)) A'/\Stp 2 τ w τ' w':=by
 have HG:Hid (∀x∈L,bK x=true):=hg;have Zu:Hid (∀(j:Nat) (x:ByteArray),L[j]?=some x->w.cell? ⟨kg,j,none⟩=some (.string x)):=hkc;have HV:Hid (eC (aS L (s.ws.length+2))=0):=VD _ hnd hg KQ Hz;have HW:Hid (Ra w τ w τ sb s A):=⟨hR,Stp.refl _ _ _⟩
 have HP:Hid (1<=s.parts/\s.parts<=4):=⟨hR.ok.p1,hR.ok.p4⟩
 have HJ:Hid (∀(τr:Nat->Tag) (wr:World),Stp 2 τ w τr wr->∀(j:Nat) (x:ByteArray),L[j]?=some x->wr.cell? ⟨kg,j,none⟩=some (.string x)):=fun τr wr hs j x hx=>
  (World.cell?_of_block (w:=w) (a:=⟨kg,j,none⟩) (hs.block kg tu (by rw[Ej];decide))).trans (hkc j x hx)
 unfold ptr;clear hg hkc hR hnd Ej;obtain⟨ii,oG,Zv,Zw,Zx⟩:=info_parts J0;go_enter func19,ntmps19;go_wp2_with fail
 go_loopw [5,6] (fun s5 u wr=>∃(j:Nat) (τr:Nat->Tag),j<=L.length/\u=.int .i64 j/\wr.ownsRow w.heap.size 70 2 s5 j (aY (eB (L.take j)))/\Hid (∀k,s5.ownBlock=some k->τr k=(0,0,0))/\Hid (Ra w τ wr τr sb s A)) (fun _ u _=>L.length-(intOf u).toNat)
 case atStart=>exact⟨0,τ,Nat.zero_le _,rfl,World.ownsRow_nil _ _ _ _,(fun k e=>(by cases e)),HW⟩
 case round=>
  obtain⟨j,τr,hj,rfl,hrow,HT,HR⟩:=hrel;by_cases hlt:j<L.length
  ·have hx:L[j]?=some L[j]:=zbq hlt;have Rb:Hid (eB (L.take (j+1))=eB (L.take j)++ [(L[j],EP)]):=by unfold Hid;rw[zbr hlt,AB]
   have ck:=HJ.out τr wr HR.out.nG j _ hx;generalize L[j]=x at *;obtain⟨av,jS,hv⟩:=gH hrow;have adQ:=HR.out.nG.size;have HX:Hid (∀(w2:World) (v2:Value) (o:Obj),w2.ownsRow w.heap.size 70 2 v2 (j+1) (aY (eB (L.take j))++ [.string x,.string ⟨#[]⟩])->(wr.alloc o).grownBy w2 (Value.slice av j jS).ownBlock->(v2.ownBlock=(Value.slice av j jS).ownBlock\/v2.ownBlock=some (wr.alloc o).heap.size)->
    w2.ownsRow w.heap.size 70 2 v2 (j+1) (aY (eB (L.take (j+1))))/\(∀k,v2.ownBlock=some k->fresh τr wr.heap.size k=(0,0,0))/\Ra w τ w2 (fresh τr wr.heap.size) sb s A):=fun w2 v2 o a1 a2 a3=>by
    rw[hv]at hrow HT;refine⟨by rw[Rb.out,tA];exact a1,fun k hk=>?_,HR.out.rep.grown a2 HT.out (by decide),HR.out.nG.Oe a2 (fun k hk=>(aR hrow k hk).1)⟩;rcases a3 with e|e
    ·rw[hk]at e;have:=HT.out k e.symm;unfold fresh;split
     ·rfl
     ·exact this
    ·rw[hk]at e;have:=Option.some.inj e;simp at this;unfold fresh;rw[if_pos (by omega)]
   generalize aY (eB (L.take j))=xs at *;subst hv;clear Rb hx;go_wp2_with (at_builtin;refine wpList_append_own_at _ rfl (.tmp 23) (.tmp 29) 68 rfl w.heap.size 70 ii _ 2 32 underlying68 oG Zv Zw Zx rfl (by decide) (.slice av j jS) j xs rfl (hrow.alloc _) ⟨_,0,none⟩ 1 1 [.string x,.string ⟨#[]⟩] rfl rfl (cell_two_new _ _ _ _) (by simp[Value.oneCell']) (by unfold maxLen;omega) (by omega) (by simp;omega) ?_;intro v2 w2 AA qO Oc hA2)
   obtain⟨r1,r2,r3⟩:=HX.out w2 v2 _ AA qO hA2;have R2:Hid _:=r2;have R3:Hid _:=r3;clear r2 r3 AA qO Oc hA2 HX;go_wp2_with fail
   go_roundw
   case rel=>exact⟨j+1,_,by omega,by go_num,r1,R2,R3⟩
   case measure=>simp[intOf];omega
  ·have XA:j=L.length:=by omega
   rw[XA,List.take_length]at hrow;clear XA;obtain⟨ig,Oh,hv,hi1,hi2,VF,-⟩:=dJ hrow (by omega);subst hv;have adR:ig<wr.heap.size:=(aR hrow ig rfl).2;have adS:w.heap.size<=ig:=(aR hrow ig rfl).1;have Zy:τr ig=(0,0,0):=HT.out ig rfl;have ES:Hid (wr.ownsRow w.heap.size 70 2 (.slice (some ⟨ig,0,none⟩) L.length Oh) L.length (aY (dU L (s.ws.length+2) 0))):=by rw[AD];exact hrow
   have c5:=Hy (HR.out.rep.box (.cells #[.string kx,.string EP] 70)) (some ⟨wr.heap.size,0,none⟩) 1 (L:= [(kx,EP)]) (by decide) (by decide) (by decide) (fun x hx=>by simp at hx;subst hx;decide) (EM (kx,EP)) (fun ib io e=>by cases e;rw[rW];decide);have HS5:Hid (Stp 2 τ w (retag τr wr.heap.size) (wr.alloc (.cells #[.string kx,.string EP] 70))):=HR.out.nG.box _;have HG5:Hid (retag τr wr.heap.size ig=(0,0,0)):=by unfold Hid retag;rw[if_neg (by omega)];exact Zy
   have Oi:Hid ((wr.alloc (.cells #[.string kx,.string EP] 70)).ownsRow w.heap.size 70 2 (.slice (some ⟨ig,0,none⟩) L.length Oh) L.length (aY (dU L (s.ws.length+2) 0))):=ES.out.alloc _;have Oj:ig< (wr.alloc (.cells #[.string kx,.string EP] 70)).heap.size:=by simp;omega
   obtain⟨m,hm⟩:∃m:Nat,(s.ws.length:Int)+1=(m:Int):=⟨s.ws.length+1,by omega⟩
   rw[adP (by omega),hm]at c5;unfold ptr at c5;have Zz:kx=⟨#[120]⟩:=rfl;have VG:EP=⟨#[]⟩:=rfl;rw[Zz,VG]at c5 HS5 Oi Oj;clear hrow VF ES;go_wp2_with fail
   refine c5.mono ?_;rintro e wb ⟨τb,B,rfl,ZA,hPb⟩;clear c5;have T5:Hid _:=yz (w':=wb) Oi.out (hPb.block ig Oj (by rw[HG5.out];decide));have HG6:Hid (τb ig=(0,0,0)):=(hPb.tag ig Oj).trans HG5.out;have VH:ig<wb.heap.size:=Nat.lt_of_lt_of_le Oj hPb.size;have HS6:Hid (Stp 2 τ w τb wb):=HS5.out.trans hPb;clear hPb HS5 HG5 Oi Oj Zy adR HR HT;have c6:=RV ZA ((s.ws.length:Int)+1) (by omega) (by omega);rw[Ll,hm]at c6;unfold ptr at c6;clear ZA;go_wp2_with fail
   refine c6.mono ?_;rintro e wc ⟨C,rfl,ZB,Nb⟩;clear c6;have T6:Hid _:=yz (w':=wc) T5.out (Nb.block ig VH (by rw[HG6.out];decide));have HG7:Hid (τb ig=(0,0,0)):=HG6;have adW:ig<wc.heap.size:=Nat.lt_of_lt_of_le VH Nb.size;have HS7:Hid (Ra w τ wc τb sb (xS s) C):=⟨ZB,HS6.out.trans Nb⟩
   clear Nb ZB HS6 T5 HG6 VH;go_wp2_with fail
   go_loopw [10] (fun u wr=>∃(j:Nat),j<=L.length/\u=.int .i64 j/\Hid (wr.ownsRow w.heap.size 70 2 (.slice (some ⟨ig,0,none⟩) L.length Oh) L.length (aY (dU L (s.ws.length+2) j)))/\ig<wr.heap.size/\Hid (Ra w τ wr τb sb (xS s) C)) (fun u _=>L.length-(intOf u).toNat)
   case atStart=>exact⟨0,Nat.zero_le _,rfl,T6,adW,HS7⟩
   case round=>
    rename World=>Rc
    obtain⟨j,hj,rfl,ES,adX,HR⟩:=hrel;by_cases hlt:j<L.length
    ·have hx:L[j]?=some L[j]:=zbq hlt;have HST:Hid _:=AE L (s.ws.length+2) j _ hx;have ck:=HJ.out τb Rc HR.out.nG j _ hx;have hxz:=dG (HG.out _ (List.getElem_mem hlt));have yc:kg<Rc.heap.size:=Nat.lt_of_lt_of_le tu HR.out.nG.size;generalize L[j]=x at *;have q0:(j:Int)< (L.length:Int):=by omega
     have q1:(0:Int)<=(j:Int):=by omega
     have q2:j<L.length:=hlt;have cd:=yx (w:=Rc.drew) (s.ws.length+2) (by omega) (by omega);rw[show ((s.ws.length+2:Nat):Int)=(m:Int)+1 from by omega,<-IntWalk.i64_in ((m:Int)+1) (by omega)]at cd;have hdz:=uW (s.ws.length+2);generalize oM (s.ws.length+2)=dg at *;have fz:=ES.out.frozenAt (j*2+1);clear hx;go_wp2_with fail
     have hxd:x.size+dg.size<=9223372036854775807:=by omega
     have yA:∀W:World,(Op.stringOp BinOp.add x dg).run prog W=.ok (.string (x++dg)) W:=by intro W;go_simp
     have hmid:(aY (dU L (s.ws.length+2) j)).length=L.length*2:=by rw[pF,CI]
     obtain⟨old,hold⟩:∃old,(aY (dU L (s.ws.length+2) j))[j*2+1]?=some old:=⟨_,zbq (by rw[hmid];omega)⟩
     have ad0:Hid ((aY (dU L (s.ws.length+2) j))[j*2+1]?=some old):=hold;clear hmid hold;go_region_held3 (fun W=>W.cell? ⟨kg,j,none⟩=some (.string x)) (first|(simp[*];done)|(rw[fM (by simp only;omega)];assumption)) ((go_at_call 25;refine cd.mono ?_;rintro e w6 ⟨rfl,BH⟩;have x6:=(BH.cell (p:=⟨kg,j,none⟩) yc).trans ck;have HR6:=yz (w':=w6) ES.out (BH.block ig adX);have fz6:=HR6.frozenAt (j*2+1);have y6:=(HR6.cellAt (j*2+1) (by omega)).trans ad0.out))
     have ZC:Hid ((w6.setCell ⟨ig,j*2+1,none⟩ (.string (x++dg))).ownsRow w.heap.size 70 2 (.slice (some ⟨ig,0,none⟩) L.length Oh) L.length (aY (dU L (s.ws.length+2) (j+1)))):=by have:=(HR6.stored (j*2+1) (.string (x++dg))).1;rw[HST.out]at this;exact this
     have HE':Hid (Ra w τ (w6.setCell ⟨ig,j*2+1,none⟩ (.string (x++dg))) τb sb (xS s) C):=by
      have ZD:Below Rc.heap.size Rc w6:=⟨BH.os,BH.tape,BH.output,BH.size,BH.block⟩
      refine⟨(HR.out.rep.below ZD).frame (fun k hk e=>⟨Below.heap_setCell _ _ _ _ (fun e'=>?_),rfl⟩),(HR.out.nG.trans (iw ZD)).UM (a:=⟨ig,j*2+1,none⟩) adS _⟩;have e'':k=ig:=e';rw[e'',HG7.out]at e;exact absurd e (by decide)
     have ad1:ig< (w6.setCell ⟨ig,j*2+1,none⟩ (.string (x++dg))).heap.size:=by have:=BH.size;have h2:Rc.drew.heap.size=Rc.heap.size:=rfl;simp[World.setCell];omega
     clear yA HR6 fz6 y6 x6 BH ES HR HST cd fz;go_wp2_with fail
     go_roundw
     case rel=>exact⟨j+1,by omega,by go_num,ZC,ad1,HE'⟩
     case measure=>simp[intOf];omega
    ·have XA:j=L.length:=by omega
     subst XA;have J1:(aS L (s.ws.length+2)).length=L.length:=by simp[aS]
     have HIt:Hid (xH Rc (some ⟨ig,0,none⟩) (aS L (s.ws.length+2))):=fun k x hx=>by
      have hr:=ES.out;rw[CJ]at hr;obtain⟨e1,e2⟩:=nT _ k x hx;have hk:=aE hx;rw[J1]at hk;refine⟨ig,0,rfl,?_,?_⟩
      ·rw[show 0+k*2=k*2 from by omega,hr.cellAt (k*2) (by omega),e1]
      ·rw[show 0+k*2+1=k*2+1 from by omega,hr.cellAt (k*2+1) (by omega),e2]
     have ZE:xI (aS L (s.ws.length+2)):=fun x hx=>by have:=gO ((vV HV.out).2.2 x hx);exact⟨by unfold maxLen;omega,by unfold maxLen;omega⟩
     have c4:=Hy HR.out.rep (some ⟨ig,0,none⟩) Oh (L:=aS L (s.ws.length+2)) (by rw[J1];unfold maxLen;omega) (by rw[J1];exact hi1) hi2 ZE HIt.out (fun ib io e=>by cases e;rw[HG7.out];decide);rw[J1,Od (by omega) HV.out,show (s.ws.length:Int)+2=(m:Int)+1 from by omega]at c4;unfold ptr at c4;clear ZE ES;go_wp2_with fail
     refine c4.mono ?_;rintro e wd ⟨τd,D,rfl,ZF,Q9⟩;clear c4;have HD:Hid (Ra w τ wd τd sb (Ei s L (fun _=>false)) D):=⟨ZF,HR.out.nG.trans Q9⟩
     clear ZF Q9 HR HIt T6 HS7;go_wp2_with fail
     go_loopw [13] (fun u wr=>∃(j:Nat) (A':SA),j<=L.length/\u=.int .i64 j/\Hid (Ra w τ wr τd sb (Ei s L (dS s.parts (L.take j))) A')) (fun u _=>L.length-(intOf u).toNat)
     case atStart=>exact⟨0,D,Nat.zero_le _,rfl,by rw[List.take_zero,uU];exact HD⟩
     case round=>
      rename World=>XB
      obtain⟨j,A3,hj,rfl,HR⟩:=hrel;by_cases hlt:j<L.length
      ·have hx:L[j]?=some L[j]:=zbq hlt;have Rb:Hid (L.take (j+1)=L.take j++ [L[j]]):=zbr hlt;have HM:Hid (L[j]∈L):=List.getElem_mem hlt;have ck:=HJ.out τd XB HR.out.nG j _ hx;have yB:=HG.out _ (List.getElem_mem hlt);have hxz:=dG yB;generalize L[j]=x at *;have cp:=T7 HR.out.rep x (by unfold maxLen;omega);rw[yB]at cp;obtain⟨hp1,HY⟩:=HP.out;obtain⟨q1,q2⟩:=eM (s.parts:Int) x (by omega);obtain⟨p,hp⟩:∃p:Nat,partOf (s.parts:Int) x=p:=⟨(partOf (s.parts:Int) x).toNat,by omega⟩
       have hpP:p<4:=by omega
       simp only[if_true]at cp;rw[show (Ei s L (dS s.parts (L.take j))).parts=s.parts from rfl,hp]at cp;have HON:Hid (dS s.parts (L.take (j+1))=put (dS s.parts (L.take j)) p):=by unfold Hid;rw[Rb.out];exact rX hp
       have HPr:Hid _:=RU (s:=s) (L:=L) (pf:=dS s.parts (L.take j)) hlen HM.out hp;unfold ptr at cp;clear hp q1 q2 hx hp1 HY;go_wp2_with fail
       refine cp.mono ?_;rintro e we ⟨rfl,hBe⟩;clear cp;have hRe:=HR.out.rep.below hBe;have HSe:Hid (Stp 2 τ w τd we):=HR.out.nG.trans (iw hBe);have cq:=EN hRe ((s.ws.length:Int)+2) p (by omega) (by omega) (by omega) (by omega);rw[HPr.out,<-HON.out,show (s.ws.length:Int)+2=(m:Int)+1 from by omega]at cq;unfold ptr at cq;clear HR hBe hRe HPr ck;cases hc:dS s.parts (L.take j) p with
       |true=>
        rw[hc]at cq;simp only[if_true]at cq;clear hc;go_wp2_with fail
        refine cq.mono ?_;rintro e wf ⟨F,rfl,ZG,RP⟩;clear cq;have HF:Hid (Ra w τ wf τd sb (Ei s L (dS s.parts (L.take (j+1)))) F):=⟨ZG,HSe.out.trans RP⟩
        clear ZG RP;go_wp2_with fail
        go_roundw
        case rel=>exact⟨j+1,F,by omega,by go_num,HF⟩
        case measure=>simp[intOf];omega
       |false=>
        rw[hc]at cq;simp only[Bool.false_eq_true,if_false]at cq;clear hc;go_wp2_with fail
        refine cq.mono ?_;rintro e wf ⟨F,rfl,ZG,RP⟩;clear cq;have HF:Hid (Ra w τ wf τd sb (Ei s L (dS s.parts (L.take (j+1)))) F):=⟨ZG,HSe.out.trans RP⟩
        clear ZG RP;go_wp2_with fail
        go_roundw
        case rel=>exact⟨j+1,F,by omega,by go_num,HF⟩
        case measure=>simp[intOf];omega
      ·have XA:j=L.length:=by omega
       rw[XA,List.take_length]at HR;go_wp2_with fail
       go_ret;exact⟨τd,A3,iu (by omega),HR.out.rep,HR.out.nG⟩
end
end
end Go.Proofs.YteoahlieielcdaaGreat
