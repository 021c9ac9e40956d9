import Derived.Test.YteoahlieielcdaaGreatN9
set_option linter.all false
set_option maxHeartbeats 40000000
set_option maxRecDepth 100000
namespace Go.Proofs.YteoahlieielcdaaGreat
open Go.Proofs.Tryz
open Go Go.RowKit Go.MuLone Go.Conc
abbrev zch:=@RowKit.Below.heap_setCell
abbrev zci:=@List.getElem?_eq_getElem
abbrev zcj:=@World.cell?_of_block
abbrev zck:=@Array.getElem?_setIfInBounds_ne
abbrev zcl:=@List.mem_singleton
variable{P m qn n g cap i ab:Nat}{M:Int}{L:List ByteArray}{v:ByteArray->Nat}{kK k:List Item}{Q:Frame->List Frame->World->Prop}{w w' W:World}
section
theorem AlM.drew{Z:Nat->Prop}{w0 w:World}{τ:Nat->Tag}{sb ga gb gc:Nat}{La Lb Lc:List ByteArray}{s:MS}{A:SA}{B:List BE}(h:AlM Z w0 w τ sb ga gb gc La Lb Lc s A B):AlM Z w0 w.drew τ sb ga gb gc La Lb Lc s A B:=
 h.frame (h.rep.below (Below.refl _ _).drew) (h.env.below' (Below.refl _ _).drew) fun _ _ _=>⟨rfl,rfl⟩
def alK(sb xb wb k1 k2:Nat)(va vb:Value)(ca cb:Nat->Bool):List BE:= [⟨wb,32,#[ptr k1,ptr k2],45⟩,⟨k2,31,iy 4 vb cb,48⟩,⟨k1,30,iy 2 va ca,48⟩,⟨xb,21,#[ptr sb,.slice (some ⟨wb,0,none⟩) 2 2,dV],32⟩]
theorem al_read{La Lb:List ByteArray}{ca cb:Nat->Bool}(hm:iH L=0):py (alS P M La Lb ca cb []) L=(1,0,alS P M La Lb ca cb [fmRd L v 0]):=by unfold py;rw[hm,<-fmRd_new];rfl
theorem al_ask{La Lb:List ByteArray}{ca cb:Nat->Bool}{x:ByteArray}(hnd:L.Nodup)(hx:L[m]?=some x)(hv:aU (alS P M La Lb ca cb [fmRd L v m]) x=v x):lT (alS P M La Lb ca cb [fmRd L v m]) 1 x=(0,alS P M La Lb ca cb [fmRd L v (m+1)]):=by
 have hj:=aE hx;have hkx:bM L x=m:=lz hnd hx;have hf:gN (alS P M La Lb ca cb [fmRd L v m]) 1=some (fmRd L v m):=rfl;have e1:(fmRd L v m).keys=L:=rfl;have e2:(fmRd L v m).asked m=false:=by show decide (m<m)=false;simp
 unfold lT;rw[hf];simp only[e1,hkx,hj,if_true,e2,Bool.false_eq_true,if_false];have e3:J4 (alS P M La Lb ca cb [fmRd L v m]) (fmRd L v m) m x=fmRd L v (m+1):=by
  unfold J4 fmRd;simp only;congr 1
  ·funext q;simp only[put];by_cases h:q=m
   ·subst h;simp
   ·rw[if_neg h];simp only[decide_eq_decide];omega
  ·funext q;by_cases h:q=m
   ·subst h;have hg:L.getD q ⟨#[]⟩=x:=by simp[List.getD,hx]
    rw[if_pos rfl,if_pos (by omega),hg];exact hv
   ·rw[if_neg h];by_cases h2:q<m
    ·rw[if_pos h2,if_pos (by omega)]
    ·rw[if_neg h2,if_neg (by omega)]
 rw[e3];rfl
structure AlSl(a:Act)(p0 m ga gb gc xa xb xc qa qn la lb lc:Nat)(key:ByteArray):Prop where
 d:a.defers= []
 s:a.tmps.size=234
 t3:a.tmps[3]?=some (.int .i64 ((p0+1:Nat):Int))
 t11:a.tmps[11]?=some (.slice (some ⟨ga,0,none⟩) la xa)
 t12:a.tmps[12]?=some (.slice (some ⟨gb,0,none⟩) lb xb)
 t13:a.tmps[13]?=some (.slice (some ⟨gc,0,none⟩) lc xc)
 t14:a.tmps[14]?=some (.string key)
 t15:a.tmps[15]?=some (.pointer (some ⟨qa,0,none⟩))
 t16:a.tmps[16]?=some (.pointer (some ⟨qn,0,none⟩))
 t17:a.tmps[17]?=some (.int .i64 (m:Int))
noncomputable def alE:Array Oper:=opsOf (cA alB)
theorem alE_ops:[4]=List.range' 4 (alE.toList.drop 4).length:=by kernel_rfl
section
variable {wa v0:World}{Z:Nat->Prop}{τa:Nat->Tag}{sb:Nat}{A:SA}
theorem alike_to{b:Frame}{a:Act}{c:List Frame}{p0 ga gb gc xa xb xc qa Ba Bb Bc:Nat}{key:ByteArray}(hp0:p0<4)(h1:1<=Ba)(h2:Ba<64)(h3:1<=Bb)(h4:Bb<64)(h5:1<=Bc)(h6:Bc<64)(hkey:key∈aA Bb){La Lb Lc:List ByteArray}(ea:aA Ba=La)(eb:aA Bb=Lb)(ec:aA Bc=Lc){p:Nat}(hp:(partOf ((p0+1:Nat):Int) key).toNat=p)
 (hI:AlSl a p0 m ga gb gc xa xb xc qa qn La.length Lb.length Lc.length key) (h65:a.tmps[65]?=some (ptr sb)) (hM:AlM Z v0 wa τa sb ga gb gc La Lb Lc (Zm (p0+1) ((m:Int)+1)) A []) (x1:Lc.length<=xc) (x2:xc<=maxLen) {Q:Frame->List Frame->World->Prop}
 (hQ:∀(a':Act) (w:World) (τ:Nat->Tag) (x' wb k1 k2:Nat) (A:SA),AlM Z v0 w τ sb ga gb gc La Lb Lc (alS (p0+1) ((m:Int)+1) La Lb (dS (p0+1) La) (put (fun _=>false) p) [fmRd Lc (alV (p0+1) La Lb p) Lc.length]) A (alK sb x' wb k1 k2 (.slice (some ⟨ga,0,none⟩) La.length xa) (.slice (some ⟨gb,0,none⟩) Lb.length xb) (dS (p0+1) La) (put (fun _=>false) p))->
   AlSl a' p0 m ga gb gc xa xb xc qa qn La.length Lb.length Lc.length key->a'.tmps[18]?=some (ptr sb)->a'.tmps[19]?=some (ptr x')->a'.tmps[20]?=some (.int .i64 2)->a'.tmps[25]?=some (.int .i64 1)->To prog Q (b.at a' (.code alT :: kK)) c w):
 To prog Q (b.at a (.inRegion alE [4] :: .code (cB alB):: kK)) c wa:=by
 obtain⟨ka1,ka2,ka3,ka4⟩:=uT Ba h2;obtain⟨kb1,kb2,kb3,kb4⟩:=uT Bb h4;obtain⟨kc1,kc2,kc3,kc4⟩:=uT Bc h6;replace ka3:=ka3 h1;replace kb3:=kb3 h3;replace kc3:=kc3 h5;have kn:=LJ Bc h6;have km:=Fe Bc h5 h6;rw[ea]at ka1 ka2 ka3 ka4;rw[eb]at kb1 kb2 kb3 kb4 hkey;rw[ec]at kc1 kc2 kc3 kc4 kn km;have HA1:Hid _:=ka1;have HA2:Hid _:=ka2;have HB1:Hid _:=kb1;have HB2:Hid _:=kb2;have HC1:Hid _:=kc1;have HC2:Hid _:=kc2;have HKN:Hid _:=kn;have HKM:Hid _:=km;have HKY:Hid (key∈Lb):=hkey;have HQ:Hid _:=hQ;have HM0:Hid _:=hM;clear ka1 ka2 kb1 kb2 kc1 kc2 kn km hkey hM hQ ea eb ec h1 h2 h3 h4 h5 h6;obtain⟨tms,EF⟩:=a;obtain⟨hd,hs,t3,t11,t12,t13,t14,t15,t16,t17⟩:=hI;simp only at hd hs t3 t11 t12 t13 t14 t15 t16 t17 h65;subst hd;obtain⟨fv,hT,aj⟩:=array234 tms hs;replace t3:=aj 3 _ t3;replace t11:=aj 11 _ t11;replace t12:=aj 12 _ t12;replace t13:=aj 13 _ t13;replace t14:=aj 14 _ t14;replace t15:=aj 15 _ t15;replace t16:=aj 16 _ t16;replace t17:=aj 17 _ t17;replace h65:=aj 65 _ h65;clear hs aj;simp only[List.range,List.range.loop,List.map_cons,List.map_nil,t3,t11,t12,t13,t14,t15,t16,t17,h65]at hT;subst hT;clear t3 t11 t12 t13 t14 t15 t16 t17 h65;generalize hMM:(m:Int)+1=M at *;unfold ptr;refine To.T9 fun K hK=>?_;rw[alE_ops,yF];dsimp only[alE,opsOf,alB,alL,alBody,nthB,inOf,cA,cB,Tryz.f7,Option.getD_some];simp only[List.drop];go_wp2_with fail
 dsimp only[alB,alL,alBody,nthB,inOf,cA,cB,Tryz.f7,Option.getD_some];refine To.gP fun K hK=>?_;go_wp2_with fail
 refine To.gP fun K hK=>?_;go_wp2_with fail
 have HM1:Hid (AlM Z v0 (wa.alloc (.cells #[.pointer (some ⟨sb,0,none⟩),.slice none 0 0,.slice none 0 0] 32)) (fun q=>if q=wa.heap.size then(1,21,0)else τa q) sb ga gb gc La Lb Lc (Zm (p0+1) M) A [⟨wa.heap.size,21,#[.pointer (some ⟨sb,0,none⟩),.slice none 0 0,.slice none 0 0],32⟩]):=HM0.out.new 21 _ _;generalize hx':wa.heap.size=x' at *;generalize wa.alloc (.cells #[.pointer (some ⟨sb,0,none⟩),.slice none 0 0,.slice none 0 0] 32)=wx at *;generalize (fun q=>if q=x' then((1,21,0):Tag)else τa q)=τx at *;clear hx' HM0;have c1:=Lm HM1.out.rep ga xa (L:=La) ka3 (by omega) HA1.out HA2.out HM1.out.ka.cell HM1.out.ka.lt HM1.out.ka.tag (by show 0+2<=200;omega);rw[show (((Zm (p0+1) M).ws.length:Int)+2)=2 from rfl,show Ei (Zm (p0+1) M) La (dS (Zm (p0+1) M).parts La)=alS1 (p0+1) M La from rfl]at c1;unfold ptr at c1;refine To.gP fun K hK=>?_;go_wp2_with fail
 refine c1.mono ?_;rintro e w3 ⟨τ3,A3,rfl,RY,CK⟩;clear c1;have Lv:Hid _:=HM1.out.step RY CK;clear RY CK HM1;go_wp2_with fail
 have c2:=Lm Lv.out.rep gb xb (L:=Lb) kb3 (by omega) HB1.out HB2.out Lv.out.kb.cell Lv.out.kb.lt Lv.out.kb.tag (by show 2+2<=200;omega);rw[show (((alS1 (p0+1) M La).ws.length:Int)+2)=4 from rfl,show Ei (alS1 (p0+1) M La) Lb (dS (alS1 (p0+1) M La).parts Lb)=alS (p0+1) M La Lb (fun _=>false) (fun _=>false) []from rfl]at c2;unfold ptr at c2;refine To.gP fun K hK=>?_;go_wp2_with fail
 refine c2.mono ?_;rintro e w4 ⟨τ4,A4,rfl,hR4,G1⟩;clear c2;have HM3:Hid _:=Lv.out.step hR4 G1;clear hR4 G1 Lv;go_wp2_with fail
 refine To.gP fun K hK=>?_;go_wp2_with fail
 have y1:w4.cell? ⟨x',1,none⟩=some (.slice none 0 0):=(HM3.out.own _ (zcl.2 rfl)).1.cell (o:=1) rfl;have f1:=(HM3.out.own _ (zcl.2 rfl)).1.frozen 1;have hxl:=(HM3.out.own _ (zcl.2 rfl)).1.lt;simp only at f1 hxl;have lU:Below w4.heap.size w4 (((w4.alloc (.cells #[.int .i64 2,.slice (some ⟨ga,0,none⟩) La.length xa,.bool false,.bool false,.bool false,.bool false] 48)).alloc (.cells #[.int .i64 4,.slice (some ⟨gb,0,none⟩) Lb.length xb,.bool false,.bool false,.bool false,.bool false] 48)).alloc (.cells #[.pointer (some ⟨w4.heap.size,0,none⟩),.pointer (some ⟨w4.heap.size+1,0,none⟩)] 45)):=(((Below.refl _ _).alloc (Nat.le_refl _) _).alloc (by simp) _).alloc (by simp;omega) _;have y3:=(lU.cell (p:=⟨x',1,none⟩) hxl).trans y1;have f3:=((HM3.out.own _ (zcl.2 rfl)).1.of_eq (lU.block x' hxl)).frozen 1;simp only at f3;clear lU;refine To.gP fun K hK=>?_;go_wp2_with fail
 have HM4:Hid (AlM Z v0 ((((w4.alloc (.cells #[.int .i64 2,.slice (some ⟨ga,0,none⟩) La.length xa,.bool false,.bool false,.bool false,.bool false] 48)).alloc (.cells #[.int .i64 4,.slice (some ⟨gb,0,none⟩) Lb.length xb,.bool false,.bool false,.bool false,.bool false] 48)).alloc (.cells #[.pointer (some ⟨w4.heap.size,0,none⟩),.pointer (some ⟨w4.heap.size+1,0,none⟩)] 45)).setCell ⟨x',1,none⟩ (.slice (some ⟨w4.heap.size+1+1,0,none⟩) 2 2)) (fun q=>if q=w4.heap.size+1+1 then(1,32,0)else if q=w4.heap.size+1 then(1,31,0)else if q=w4.heap.size then(1,30,0)else τ4 q) sb ga gb gc La Lb Lc (alS (p0+1) M La Lb (fun _=>false) (fun _=>false) []) A4 (alK sb x' (w4.heap.size+1+1) w4.heap.size (w4.heap.size+1) (.slice (some ⟨ga,0,none⟩) La.length xa) (.slice (some ⟨gb,0,none⟩) Lb.length xb) (fun _=>false) (fun _=>false))):=by
  have hz:∀(V:World) (o:Obj),(V.alloc o).heap.size=V.heap.size+1:=fun V o=>by simp
  have h:=(((HM3.out.new 30 #[.int .i64 2,.slice (some ⟨ga,0,none⟩) La.length xa,.bool false,.bool false,.bool false,.bool false] 48).new 31 #[.int .i64 4,.slice (some ⟨gb,0,none⟩) Lb.length xb,.bool false,.bool false,.bool false,.bool false] 48).new 32 #[.pointer (some ⟨w4.heap.size,0,none⟩),.pointer (some ⟨w4.heap.size+1,0,none⟩)] 45).set (e0:=⟨x',21,#[.pointer (some ⟨sb,0,none⟩),.slice none 0 0,.slice none 0 0],32⟩) (by simp) (by simp) 1 (.slice (some ⟨w4.heap.size+1+1,0,none⟩) 2 2);simp only[hz]at h;exact h
 clear HM3 y1 f1 hxl y3 f3;generalize hk1:w4.heap.size=k1 at *;generalize ((((w4.alloc (.cells #[.int .i64 2,.slice (some ⟨ga,0,none⟩) La.length xa,.bool false,.bool false,.bool false,.bool false] 48)).alloc (.cells #[.int .i64 4,.slice (some ⟨gb,0,none⟩) Lb.length xb,.bool false,.bool false,.bool false,.bool false] 48)).alloc (.cells #[.pointer (some ⟨k1,0,none⟩),.pointer (some ⟨k1+1,0,none⟩)] 45)).setCell ⟨x',1,none⟩ (.slice (some ⟨k1+1+1,0,none⟩) 2 2))=w5 at *;generalize (fun q=>if q=k1+1+1 then((1,32,0):Tag)else if q=k1+1 then(1,31,0)else if q=k1 then(1,30,0)else τ4 q)=τ5 at *;clear hk1;refine To.gP fun K hK=>?_;go_wp2_with fail
 go_loopw [22] (fun u wr=>∃(j:Nat) (A':SA),j<=La.length/\u=.int .i64 j/\Hid (AlM Z v0 wr τ5 sb ga gb gc La Lb Lc (alS (p0+1) M La Lb (dS (p0+1) (La.take j)) (fun _=>false) []) A' (alK sb x' (k1+1+1) k1 (k1+1) (.slice (some ⟨ga,0,none⟩) La.length xa) (.slice (some ⟨gb,0,none⟩) Lb.length xb) (dS (p0+1) (La.take j)) (fun _=>false)))) (fun u _=>La.length-(intOf u).toNat)
 case atStart=>exact⟨0,A4,Nat.zero_le _,rfl,by rw[List.take_zero,uU];exact HM4⟩
 case round=>
  obtain⟨j,A5,hj,rfl,HM⟩:=hrel;clear HM4;by_cases hjl:j<La.length
  ·have hx:La[j]?=some La[j]:=zci hjl;have Rf:La[j]∈La:=List.getElem_mem _;have HT:Hid (La.take (j+1)=La.take j++ [La[j]]):=List.take_succ_eq_append_getElem _;have ck:=HM.out.ka.cell j _ hx;generalize La[j]=x at *;obtain⟨b1,b2⟩:=eM ((p0+1:Nat):Int) x (by omega);obtain⟨p',rR⟩:∃p':Nat,partOf ((p0+1:Nat):Int) x=p':=⟨(partOf ((p0+1:Nat):Int) x).toNat,by omega⟩
   have HY:p'<4:=by omega
   have ox:=HM.out.own ⟨x',21,#[ptr sb,.slice (some ⟨k1+1+1,0,none⟩) 2 2,dV],32⟩ (by simp[alK]);have o1:=HM.out.own ⟨k1,30,iy 2 (.slice (some ⟨ga,0,none⟩) La.length xa) (dS (p0+1) (La.take j)),48⟩ (by simp[alK]);have ow:=HM.out.own ⟨k1+1+1,32,#[ptr k1,ptr (k1+1)],45⟩ (by simp[alK]);simp only at ox o1 ow;have xc1:wr.cell? ⟨x',1,none⟩=some (.slice (some ⟨k1+1+1,0,none⟩) 2 2):=ox.1.cell (o:=1) rfl;have wc0:wr.cell? ⟨k1+1+1,0,none⟩=some (.pointer (some ⟨k1,0,none⟩)):=ow.1.cell (o:=0) rfl;have c4:=EU HM.out.drew.rep x' k1 _ ox.1 rfl (by rw[ox.2];decide) 2 (by omega) (.slice (some ⟨ga,0,none⟩) La.length xa) _ o1.1 (by rw[o1.2];decide) x (HA2.out x Rf) p' rR (m:=alW (p0+1) La 2 (dS (p0+1) (La.take j))) al_find1 (al_on Rf rR) al_all rfl;rw[show Re (alS (p0+1) M La Lb (dS (p0+1) (La.take j)) (fun _=>false) []) ((2:Nat):Int) (alW (p0+1) La 2 (dS (p0+1) (La.take j))) p'=alS (p0+1) M La Lb (put (dS (p0+1) (La.take j)) p') (fun _=>false) []from rfl]at c4;unfold ptr at c4;have HFO:Hid (put (dS (p0+1) (La.take j)) p'=dS (p0+1) (La.take (j+1))):=by unfold Hid;rw[HT.out,rX rR]
   rw[HFO.out]at c4;have q5:(j:Int)< (La.length:Int):=by omega
   have HX:Hid (La[j]?=some x):=hx;clear hx Rf rR b1 b2 ox o1 ow;go_wp2_with fail
   go_region_held3 (fun W=>W.cell? ⟨x',1,none⟩=some (.slice (some ⟨k1+1+1,0,none⟩) 2 2)/\W.cell? ⟨k1+1+1,0,none⟩=some (.pointer (some ⟨k1,0,none⟩))/\W.cell? ⟨ga,j,none⟩=some (.string x)) (simp[*]) ((go_at_call 20;refine c4.mono ?_;rintro e we ⟨A6,wd,rfl,ZF,Q9,rfl⟩;have HN7:Hid (AlM Z v0 (wd.setCell ⟨k1,2+p',none⟩ (.bool true)) τ5 sb ga gb gc La Lb Lc (alS (p0+1) M La Lb (dS (p0+1) (La.take (j+1))) (fun _=>false) []) A6 (alK sb x' (k1+1+1) k1 (k1+1) (.slice (some ⟨ga,0,none⟩) La.length xa) (.slice (some ⟨gb,0,none⟩) Lb.length xb) (dS (p0+1) (La.take (j+1))) (fun _=>false))):=(by unfold Hid;have h:=(HM.out.drew.step ZF Q9).set (e0:=⟨k1,30,iy 2 (.slice (some ⟨ga,0,none⟩) La.length xa) (dS (p0+1) (La.take j)),48⟩) (by simp[alK]) (by simp[alK]) (2+p') (.bool true);simpa[alK,ET HY,HFO.out]using h);have m1:=(HN7.out.own ⟨x',21,#[ptr sb,.slice (some ⟨k1+1+1,0,none⟩) 2 2,dV],32⟩ (by simp[alK])).1.cell (o:=1) (v:=.slice (some ⟨k1+1+1,0,none⟩) 2 2) rfl;have m2:=(HN7.out.own ⟨k1+1+1,32,#[ptr k1,ptr (k1+1)],45⟩ (by simp[alK])).1.cell (o:=0) (v:=.pointer (some ⟨k1,0,none⟩)) rfl;have m3:=HN7.out.ka.cell j x HX.out))
   clear c4 xc1 wc0 ck m1 m2 m3 HX HT HFO HM ZF Q9;generalize wd.setCell ⟨k1,2+p',none⟩ (.bool true)=we at *;go_wp2_with fail
   go_roundw
   case rel=>exact⟨j+1,A6,by omega,by go_num,HN7⟩
   case measure=>simp[intOf];omega
  ·have hjn:j=La.length:=by omega
   subst hjn;have HM5:Hid (AlM Z v0 wr τ5 sb ga gb gc La Lb Lc (alS (p0+1) M La Lb (dS (p0+1) La) (fun _=>false) []) A5 (alK sb x' (k1+1+1) k1 (k1+1) (.slice (some ⟨ga,0,none⟩) La.length xa) (.slice (some ⟨gb,0,none⟩) Lb.length xb) (dS (p0+1) La) (fun _=>false))):=by have h:=HM.out;rw[List.take_length]at h;exact h
   clear HM;have hpk:partOf ((p0+1:Nat):Int) key=p:=by have:=eM ((p0+1:Nat):Int) key (by omega);omega
   have HY:p<4:=by have:=eM ((p0+1:Nat):Int) key (by omega);omega
   have ox:=HM5.out.own ⟨x',21,#[ptr sb,.slice (some ⟨k1+1+1,0,none⟩) 2 2,dV],32⟩ (by simp[alK]);have o2:=HM5.out.own ⟨k1+1,31,iy 4 (.slice (some ⟨gb,0,none⟩) Lb.length xb) (fun _=>false),48⟩ (by simp[alK]);have ow:=HM5.out.own ⟨k1+1+1,32,#[ptr k1,ptr (k1+1)],45⟩ (by simp[alK]);simp only at ox o2 ow;have xc1:wr.cell? ⟨x',1,none⟩=some (.slice (some ⟨k1+1+1,0,none⟩) 2 2):=ox.1.cell (o:=1) rfl;have wc1:wr.cell? ⟨k1+1+1,1,none⟩=some (.pointer (some ⟨k1+1,0,none⟩)):=ow.1.cell (o:=1) rfl;have c5:=EU HM5.out.rep x' (k1+1) _ ox.1 rfl (by rw[ox.2];decide) 4 (by omega) (.slice (some ⟨gb,0,none⟩) Lb.length xb) _ o2.1 (by rw[o2.2];decide) key (HB2.out key HKY.out) p hpk (m:=alW (p0+1) Lb 4 (fun _=>false)) al_find2 (al_on HKY.out hpk) al_all rfl;rw[show Re (alS (p0+1) M La Lb (dS (p0+1) La) (fun _=>false) []) ((4:Nat):Int) (alW (p0+1) Lb 4 (fun _=>false)) p=alS (p0+1) M La Lb (dS (p0+1) La) (put (fun _=>false) p) []from rfl]at c5;unfold ptr at c5;clear ox o2 ow;go_wp2_with fail
   refine To.gP fun K hK=>?_;go_wp2_with fail
   refine c5.mono ?_;rintro e we ⟨A6,wd,rfl,ZF,Q9,rfl⟩;clear c5 xc1 wc1;have HM6:Hid (AlM Z v0 (wd.setCell ⟨k1+1,2+p,none⟩ (.bool true)) τ5 sb ga gb gc La Lb Lc (alS (p0+1) M La Lb (dS (p0+1) La) (put (fun _=>false) p) []) A6 (alK sb x' (k1+1+1) k1 (k1+1) (.slice (some ⟨ga,0,none⟩) La.length xa) (.slice (some ⟨gb,0,none⟩) Lb.length xb) (dS (p0+1) La) (put (fun _=>false) p))):=by have h:=(HM5.out.step ZF Q9).set (e0:=⟨k1+1,31,iy 4 (.slice (some ⟨gb,0,none⟩) Lb.length xb) (fun _=>false),48⟩) (by simp[alK]) (by simp[alK]) (2+p) (.bool true);unfold Hid;simpa[alK,ET HY]using h
   clear ZF Q9 HM5;generalize wd.setCell ⟨k1+1,2+p,none⟩ (.bool true)=we at *;have c6:=TZ HM6.out.rep (some ⟨gc,0,none⟩) xc (L:=Lc) (by unfold maxLen;omega) x1 x2 (fun x hx=>by have:=(dG (HC2.out x hx)).2;unfold maxLen;omega) (fun j x hx=>⟨gc,0,rfl,by rw[Nat.zero_add];exact HM6.out.kc.cell j x hx⟩) (fun ib io e=>by cases e;rw[HM6.out.kc.tag];decide) (by show 0<_;omega);rw[al_read (v:=alV (p0+1) La Lb p) HKM.out]at c6;unfold ptr at c6;go_wp2_with fail
   refine To.gP fun K hK=>?_;go_wp2_with fail
   refine c6.mono ?_;rintro e w7 ⟨τ7,A7,rfl,hR7,hP7⟩;clear c6;have HM7:Hid _:=HM6.out.step hR7 hP7;clear hR7 hP7 HM6;go_wp2_with fail
   refine To.gP fun K hK=>?_;go_wp2_with fail
   refine To.gP fun K hK=>?_;go_wp2_with fail
   go_loopw [27] (fun u wr=>∃(i:Nat) (A':SA),i<=Lc.length/\u=.int .i64 i/\Hid (AlM Z v0 wr τ7 sb ga gb gc La Lb Lc (alS (p0+1) M La Lb (dS (p0+1) La) (put (fun _=>false) p) [fmRd Lc (alV (p0+1) La Lb p) i]) A' (alK sb x' (k1+1+1) k1 (k1+1) (.slice (some ⟨ga,0,none⟩) La.length xa) (.slice (some ⟨gb,0,none⟩) Lb.length xb) (dS (p0+1) La) (put (fun _=>false) p)))) (fun u _=>Lc.length-(intOf u).toNat)
   case atStart=>exact⟨0,A7,Nat.zero_le _,rfl,HM7⟩
   case round=>
    rename World=>Rc
    obtain⟨i,A8,hi,rfl,HN⟩:=hrel;clear HM7;by_cases hil:i<Lc.length
    ·have hx:Lc[i]?=some Lc[i]:=zci hil;have Rf:Lc[i]∈Lc:=List.getElem_mem _;generalize Lc[i]=x at *;have ck:=HN.out.kc.cell i _ hx;have hz:=(dG (HC2.out x Rf)).2;have c7:=Zp HN.out.rep 1 x (by unfold maxLen;omega) (by omega) (by omega);rw[al_ask HC1.out hx (al_visible (by omega) (HKN.out x Rf))]at c7;unfold ptr at c7;have q3:(i:Int)< (Lc.length:Int):=by omega
     clear hx Rf;go_wp2_with fail
     refine c7.mono ?_;rintro e wc ⟨A9,rfl,hR,hP⟩;clear c7;have HN4:Hid _:=HN.out.step hR hP;clear hR hP HN ck;go_wp2_with fail
     go_roundw
     case rel=>exact⟨i+1,A9,by omega,by go_num,HN4⟩
     case measure=>simp[intOf];omega
    ·have hin:i=Lc.length:=by omega
     subst hin;go_wp2_with fail
     exact HQ.out _ _ _ _ _ _ _ _ HN.out ⟨rfl,rfl,rfl,rfl,rfl,rfl,rfl,rfl,rfl,rfl⟩ rfl rfl rfl rfl
end
end
theorem alT_size:List.range (opsOf (cA alT)).size= [0,1,2,3,4,5,6,7,8,9]:=by kernel_rfl
theorem alT_0:∃o,(opsOf (cA alT))[0]?=some o/\o.guard=none/\o.dst=some 152/\o.op=.move (.tmp 18):=by refine⟨((opsOf (cA alT))[0]?).getD default,?_,?_,?_,?_⟩ <;>kernel_rfl
theorem alT_1:∃o,(opsOf (cA alT))[1]?=some o/\o.guard=none/\o.dst=some 153/\o.op=.move (.tmp 25):=by refine⟨((opsOf (cA alT))[1]?).getD default,?_,?_,?_,?_⟩ <;>kernel_rfl
theorem alT_2:∃o,(opsOf (cA alT))[2]?=some o/\o.guard=none/\o.dst=some 154/\∃cl:Call,o.op=.call cl/\cl.callee=.value (.func 23)/\cl.args=#[.tmp 152,.tmp 153]:=by refine⟨((opsOf (cA alT))[2]?).getD default,?_,?_,?_,(match (((opsOf (cA alT))[2]?).getD default).op with|.call cl=>cl|_=>default),?_,?_,?_⟩ <;>kernel_rfl
theorem alT_ops:List.range' 3 ((opsOf (cA alT)).toList.drop 3).length= [3,4,5,6,7,8,9]:=by kernel_rfl
theorem al_call{b:Frame}{a:Act}{c:List Frame}{v u:Value}(Yi:a.tmps[18]?=some v)(h25:a.tmps[25]?=some u)(hs:a.tmps.size=234)
 (h:To prog Q (Frame.enter prog 23 #[v,u] .normal) (b.at ((a.put (some 152) v).put (some 153) u) (.inRegion (opsOf (cA alT)) (2 :: [3,4,5,6,7,8,9]):: .code (cB alT):: k):: c) w):To prog Q (b.at a (.code alT :: k)) c w:=by
 rw[alT_eq];refine .step (fun _=>step_seq) (.region ?_);rw[alT_size];obtain⟨o0,q1,q2,q3,q4⟩:=alT_0;obtain⟨o1,p1,p2,p3,p4⟩:=alT_1;obtain⟨o2,r1,r2,r3,cl,r4,r5,r6⟩:=alT_2;refine To.op q1 (mR q2 _) (run_move q4 _) ?_;rw[q3];have e9:a.eval (.tmp 18)=v:=by simp[Act.eval,Array.getD_eq_getD_getElem?,Yi]
 rw[e9];refine To.op p1 (mR p2 _) (run_move p4 _) ?_;rw[p3];have e22:(a.put (some 152) v).eval (.tmp 25)=u:=by simp[Act.eval,Act.put,Array.getD_eq_getD_getElem?,h25]
 rw[e22];refine To.enter r1 (mR r2 _) (BN r4 r5 func23 (by kernel_rfl) rfl _) ?_;have e:cl.args.map ((a.put (some 152) v).put (some 153) u).eval=#[v,u]:=by rw[r6];simp[Act.eval,Act.put,Array.getD_eq_getD_getElem?,hs]
 rw[e];exact h
theorem alB_eq:alB=.seq (.region 11 alE false) (cB alB):=by kernel_rfl
theorem alE_size:List.range alE.size= [0,1,2,3,4]:=by kernel_rfl
theorem alE_0:∃o,alE[0]?=some o/\o.guard=none/\o.dst=some 62/\o.op=.move (.tmp 3):=by refine⟨(alE[0]?).getD default,?_,?_,?_,?_⟩ <;>kernel_rfl
theorem alE_1:∃o,alE[1]?=some o/\o.guard=none/\o.dst=some 63/\o.op=.binOp .sub 3 (.tmp 62) (.const (.int .i64 1)) 3:=by refine⟨(alE[1]?).getD default,?_,?_,?_,?_⟩ <;>kernel_rfl
theorem alE_2:∃o,alE[2]?=some o/\o.guard=none/\o.dst=some 64/\o.op=.move (.tmp 17):=by refine⟨(alE[2]?).getD default,?_,?_,?_,?_⟩ <;>kernel_rfl
theorem alE_3:∃o,alE[3]?=some o/\o.guard=none/\o.dst=some 65/\∃cl:Call,o.op=.call cl/\cl.callee=.value (.func 14)/\cl.args=#[.tmp 63,.tmp 64]:=by refine⟨(alE[3]?).getD default,?_,?_,?_,(match ((alE[3]?).getD default).op with|.call cl=>cl|_=>default),?_,?_,?_⟩ <;>kernel_rfl
noncomputable abbrev alEr(b:Frame)(a:Act)(k:List Item):Frame:=b.at a (.inRegion alE (3 :: [4]):: .code (cB alB):: k)
theorem al_callE{b:Frame}{a:Act}{c:List Frame}{p0:Nat}(hp:p0<4)(h3:a.tmps[3]?=some (.int .i64 ((p0+1:Nat):Int)))(h17:a.tmps[17]?=some (.int .i64 m))(hs:a.tmps.size=234)
 (h:To prog Q (Frame.enter prog 14 #[.int .i64 p0,.int .i64 m] .normal) (alEr b (((a.put (some 62) (.int .i64 ((p0+1:Nat):Int))).put (some 63) (.int .i64 p0)).put (some 64) (.int .i64 m)) k :: c) w):To prog Q (b.at a (.code alB :: k)) c w:=by
 rw[alB_eq];refine .step (fun _=>step_seq) (.region ?_);rw[alE_size];obtain⟨o0,q1,q2,q3,q4⟩:=alE_0;obtain⟨o1,p1,p2,p3,p4⟩:=alE_1;obtain⟨o2,s1,s2,s3,s4⟩:=alE_2;obtain⟨o3,r1,r2,r3,cl,r4,r5,r6⟩:=alE_3;refine To.op q1 (mR q2 _) (run_move q4 _) ?_;rw[q3,show a.eval (.tmp 3)=.int .i64 ((p0+1:Nat):Int) by simp[Act.eval,Array.getD_eq_getD_getElem?,h3]];have hr:(execOp (a.put (some 62) (.int .i64 ((p0+1:Nat):Int))).eval o1).run prog w=.ok (.value (.int .i64 p0)) w:=by
  have e1:(a.put (some 62) (.int .i64 ((p0+1:Nat):Int))).eval (.tmp 62)=.int .i64 ((p0+1:Nat):Int):=by simp[Act.eval,Act.put,Array.getD_eq_getD_getElem?,hs]
  unfold execOp;rw[p4];simp only[e1];go_simp;exact IntWalk.i64_in _ (by omega)
 refine To.op p1 (mR p2 _) hr ?_;rw[p3];refine To.op s1 (mR s2 _) (run_move s4 _) ?_;rw[s3,show ((a.put (some 62) (.int .i64 ((p0+1:Nat):Int))).put (some 63) (.int .i64 p0)).eval (.tmp 17)=.int .i64 m by simp[Act.eval,Act.put,Array.getD_eq_getD_getElem?,h17]];refine To.call r1 r2 r4 r5 func14 (by kernel_rfl) rfl ?_ h;rw[r6];simp[Act.eval,Act.put,Array.getD_eq_getD_getElem?,hs]
section
noncomputable def alR:Code:=cB (nthB 8 alBody)
theorem alBody_eq:alBody=.seq (cA alBody) (.seq (cA (nthB 1 alBody)) (.seq (cA (nthB 2 alBody)) (.seq (cA (nthB 3 alBody)) (.seq (cA (nthB 4 alBody)) (.seq (cA (nthB 5 alBody)) (.seq (cA (nthB 6 alBody)) (.seq (cA (nthB 7 alBody)) (.seq (.seq (cA (cA (nthB 8 alBody))) (.block 0 (.loop alL))) alR)))))))):=by kernel_rfl
noncomputable abbrev alK0:List Item:= [.code alL,.inLoop alL,.inBlock 0,.code alR]
structure KsAt(w:World)(n g cap:Nat)(L:List ByteArray):Prop where
 lo:n<=g
 hi:g<w.heap.size
 cell:∀(j:Nat) (x:ByteArray),L[j]?=some x->w.cell? ⟨g,j,none⟩=some (.string x)
 c1:L.length<=cap
 c2:cap<=maxLen
theorem KsAt.below(h:KsAt w n g cap L)(hB:Below w.heap.size w w'):KsAt w' n g cap L:=
 ⟨h.lo,Nat.lt_of_lt_of_le h.hi hB.size,fun j x hx=>(hB.cell (p:=⟨g,j,none⟩) h.hi).trans (h.cell j x hx),h.c1,h.c2⟩
theorem KsAt.low(h:KsAt w m g cap L)(hn:n<=m):KsAt w n g cap L:=⟨Nat.le_trans hn h.lo,h.hi,h.cell,h.c1,h.c2⟩
theorem keys_at(B:Nat)(h1:1<=B)(h2:B<64):Calls prog 17 #[.int .i64 B] w fun e w'=>∃g cap,e=.returned (.slice (some ⟨g,0,none⟩) (aA B).length cap)/\KsAt w' w.heap.size g cap (aA B)/\Below w.heap.size w w':=by refine(EO (w:=w) B).mono ?_;rintro e w' ⟨v,rfl,hrow,hB⟩;obtain⟨-,-,k3,-⟩:=uT B h2;replace k3:=k3 h1;obtain⟨g,cap,rfl,c1,c2,hc,-⟩:=dJ hrow (by omega);obtain⟨g1,g2⟩:=aR hrow g rfl;refine⟨g,cap,rfl,⟨g1,g2,fun j x hx=>?_,c1,c2⟩,hB⟩;have:=aE hx;rw[hc j (by omega),List.getElem?_map,hx];rfl
section
variable {v:World}
theorem al_begin(z0 z1 z2 z3 z4:Int)(h0: -9223372036854775808<=z0)(h0':z0<=9223372036854775807)(h1: -9223372036854775808<=z1)(h1':z1<=9223372036854775807)(h2: -9223372036854775808<=z2)(h2':z2<=9223372036854775807)(h3: -9223372036854775808<=z3)(h3':z3<=9223372036854775807)(h4: -9223372036854775808<=z4)(h4':z4<=9223372036854775807)
 (hQ:∀(b:Frame) (a:Act) (w:World) (p0 Ba Bb Bc ga gb gc xa xb xc qa:Nat) (key:ByteArray),b.fn=7->b.kind=.normal->p0<4->1<=Ba/\Ba<64->1<=Bb/\Bb<64->1<=Bc/\Bc<64->key∈aA Bb->AlSl a p0 0 ga gb gc xa xb xc qa (qa+1) (aA Ba).length (aA Bb).length (aA Bc).length key->
   Below v.heap.size v w->KsAt w v.heap.size ga xa (aA Ba)->KsAt w v.heap.size gb xb (aA Bb)->KsAt w v.heap.size gc xc (aA Bc)->ga<qa/\gb<qa/\gc<qa->v.heap.size<=qa->aT w qa #[.int .i64 0,.int .i64 0,.int .i64 0] 41->aT w (qa+1) #[dV,dV,dV] 43->
   To prog Q (b.at a alK0) [] w):
 To prog Q (Frame.enter prog 7 #[.int .i64 z0,.int .i64 z1,.int .i64 z2,.int .i64 z3,.int .i64 z4] .normal) [] v:=by
 obtain⟨B0,uQ,e0⟩:=uV z0 63 (by omega);obtain⟨B1,iM,e1⟩:=uV z1 63 (by omega);obtain⟨B2,dP,e2⟩:=uV z2 63 (by omega);obtain⟨p0,hp0,e3⟩:=uV z3 4 (by omega);rw[show ((63:Nat):Int)=63 from rfl]at e0 e1 e2;rw[show ((4:Nat):Int)=4 from rfl]at e3;have c0:∀W,_:=fun W=>qv z0 63 W h0 h0' (by omega) (by omega);have c1:∀W,_:=fun W=>qv z1 63 W h1 h1' (by omega) (by omega);have c2:∀W,_:=fun W=>qv z2 63 W h2 h2' (by omega) (by omega);have c3:∀W,_:=fun W=>qv z3 4 W h3 h3' (by omega) (by omega);rw[e0]at c0;rw[e1]at c1;rw[e2]at c2;rw[e3]at c3;obtain⟨-,-,l1,l2⟩:=uT (B1+1) (by omega);replace l1:=l1 (by omega);obtain⟨j,hj,e4⟩:=uV z4 (aA (B1+1)).length (by omega);have c4:∀W,_:=fun W=>qv z4 (aA (B1+1)).length W h4 h4' (by omega) (by omega);rw[e4]at c4;have k0:∀W:World,Calls prog 17 #[.int .i64 (1+(B0:Int))] W _:=fun W=>by have:=keys_at (w:=W) (B0+1) (by omega) (by omega);rw[show ((B0+1:Nat):Int)=1+(B0:Int)from by omega]at this;exact this
 have k1:∀W:World,Calls prog 17 #[.int .i64 (1+(B1:Int))] W _:=fun W=>by have:=keys_at (w:=W) (B1+1) (by omega) (by omega);rw[show ((B1+1:Nat):Int)=1+(B1:Int)from by omega]at this;exact this
 have k2:∀W:World,Calls prog 17 #[.int .i64 (1+(B2:Int))] W _:=fun W=>by have:=keys_at (w:=W) (B2+1) (by omega) (by omega);rw[show ((B2+1:Nat):Int)=1+(B2:Int)from by omega]at this;exact this
 have HQ:Hid _:=hQ;clear hQ h0 h0' h1 h1' h2 h2' h3 h3' h4 h4' e0 e1 e2 e3 e4;rw[enter_at (body:=alBody) func7 rfl,alBody_eq];walk_nrmf ntmps7;refine To.gP fun K hK=>?_;dsimp only[alBody,nthB,cA,cB,Tryz.f7,Option.getD_some];go_wp2_with fail
 refine To.gP fun K hK=>?_;dsimp only[alBody,nthB,cA,cB,Tryz.f7,Option.getD_some];go_wp2_with fail
 refine(c0 _).mono ?_;rintro e w ⟨rfl,rfl⟩;clear c0;go_wp2_with fail
 refine(k0 _).mono ?_;rintro e w0 ⟨ga,xa,rfl,KA,b0⟩;clear k0;go_wp2_with fail
 refine To.gP fun K hK=>?_;dsimp only[alBody,nthB,cA,cB,Tryz.f7,Option.getD_some];go_wp2_with fail
 refine(c1 _).mono ?_;rintro e w ⟨rfl,rfl⟩;clear c1;go_wp2_with fail
 refine(k1 _).mono ?_;rintro e w1 ⟨gb,xb,rfl,KB,b1⟩;clear k1;replace KA:=KA.below b1;replace KB:=KB.low b0.size;replace b0:=b0.trans (b1.mono b0.size);clear b1;go_wp2_with fail
 refine To.gP fun K hK=>?_;dsimp only[alBody,nthB,cA,cB,Tryz.f7,Option.getD_some];go_wp2_with fail
 refine(c2 _).mono ?_;rintro e w ⟨rfl,rfl⟩;clear c2;go_wp2_with fail
 refine(k2 _).mono ?_;rintro e w2 ⟨gc,xc,rfl,KC,b1⟩;clear k2;replace KA:=KA.below b1;replace KB:=KB.below b1;replace KC:=KC.low b0.size;replace b0:=b0.trans (b1.mono b0.size);clear b1;go_wp2_with fail
 refine To.gP fun K hK=>?_;dsimp only[alBody,nthB,cA,cB,Tryz.f7,Option.getD_some];go_wp2_with fail
 refine(c3 _).mono ?_;rintro e w ⟨rfl,rfl⟩;clear c3;go_wp2_with fail
 have hx:(aA (B1+1))[j]?=some (aA (B1+1))[j]:=zci hj;have HX:Hid ((aA (B1+1))[j]∈aA (B1+1)):=List.getElem_mem _;have ck:=KB.cell j _ hx;have q0:(j:Int)< ((aA (B1+1)).length:Int):=by omega
 have HKA:Hid _:=KA;have HKB:Hid _:=KB;have Zu:Hid _:=KC;have HB:Hid _:=b0;clear KA KB KC b0 hx;generalize (aA (B1+1))[j]=key at *;refine To.gP fun K hK=>?_;dsimp only[alBody,nthB,cA,cB,Tryz.f7,Option.getD_some];go_wp2_with fail
 refine(c4 _).mono ?_;rintro e w ⟨rfl,rfl⟩;clear c4;go_wp2_with fail
 refine To.gP fun K hK=>?_;dsimp only[alBody,nthB,cA,cB,Tryz.f7,Option.getD_some];go_wp2_with fail
 refine To.gP fun K hK=>?_;dsimp only[alBody,nthB,cA,cB,Tryz.f7,Option.getD_some];go_wp2_with fail
 refine .step (fun _=>step_seq) ?_;refine To.gP fun K hK=>?_;dsimp only[alBody,nthB,cA,cB,Tryz.f7,Option.getD_some];go_wp2_with fail
 refine .step (fun _=>step_block) (.step (fun _=>step_loop) ?_);have hBn:Below w.heap.size w ((w.alloc (.cells #[.int .i64 0,.int .i64 0,.int .i64 0] 41)).alloc (.cells #[dV,dV,dV] 43)):=((Below.refl _ _).alloc (Nat.le_refl _) _).alloc (by simp) _;have b1:=(aT.new w #[.int .i64 0,.int .i64 0,.int .i64 0] 41).of_eq (Below.heap_alloc (w.alloc (.cells #[.int .i64 0,.int .i64 0,.int .i64 0] 41)) (.cells #[dV,dV,dV] 43) w.heap.size (by simp));have b2:=aT.new (w.alloc (.cells #[.int .i64 0,.int .i64 0,.int .i64 0] 41)) #[dV,dV,dV] 43;have hz:(w.alloc (.cells #[.int .i64 0,.int .i64 0,.int .i64 0] 41)).heap.size=w.heap.size+1:=by simp
 rw[hz]at b2;exact HQ.out _ _ _ p0 (B0+1) (B1+1) (B2+1) ga gb gc xa xb xc w.heap.size key rfl rfl hp0 ⟨by omega,by omega⟩ ⟨by omega,by omega⟩ ⟨by omega,by omega⟩ HX.out ⟨rfl,rfl,by rw[show ((p0+1:Nat):Int)=1+(p0:Int) by omega];rfl,rfl,rfl,rfl,rfl,rfl,rfl,rfl⟩
  (HB.out.trans (hBn.mono HB.out.size)) (HKA.out.below hBn) (HKB.out.below hBn) (Zu.out.below hBn) ⟨HKA.out.hi,HKB.out.hi,Zu.out.hi⟩ HB.out.size b1 b2
end
end
noncomputable abbrev alFr(b:Frame)(a:Act)(sb:Nat)(kK:List Item):Frame:=b.at ((a.put (some 152) (ptr sb)).put (some 153) (.int .i64 1)) (.inRegion (opsOf (cA alT)) (2 :: [3,4,5,6,7,8,9]):: .code (cB alT):: kK)
theorem To.code_k{P:Program}{b:Frame}{a:Act}{c:List Frame}{x:Code}(h:∀K:Act->World->Prop,(∀a w,To P Q (b.at a k) c w->K a w)->x.wp P (Exit.then K fun _ _ _=>False) a w):To P Q (b.at a (.code x :: k)) c w:=.code (h _ fun _ _ h=>h) fun _ _ h=>h
theorem arr_at{A:Array Value}(h:i<A.size):A[i]?=some (A.getD i undef):=by simp[h]
structure AlP(w:World)(x' wb k1 k2 ga gb gc xa xb ab qa qn m:Nat)(La Lb Lc:List ByteArray)(N:ByteArray->Nat)(V:ByteArray->ByteArray)(QA QN:Array Value):Prop where
 x:w.cell? ⟨x',1,none⟩=some (.slice (some ⟨wb,0,none⟩) 2 2)
 w0:w.cell? ⟨wb,0,none⟩=some (ptr k1)
 w1:w.cell? ⟨wb,1,none⟩=some (ptr k2)
 k1:KnAt w ⟨k1,2,ga,xa,La⟩
 k2:KnAt w ⟨k2,4,gb,xb,Lb⟩
 kc:∀(j:Nat) (x:ByteArray),Lc[j]?=some x->w.cell? ⟨gc,j,none⟩=some (.string x)/\x.size<=1000
 NS:∀(j:Nat) (x:ByteArray),Lc[j]?=some x->N x<=1000/\Q7 ab j x (N x) (V x) w
 bqa:aT w qa QA 41
 bqn:aT w qn QN 43
 qaz:QA.size=3
 qnz:QN.size=3
 ne:ab≠qa/\ab≠qn/\qa≠qn
 old:0<m->∃ab0,QN[0]?=some (.slice (some ⟨ab0,0,none⟩) Lc.length Lc.length)/\ab0≠qa/\ab0≠qn/\∀(j:Nat) (x:ByteArray),Lc[j]?=some x->Q7 ab0 j x (N x) (V x) w
 few:Lc.length<=8
theorem al_rest{b:Frame}{a:Act}{c:List Frame}{p0 ga gb gc xa xb xc qa sb x' wb k1 k2:Nat}{key:ByteArray}{La Lb Lc:List ByteArray}{N:ByteArray->Nat}{V:ByteArray->ByteArray}{QA QN:Array Value}(hm:m<3)
 (hI:AlSl a p0 m ga gb gc xa xb xc qa qn La.length Lb.length Lc.length key) (Yi:a.tmps[18]?=some (ptr sb)) (Yj:a.tmps[19]?=some (ptr x')) (U3:a.tmps[20]?=some (.int .i64 2)) (h25:a.tmps[25]?=some (.int .i64 1))
 (hP:AlP w x' wb k1 k2 ga gb gc xa xb ab qa qn m La Lb Lc N V QA QN) (hOk:RtOk [⟨k1,2,ga,xa,La⟩,⟨k2,4,gb,xb,Lb⟩] Lc [2] (fun j=>N (Lc.getD j ⟨#[]⟩)) (fun j=>V (Lc.getD j ⟨#[]⟩))) {Q:Frame->List Frame->World->Prop}
 (hQ:∀(a':Act) (w1 w':World),AlSl a' p0 m ga gb gc xa xb xc qa qn La.length Lb.length Lc.length key->Below w.heap.size w w1->Below w1.heap.size ((w1.setCell ⟨qa,m,none⟩ (.int .i64 n)).setCell ⟨qn,m,none⟩ (.slice (some ⟨ab,0,none⟩) Lc.length Lc.length)) w'->To prog Q (b.at a' kK) c w'):
 To prog Q ((alFr b a sb kK).finish (.tuple #[.slice (some ⟨ab,0,none⟩) Lc.length Lc.length,.int .i64 (n:Nat),.int .i64 0])) c w:=by
 obtain⟨tms,EF⟩:=a;obtain⟨hd,hs,t3,t11,t12,t13,t14,t15,t16,t17⟩:=hI;simp only at hd hs t3 t11 t12 t13 t14 t15 t16 t17 Yi Yj U3 h25;subst hd;obtain⟨o2,r1,r2,r3,cl,r4,r5,r6⟩:=alT_2;rw[yG r1,r3,<-alT_ops];have hg:∀{j:Nat} {x:ByteArray},Lc[j]?=some x->Lc.getD j ⟨#[]⟩=x:=fun{j x} hx=>by simp[List.getD,hx]
 have few:=hP.few;have HP:Hid (AlP w x' wb k1 k2 ga gb gc xa xb ab qa qn m La Lb Lc N V QA QN):=hP;have HO:Hid (RtOk [⟨k1,2,ga,xa,La⟩,⟨k2,4,gb,xb,Lb⟩] Lc [2] (fun j=>N (Lc.getD j ⟨#[]⟩)) (fun j=>V (Lc.getD j ⟨#[]⟩))):=hOk;have HG:Hid (∀{j:Nat} {x:ByteArray},Lc[j]?=some x->Lc.getD j ⟨#[]⟩=x):=hg;have HQ:Hid _:=hQ;clear hP hOk hg hQ r1 r2 r3 r4 r5 r6;refine To.T9 fun K hK=>?_;rw[yF];obtain⟨fv,hT,aj⟩:=array234 tms hs;replace t3:=aj 3 _ t3;replace t11:=aj 11 _ t11;replace t12:=aj 12 _ t12;replace t13:=aj 13 _ t13;replace t14:=aj 14 _ t14;replace t15:=aj 15 _ t15;replace t16:=aj 16 _ t16;replace t17:=aj 17 _ t17;replace Yi:=aj 18 _ Yi;replace Yj:=aj 19 _ Yj;replace U3:=aj 20 _ U3;replace h25:=aj 25 _ h25;clear hs aj;simp only[List.range,List.range.loop,List.map_cons,List.map_nil,t3,t11,t12,t13,t14,t15,t16,t17,Yi,Yj,U3,h25]at hT;subst hT;clear t3 t11 t12 t13 t14 t15 t16 t17 Yi Yj U3 h25;unfold ptr;dsimp only[alT,alB,alL,alBody,nthB,inOf,cA,cB,opsOf,Tryz.f7,Option.getD_some,Act.put];simp only[List.drop];go_wp2_with fail
 dsimp only[alT,alB,alL,alBody,nthB,inOf,cA,cB,opsOf,Tryz.f7,Option.getD_some];refine To.gP fun K hK=>?_;go_wp2_with fail
 have hB:Below w.heap.size w ((w.alloc (.cells #[.int .i64 2] 3)).alloc (.cells #[.int .i64 0,.slice (some ⟨gc,0,none⟩) Lc.length xc,.slice none 0 0,.slice (some ⟨w.heap.size,0,none⟩) 1 1] 60)):=((Below.refl _ _).alloc (Nat.le_refl _) _).alloc (by simp) _;have b2:=(aT.new w #[.int .i64 2] 3).of_eq (Below.heap_alloc (w.alloc (.cells #[.int .i64 2] 3)) (.cells #[.int .i64 0,.slice (some ⟨gc,0,none⟩) Lc.length xc,.slice none 0 0,.slice (some ⟨w.heap.size,0,none⟩) 1 1] 60) w.heap.size (by simp));have b3:=aT.new (w.alloc (.cells #[.int .i64 2] 3)) #[.int .i64 0,.slice (some ⟨gc,0,none⟩) Lc.length xc,.slice none 0 0,.slice (some ⟨w.heap.size,0,none⟩) 1 1] 60;have LK:∀(V:World) (o:Obj),(V.alloc o).heap.size=V.heap.size+1:=fun V o=>by simp
 simp only[LK]at b3;generalize ((w.alloc (.cells #[.int .i64 2] 3)).alloc (.cells #[.int .i64 0,.slice (some ⟨gc,0,none⟩) Lc.length xc,.slice none 0 0,.slice (some ⟨w.heap.size,0,none⟩) 1 1] 60))=W3 at *;have cr:=right_any (w:=W3) (xb:=x') (rb:=w.heap.size+1) (wcap:=2) (a:=some ⟨wb,0,none⟩) (D:= [⟨k1,2,ga,xa,La⟩,⟨k2,4,gb,xb,Lb⟩]) (R:=⟨Lc,gc,xc, [2],some ⟨w.heap.size,0,none⟩,1,ab,Lc.length,fun j=>N (Lc.getD j ⟨#[]⟩),fun j=>V (Lc.getD j ⟨#[]⟩)⟩)
  ⟨below_cell hB HP.out.x,⟨fun i d' hd'=>by
    match i,hd' with
    | 0,hd'=>cases hd';exact⟨_,rfl,below_cell hB HP.out.w0⟩
    | 1,hd'=>cases hd';exact⟨_,rfl,below_cell hB HP.out.w1⟩,fun i d' hd'=>by
    match i,hd' with
    | 0,hd'=>cases hd';exact HP.out.k1.below hB
    | 1,hd'=>cases hd';exact HP.out.k2.below hB,by simp⟩,b3.cell (o:=1) rfl,b3.cell (o:=3) rfl,fun j x hx=>⟨below_cell hB (HP.out.kc j x hx).1,(HP.out.kc j x hx).2⟩,fun j m hm=>by
    match j,hm with
    | 0,hm=>cases hm;exact⟨by omega,_,rfl,b2.cell (o:=0) rfl⟩,fun j x hx=>by obtain⟨a0,a1,a2,a3⟩:=HP.out.NS j x hx;simp only[HG.out hx];exact⟨a0,below_cell hB a1,below_cell hB a2,below_cell hB a3⟩,few,by simp⟩ HO.out
 simp only at cr;unfold ptr at cr;have HB:Hid (Below w.heap.size w W3):=hB;clear b2 b3 hB HO HG LK;refine cr.mono ?_;rintro e w1 ⟨rfl,iM⟩;clear cr;have HB1:Hid (Below w.heap.size w w1):=HB.out.trans (iM.mono HB.out.size);clear HB iM;go_wp2_with fail
 refine To.gP fun K hK=>?_;go_wp2_with fail
 have ba:aT w1 qa QA 41:=HP.out.bqa.of_eq (HB1.out.block _ HP.out.bqa.lt);have bn:aT w1 qn QN 43:=HP.out.bqn.of_eq (HB1.out.block _ HP.out.bqn.lt);have ca:w1.cell? ⟨qa,m,none⟩=some (QA.getD m undef):=ba.cell (o:=m) (arr_at (by rw[HP.out.qaz];exact hm));have cn:w1.cell? ⟨qn,m,none⟩=some (QN.getD m undef):=bn.cell (o:=m) (arr_at (by rw[HP.out.qnz];exact hm));have fa:=ba.frozen m;have fn:=bn.frozen m;have hne:=HP.out.ne;have q3:(m:Int)<3:=by omega
 have HBA:Hid (aT w1 qa QA 41):=ba;have HBN:Hid (aT w1 qn QN 43):=bn;clear ba bn;refine To.gP fun K hK=>?_;go_wp2_with fail
 have bn2:aT (w1.setCell ⟨qa,m,none⟩ (.int .i64 n)) qn QN 43:=HBN.out.of_eq (zch _ _ _ _ (Ne.symm hne.2.2));have cn2:=bn2.cell (o:=m) (arr_at (by rw[HP.out.qnz];exact hm));have fn2:=bn2.frozen m;have HW2:Hid (Below w1.heap.size ((w1.setCell ⟨qa,m,none⟩ (.int .i64 n)).setCell ⟨qn,m,none⟩ (.slice (some ⟨ab,0,none⟩) Lc.length Lc.length)) ((w1.setCell ⟨qa,m,none⟩ (.int .i64 n)).setCell ⟨qn,m,none⟩ (.slice (some ⟨ab,0,none⟩) Lc.length Lc.length))):=⟨rfl,rfl,rfl,by simp[World.setCell],fun _ _=>rfl⟩
 clear ca cn fa fn;refine To.gP fun K hK=>?_;go_wp2_with fail
 have bn3:aT ((w1.setCell ⟨qa,m,none⟩ (.int .i64 n)).setCell ⟨qn,m,none⟩ (.slice (some ⟨ab,0,none⟩) Lc.length Lc.length)) qn (QN.setIfInBounds m (.slice (some ⟨ab,0,none⟩) Lc.length Lc.length)) 43:=bn2.set m _;have hc:∀{q o:Nat} {v:Value},q≠qa->q≠qn->w.cell? ⟨q,o,none⟩=some v->((w1.setCell ⟨qa,m,none⟩ (.int .i64 n)).setCell ⟨qn,m,none⟩ (.slice (some ⟨ab,0,none⟩) Lc.length Lc.length)).cell? ⟨q,o,none⟩=some v:=fun{q o v} h1 h2 h=>by rw[World.cell?_setCell_far _ _ _ _ (Ne.symm h2),World.cell?_setCell_far _ _ _ _ (Ne.symm h1)];exact below_cell HB1.out h
 have HC:Hid (∀{q o:Nat} {v:Value},q≠qa->q≠qn->w.cell? ⟨q,o,none⟩=some v->((w1.setCell ⟨qa,m,none⟩ (.int .i64 n)).setCell ⟨qn,m,none⟩ (.slice (some ⟨ab,0,none⟩) Lc.length Lc.length)).cell? ⟨q,o,none⟩=some v):=hc;have HBN3:Hid (aT ((w1.setCell ⟨qa,m,none⟩ (.int .i64 n)).setCell ⟨qn,m,none⟩ (.slice (some ⟨ab,0,none⟩) Lc.length Lc.length)) qn (QN.setIfInBounds m (.slice (some ⟨ab,0,none⟩) Lc.length Lc.length)) 43):=bn3;have HZ:Hid (w1.heap.size<=((w1.setCell ⟨qa,m,none⟩ (.int .i64 n)).setCell ⟨qn,m,none⟩ (.slice (some ⟨ab,0,none⟩) Lc.length Lc.length)).heap.size):=by simp[Hid,World.setCell]
 clear hc bn3 bn2 cn2 fn2 HBA HBN hne;generalize sD:(w1.setCell ⟨qa,m,none⟩ (.int .i64 n)).setCell ⟨qn,m,none⟩ (.slice (some ⟨ab,0,none⟩) Lc.length Lc.length)=W2 at HC HBN3 HW2 HZ⊢;have HE:Hid ((w1.setCell ⟨qa,m,none⟩ (.int .i64 n)).setCell ⟨qn,m,none⟩ (.slice (some ⟨ab,0,none⟩) Lc.length Lc.length)=W2):=sD;clear sD;by_cases h0:m=0
 ·subst h0;refine To.code_k fun K hK=>?_;go_wp2_with fail
  exact HQ.out _ w1 W2 ⟨rfl,rfl,rfl,rfl,rfl,rfl,rfl,rfl,rfl,rfl⟩ HB1.out (by rw[HE.out];exact HW2.out)
 ·obtain⟨ab0,z0,n1,n2,hold⟩:=HP.out.old (by omega);have hm0:(0:Int)< (m:Int):=by omega
  have HA:Hid (∀(j:Nat) (x:ByteArray),Lc[j]?=some x->Q7 ab j x (N x) (V x) W2):=fun j x hx=>by obtain⟨-,a1,a2,a3⟩:=HP.out.NS j x hx;exact⟨HC.out HP.out.ne.1 HP.out.ne.2.1 a1,HC.out HP.out.ne.1 HP.out.ne.2.1 a2,HC.out HP.out.ne.1 HP.out.ne.2.1 a3⟩
  have HA0:Hid (∀(j:Nat) (x:ByteArray),Lc[j]?=some x->Q7 ab0 j x (N x) (V x) W2):=fun j x hx=>by obtain⟨a1,a2,a3⟩:=hold j x hx;exact⟨HC.out n1 n2 a1,HC.out n1 n2 a2,HC.out n1 n2 a3⟩
  have c0:W2.cell? ⟨qn,0,none⟩=some (.slice (some ⟨ab0,0,none⟩) Lc.length Lc.length):=HBN3.out.cell (o:=0) (by rw[zck h0];exact z0);clear hold z0 n1 n2 h0 HC HBN3;refine To.code_k fun K hK=>?_;go_wp2_with fail
  go_loopw [33] (fun u wr=>∃j:Nat,j<=Lc.length/\u=.int .i64 j/\Below W2.heap.size W2 wr) (fun u _=>Lc.length-(intOf u).toNat)
  case atStart=>exact⟨0,Nat.zero_le _,rfl,Below.refl _ _⟩
  case round=>
   obtain⟨j,hj,rfl,hB⟩:=hrel;by_cases hjl:j<Lc.length
   ·have hx:Lc[j]?=some Lc[j]:=zci hjl;obtain⟨a1,a2,a3⟩:=HA.out j _ hx;obtain⟨b1,b2,b3⟩:=HA0.out j _ hx;replace a1:=below_cell hB a1;replace a2:=below_cell hB a2;replace a3:=below_cell hB a3;replace b1:=below_cell hB b1;replace b2:=below_cell hB b2;replace b3:=below_cell hB b3;have c1:=below_cell hB c0;generalize Lc[j]=x at *;have q1:(j:Int)< (Lc.length:Int):=by omega
    clear hx;go_wp2_with fail
    go_region_held3 (fun W=>W.cell? ⟨qn,0,none⟩=some (.slice (some ⟨ab0,0,none⟩) Lc.length Lc.length)/\W.cell? ⟨ab,j*3,none⟩=some (.string x)/\W.cell? ⟨ab,j*3+1,none⟩=some (.int .i64 (N x:Nat))/\W.cell? ⟨ab,j*3+2,none⟩=some (.string (V x))/\W.cell? ⟨ab0,j*3,none⟩=some (.string x)/\W.cell? ⟨ab0,j*3+1,none⟩=some (.int .i64 (N x:Nat))/\W.cell? ⟨ab0,j*3+2,none⟩=some (.string (V x))) (simp[*]) (fail)
    go_wp2_with fail
    go_roundw
    case rel=>exact⟨j+1,by omega,by go_num,hB.drew⟩
    case measure=>simp[intOf];omega
   ·have hjn:j=Lc.length:=by omega
    subst hjn;go_wp2_with fail
    exact HQ.out _ w1 wr ⟨rfl,rfl,rfl,rfl,rfl,rfl,rfl,rfl,rfl,rfl⟩ HB1.out (by rw[HE.out];exact hB.mono HZ.out)
def alMost(N:ByteArray->Nat)(L:List ByteArray)(i:Nat):Nat:=if (L.take i).any (fun x=>decide (0<N x))&& decide (1<L.length)then L.length else 0
theorem alMost_step{N:ByteArray->Nat}{x:ByteArray}(hx:L[i]?=some x):alMost N L (i+1)=if 0<N x/\1<L.length then L.length else alMost N L i:=by obtain⟨hi,rfl⟩:=List.getElem?_eq_some_iff.1 hx;unfold alMost;rw[List.take_succ_eq_append_getElem hi,List.any_append];simp only[List.any_cons,List.any_nil,Bool.or_false];by_cases h1:0<N L[i]<;>by_cases h2:1<L.length<;>simp[h1,h2]
theorem alR_eq:alR=.seq (cA alR) (.seq (cA (cB alR)) (cB (cB alR))):=by kernel_rfl
theorem al_end{v:World}{b:Frame}{a:Act}{p0 ga gb gc xa xb xc qa la lb ab0:Nat}{key:ByteArray}{Lc:List ByteArray}{N:ByteArray->Nat}(hb:b.fn=7)(hk:b.kind=.normal)(hI:AlSl a p0 3 ga gb gc xa xb xc qa qn la lb Lc.length key){n0 n1 n2:Nat}(bA:aT v qa #[.int .i64 n0,.int .i64 n1,.int .i64 n2] 41)
 (c0:v.cell? ⟨qn,0,none⟩=some (.slice (some ⟨ab0,0,none⟩) Lc.length Lc.length)) (hA:∀(j:Nat) (x:ByteArray),Lc[j]?=some x->v.cell? ⟨ab0,j*3+1,none⟩=some (.int .i64 (N x))) (few:Lc.length<=8) (g1:n0<=n2) (g2:n2<=n1) (g3:n1=alMost N Lc Lc.length):
 To prog (fun fr c w'=>c= []/\fr.fn=7/\(∀u,fr.leaving prog u (.returned (.bool true)))/\Below v.heap.size v w') (b.at a [.code alR]) [] v:=by
 obtain⟨tms,EF⟩:=a;obtain⟨hd,hs,t3,t11,t12,t13,t14,t15,t16,t17⟩:=hI;simp only at hd hs t3 t11 t12 t13 t14 t15 t16 t17;subst hd;obtain⟨fv,hT,aj⟩:=array234 tms hs;replace t13:=aj 13 _ t13;replace t15:=aj 15 _ t15;replace t16:=aj 16 _ t16;clear hs aj t3 t11 t12 t14 t17;simp only[List.range,List.range.loop,List.map_cons,List.map_nil,t13,t15,t16]at hT;subst hT;clear t13 t15 t16;have HA:Hid (∀(j:Nat) (x:ByteArray),Lc[j]?=some x->v.cell? ⟨ab0,j*3+1,none⟩=some (.int .i64 (N x))):=hA;have HB:Hid (aT v qa #[.int .i64 n0,.int .i64 n1,.int .i64 n2] 41):=bA;have HG:Hid (n1=alMost N Lc Lc.length):=g3;clear hA bA g3;rw[alR_eq];refine To.gP fun K hK=>?_;dsimp only[alR,alBody,nthB,cA,cB,Tryz.f7,Option.getD_some];go_wp2_with fail
 refine To.gP fun K hK=>?_;dsimp only[alR,alBody,nthB,cA,cB,Tryz.f7,Option.getD_some];go_wp2_with fail
 go_loopw [35,34] (fun u t wr=>∃i:Nat,i<=Lc.length/\u=.int .i64 i/\t=.int .i64 (alMost N Lc i:Nat)/\Below v.heap.size v wr) (fun u _ _=>Lc.length-(intOf u).toNat)
 case atStart=>exact⟨0,Nat.zero_le _,rfl,by simp[alMost],Below.refl _ _⟩
 case round=>
  obtain⟨i,hi,rfl,rfl,hB⟩:=hrel;have c1:=below_cell hB c0;by_cases hil:i<Lc.length
  ·have hx:Lc[i]?=some Lc[i]:=zci hil;have a1:=below_cell hB (HA.out i _ hx);have HS:Hid _:=alMost_step (N:=N) hx;generalize Lc[i]=x at *;clear hx;have q1:(i:Int)< (Lc.length:Int):=by omega
   by_cases h1:0<N x
   ·by_cases h2:1<Lc.length
    ·have q2:(0:Int)< (N x:Int):=by omega
     have q3:(1:Int)< (Lc.length:Int):=by omega
     have HS':Hid (alMost N Lc (i+1)=Lc.length):=by unfold Hid;rw[HS.out,if_pos ⟨h1,h2⟩]
     clear HS h1 h2;go_wp2_with fail
     go_roundw
     case rel=>exact⟨i+1,by omega,by go_num,by rw[HS'.out],hB⟩
     case measure=>simp[intOf];omega
    ·have q2:(0:Int)< (N x:Int):=by omega
     have q3:¬((1:Int)< (Lc.length:Int)):=by omega
     have HS':Hid (alMost N Lc (i+1)=alMost N Lc i):=by unfold Hid;rw[HS.out,if_neg (fun h=>h2 h.2)]
     clear HS h1 h2;go_wp2_with fail
     go_roundw
     case rel=>exact⟨i+1,by omega,by go_num,by rw[HS'.out],hB⟩
     case measure=>simp[intOf];omega
   ·have q2:¬((0:Int)< (N x:Int)):=by omega
    have HS':Hid (alMost N Lc (i+1)=alMost N Lc i):=by unfold Hid;rw[HS.out,if_neg (fun h=>h1 h.1)]
    clear HS h1;go_wp2_with fail
    go_roundw
    case rel=>exact⟨i+1,by omega,by go_num,by rw[HS'.out],hB⟩
    case measure=>simp[intOf];omega
  ·have hin:i=Lc.length:=by omega
   subst hin;rw[<-HG.out];have bB:=HB.out.of_eq (hB.block qa HB.out.lt);have d0:=bB.cell (o:=0) rfl;have d1:=bB.cell (o:=1) rfl;have d2:=bB.cell (o:=2) rfl;have q1:(n0:Int)<=(n2:Int):=by omega
   have q2:(n2:Int)<=(n1:Int):=by omega
   have HBB:Hid (Below v.heap.size v wr):=hB;clear bB hB g1 g2 HB HA HG;go_wp2_with fail
   refine To.last (R:=fun a' w'=>w'=wr/\a'.defers= []/\a'.tmps.getD 10 undef=.bool true) ?_ rfl ?_
   ·dsimp only[alR,alBody,nthB,cA,cB,Tryz.f7,Option.getD_some];go_wp2_with fail
   ·rintro a' todo w' ⟨rfl,e0,q8⟩;refine To.done ⟨rfl,hb,fun u=>⟨rfl,e0,hk,Tryz.f7,by show prog.funcs[b.fn]?=_;rw[hb];exact func7,?_⟩,HBB.out⟩;rw[<-q8];exact results_tmp rfl _ _ _
section
structure AlX where
 p0:Nat
 ga:Nat
 gb:Nat
 gc:Nat
 xa:Nat
 xb:Nat
 xc:Nat
 qa:Nat
 key:ByteArray
 La:List ByteArray
 Lb:List ByteArray
 Lc:List ByteArray
 p:Nat
structure AlXo(X:AlX):Prop where
 p0:X.p0<4
 a:∃B,1<=B/\B<64/\aA B=X.La
 b:∃B,1<=B/\B<64/\aA B=X.Lb
 c:∃B,1<=B/\B<64/\aA B=X.Lc
 key:X.key∈X.Lb
 p:(partOf ((X.p0+1:Nat):Int) X.key).toNat=X.p
def AlX.r(X:AlX):MR:=fmRd X.Lc (alV (X.p0+1) X.La X.Lb X.p) X.Lc.length
def AlX.s(X:AlX)(m:Nat):MS:=alS (X.p0+1) ((m:Int)+1) X.La X.Lb (dS (X.p0+1) X.La) (put (fun _=>false) X.p) [X.r]
def AlX.N(X:AlX)(x:ByteArray):Nat:=alN (X.p0+1) X.La X.Lb X.p X.Lc x
def AlX.V(X:AlX)(x:ByteArray):ByteArray:=alVal (X.p0+1) X.La X.Lb X.p X.Lc x
abbrev AlX.Sl(X:AlX)(m:Nat)(a:Act):Prop:=AlSl a X.p0 m X.ga X.gb X.gc X.xa X.xb X.xc X.qa (X.qa+1) X.La.length X.Lb.length X.Lc.length X.key
structure AlI(X:AlX)(W0 W:World)(Sb:Nat->Prop)(m:Nat)(a:Act):Prop where
 sl:X.Sl m a
 kp:Kp W0 W
 sb:∀k,Sb k->W0.heap.size<=k/\k<W.heap.size
 nsb:¬Sb X.ga/\¬Sb X.gb/\¬Sb X.gc/\¬Sb X.qa/\¬Sb (X.qa+1)
 ka:KsAt W W0.heap.size X.ga X.xa X.La
 kb:KsAt W W0.heap.size X.gb X.xb X.Lb
 kc:KsAt W W0.heap.size X.gc X.xc X.Lc
 lt:X.ga<X.qa/\X.gb<X.qa/\X.gc<X.qa/\W0.heap.size<=X.qa
 bqa:∃QA,aT W X.qa QA 41/\QA.size=3/\∀i,i<m->QA[i]?=some (.int .i64 (askM (X.s i) X.r:Nat))
 bqn:∃QN,aT W (X.qa+1) QN 43/\QN.size=3/\(0<m->∃ab0,QN[0]?=some (.slice (some ⟨ab0,0,none⟩) X.Lc.length X.Lc.length)/\¬Sb ab0/\ab0≠X.qa/\ab0≠X.qa+1/\ab0<W.heap.size/\∀(j:Nat) (x:ByteArray),X.Lc[j]?=some x->Q7 ab0 j x (X.N x) (X.V x) W)
noncomputable abbrev alKK:List Item:= [.inBlock 1,.code (cB (cB alL)),.inLoop alL,.inBlock 0,.code alR]
theorem alL_eq:alL=.seq (.seq (cA (cA alL)) (.cond (.tmp 59) .skip (.exit 0))) (.seq (.block 1 alB) (cB (cB alL))):=by kernel_rfl
section
variable {X:AlX}{m:Nat}{a:Act}{b:Frame}{c:List Frame}{v:World}{Q:Frame->List Frame->World->Prop}
theorem al_cond(hI:X.Sl m a)(hm:m<=3)(hQ:∀a',X.Sl m a'->a'.eval (.tmp 59)=.bool (decide (m<3))->To prog Q (b.at a' k) c v):To prog Q (b.at a (.code (cA (cA alL)):: k)) c v:=by
 obtain⟨tms,EF⟩:=a;obtain⟨hd,hs,t3,t11,t12,t13,t14,t15,t16,t17⟩:=hI;simp only at hd hs t3 t11 t12 t13 t14 t15 t16 t17;subst hd;obtain⟨fv,hT,aj⟩:=array234 tms hs;replace t3:=aj 3 _ t3;replace t11:=aj 11 _ t11;replace t12:=aj 12 _ t12;replace t13:=aj 13 _ t13;replace t14:=aj 14 _ t14;replace t15:=aj 15 _ t15;replace t16:=aj 16 _ t16;replace t17:=aj 17 _ t17;clear hs aj;simp only[List.range,List.range.loop,List.map_cons,List.map_nil,t3,t11,t12,t13,t14,t15,t16,t17]at hT;subst hT;clear t3 t11 t12 t13 t14 t15 t16 t17;have HQ:Hid _:=hQ;clear hQ;refine To.code_k fun K hK=>?_;dsimp only[alL,alBody,nthB,inOf,cA,cB,Tryz.f7,Option.getD_some];by_cases h:m<3
 ·have q:(m:Int)<3:=by omega
  go_wp2_with fail
  exact HQ.out _ ⟨rfl,rfl,rfl,rfl,rfl,rfl,rfl,rfl,rfl,rfl⟩ (by simp[Act.eval,h])
 ·have q:¬((m:Int)<3):=by omega
  go_wp2_with fail
  exact HQ.out _ ⟨rfl,rfl,rfl,rfl,rfl,rfl,rfl,rfl,rfl,rfl⟩ (by simp[Act.eval,h])
theorem al_tail(hI:X.Sl m a)(hm:m<3)(hQ:∀a',X.Sl (m+1) a'->To prog Q (b.at a' alK0) c v):To prog Q (b.at a alKK) c v:=by
 refine .step (fun _=>step_inBlock) ?_;obtain⟨tms,EF⟩:=a;obtain⟨hd,hs,t3,t11,t12,t13,t14,t15,t16,t17⟩:=hI;simp only at hd hs t3 t11 t12 t13 t14 t15 t16 t17;subst hd;obtain⟨fv,hT,aj⟩:=array234 tms hs;replace t3:=aj 3 _ t3;replace t11:=aj 11 _ t11;replace t12:=aj 12 _ t12;replace t13:=aj 13 _ t13;replace t14:=aj 14 _ t14;replace t15:=aj 15 _ t15;replace t16:=aj 16 _ t16;replace t17:=aj 17 _ t17;clear hs aj;simp only[List.range,List.range.loop,List.map_cons,List.map_nil,t3,t11,t12,t13,t14,t15,t16,t17]at hT;subst hT;clear t3 t11 t12 t13 t14 t15 t16 t17;have HQ:Hid _:=hQ;clear hQ;refine To.code_k fun K hK=>?_;dsimp only[alL,alBody,nthB,inOf,cA,cB,Tryz.f7,Option.getD_some];go_wp2_with fail
 refine .step (fun _=>step_inLoop) ?_;exact HQ.out _ ⟨rfl,rfl,rfl,rfl,rfl,rfl,rfl,rfl,rfl,by simp⟩
theorem al_head(hI:X.Sl m a)(hm:m<3)(hQ:∀a',X.Sl m a'->To prog Q (b.at a' (.code alB :: alKK)) c v):To prog Q (b.at a alK0) c v:=by show To prog Q (b.at a (.code alL :: [.inLoop alL,.inBlock 0,.code alR])) c v;rw[show (Item.code alL)=Item.code (.seq (.seq (cA (cA alL)) (.cond (.tmp 59) .skip (.exit 0))) (.seq (.block 1 alB) (cB (cB alL))))from congrArg Item.code alL_eq];refine .step (fun _=>step_seq) (.step (fun _=>step_seq) (al_cond hI (by omega) fun a' h1 h2=>?_));refine .step (fun _=>step_cond (t:=true) (by rw[h2];simp[hm])) ?_;exact .step (fun _=>step_skip) (.step (fun _=>step_seq) (.step (fun _=>step_block) (hQ a' h1)))
theorem al_exit(hI:X.Sl 3 a)(hQ:∀a',X.Sl 3 a'->To prog Q (b.at a' [.code alR]) c v):To prog Q (b.at a alK0) c v:=by show To prog Q (b.at a (.code alL :: [.inLoop alL,.inBlock 0,.code alR])) c v;rw[show (Item.code alL)=Item.code (.seq (.seq (cA (cA alL)) (.cond (.tmp 59) .skip (.exit 0))) (.seq (.block 1 alB) (cB (cB alL))))from congrArg Item.code alL_eq];refine .step (fun _=>step_seq) (.step (fun _=>step_seq) (al_cond hI (by omega) fun a' h1 h2=>?_));refine .step (fun _=>step_cond (t:=false) (by rw[h2];simp)) ?_;exact .step (fun _=>step_exit rfl) (hQ a' h1)
end
section
variable {X:AlX}
theorem AlX.val{m j n:Nat}{x val:ByteArray}(hx:X.Lc[j]?=some x)(hC:IsCh (X.s m) X.r x n)(h0:n=0->val=⟨#[]⟩)(hv:∀w,n≠0->(X.s m).ws[n-1]?=some w->jg w.items x=some val):n=X.N x/\val=X.V x:=by
 have e:n=X.N x:=hC.eq (al_ch hx);refine⟨e,?_⟩;unfold AlX.V alVal;rw[show alN (X.p0+1) X.La X.Lb X.p X.Lc x=n from e.symm];have key:∀(L:List ByteArray) (cm:Nat->Bool),n≠0->x∈L->(X.s m).ws[n-1]?=some (alW (X.p0+1) L n cm)->val=x++oM n:=fun L cm h1 h2 h3=>by have:=hv _ h1 h3;unfold jg at this;rw[show (alW (X.p0+1) L n cm).items=aS L n from rfl,val_find _ _ h2]at this;simpa using this.symm
 rcases alN_le (P:=X.p0+1) (La:=X.La) (Lb:=X.Lb) (p:=X.p) (C:=X.Lc) (x:=x)with⟨e',h1,_⟩|⟨_,⟨e',h1⟩|⟨e',_⟩⟩
 ·have e4:n=4:=e.trans e';subst e4;rw[if_neg (by omega)];exact key _ _ (by omega) h1 rfl
 ·have e2:n=2:=e.trans e';subst e2;rw[if_neg (by omega)];exact key _ _ (by omega) h1 rfl
 ·have e0:n=0:=e.trans e';rw[if_pos e0];exact h0 e0
end
end
section
theorem fmRd_all:iG (fmRd L v L.length)=true:=by rw[fmRd_end];exact OK
theorem Q7.of_eq{j:Nat}{x val:ByteArray}{n:Int}(h:Q7 ab j x n val w)(e:w'.heap[ab]?=w.heap[ab]?):Q7 ab j x n val w':=
 ⟨(zcj (w:=w) (a:=⟨ab,_,none⟩) e).trans h.1,(zcj (w:=w) (a:=⟨ab,_,none⟩) e).trans h.2.1,(zcj (w:=w) (a:=⟨ab,_,none⟩) e).trans h.2.2⟩
theorem KsAt.of_eq(h:KsAt w n g cap L)(hz:w.heap.size<=w'.heap.size)(e:w'.heap[g]?=w.heap[g]?):KsAt w' n g cap L:=
 ⟨h.lo,Nat.lt_of_lt_of_le h.hi hz,fun j x hx=>(zcj (w:=w) (a:=⟨g,j,none⟩) e).trans (h.cell j x hx),h.c1,h.c2⟩
section
variable {X:AlX}{W0 W:World}{Sb:Nat->Prop}{m:Nat}{a:Act}{b:Frame}{Q:(Nat->Prop)->Frame->List Frame->World->Prop}
theorem al_round(hX:AlXo X)(hm:m<3)(hI:AlI X W0 W Sb m a)(ih:∀Sb' a' W',AlI X W0 W' Sb' (m+1) a'->CTo Q Sb' (b.at a' alK0) [] W'):CTo Q Sb (b.at a alK0) [] W:=by
 obtain⟨Ba,ba1,ba2,ea⟩:=hX.a;obtain⟨Bb,bb1,bb2,eb⟩:=hX.b;obtain⟨Bc,bc1,bc2,ec⟩:=hX.c;have hkey:X.key∈aA Bb:=by rw[eb];exact hX.key
 refine CTo.walk (R:=fun v fr c w=>∃a',fr=Frame.enter prog 14 #[.int .i64 X.p0,.int .i64 m] .normal/\c= [alEr b a' alKK]/\X.Sl m a'/\w=v) (fun v fr c w hr=>?_) (fun v hv=>?_) (fun v0 fr c w0 W0' hv0 hr hw0=>?_)
 ·obtain⟨a',rfl,rfl,_⟩:=hr;rw[enter_at func14 rfl];intro x hx ch;simp only[List.mem_cons,List.not_mem_nil,or_false]at hx;rcases hx with rfl|rfl<;>simp[Frame.at]
 ·refine al_head hI.sl hm fun a1 h1=>al_callE hX.p0 h1.t3 h1.t17 h1.s (To.done ⟨_,rfl,rfl,?_,rfl⟩);exact⟨h1.d,by simp[Act.put,h1.s],by simp[Act.put,h1.t3],by simp[Act.put,h1.t11],by simp[Act.put,h1.t12],by simp[Act.put,h1.t13],by simp[Act.put,h1.t14],by simp[Act.put,h1.t15],by simp[Act.put,h1.t16],by simp[Act.put,h1.t17]⟩
 obtain⟨a0,rfl,rfl,h0,rfl⟩:=hr;have eW:=sim_real hv0 hw0;have eO:W0'.os=W.os:=by rw[<-hw0.os,hv0.os]
 have eU:W0'.output=W.output:=by rw[<-hw0.out,hv0.out]
 refine CTo.empty hw0 X.p0 m (by have:=hX.p0;omega) (by have:=hX.p0;omega) (by omega) (by omega) (fun x hx ch=>by
  simp only[List.mem_cons,List.not_mem_nil,or_false]at hx;subst hx;simp[Frame.at]) (fun u ch=>by obtain⟨o2,r1,_⟩:=alE_3;rw[yG r1];simp[Frame.at]) fun τe sb we Ae v We hv hS hK=>?_
 rw[show eY (X.p0:Int) 4=X.p0 from by have:=hX.p0;unfold eY;omega,show eY (m:Int) 3=m from by unfold eY;omega,show (1+(X.p0:Int)).toNat=X.p0+1 from by omega,show (1:Int)+(m:Int)=(m:Int)+1 from by omega]at hS;obtain⟨o3,r1,r2,r3,-⟩:=alE_3;rw[yG r1,r3];clear r1 r2 r3;have hz0:w0.heap.size=W.heap.size:=hv0.size;obtain⟨kz1,kz2⟩:=hK.size;have hkv:∀{q:Nat},q<W.heap.size->¬Sb q->v.heap[q]?=W.heap[q]? :=fun{q} h1 h2=>(hK.keep q (by omega) h2).trans (hv0.same q h2);have hbs:(v.heap.extract 0 W.heap.size).size=W.heap.size:=by rw[Array.size_extract];omega
 have vP:∀k,k<W.heap.size->(v.heap.extract 0 W.heap.size)[k]?=v.heap[k]? :=fun k hk=>by rw[Array.getElem?_extract];simp;omega
 refine CTo.walk (R:=fun v fr c w=>∃(a':Act) (τ:Nat->Tag) (x' wb k1 k2:Nat) (A:SA),fr=Frame.enter prog 23 #[ptr sb,.int .i64 1] .normal/\c= [alFr b a' sb alKK]/\
  AlM (fun k=>Sb k\/k=we) {v with heap:=v.heap.extract 0 W.heap.size} w τ sb X.ga X.gb X.gc X.La X.Lb X.Lc (X.s m) A (alK sb x' wb k1 k2 (.slice (some ⟨X.ga,0,none⟩) X.La.length X.xa) (.slice (some ⟨X.gb,0,none⟩) X.Lb.length X.xb) (dS (X.p0+1) X.La) (put (fun _=>false) X.p))/\
  X.Sl m a'/\a'.tmps[18]?=some (ptr sb)/\a'.tmps[19]?=some (ptr x')/\a'.tmps[20]?=some (.int .i64 2)/\a'.tmps[25]?=some (.int .i64 1)) (fun v fr c w hr=>?_) (fun v2 yR=>?_) (fun v2 fr c w W1 yR hr hw=>?_)
 ·obtain⟨a',τ,x',wb,k1,k2,A,rfl,rfl,_⟩:=hr;rw[enter_at func23 rfl];intro x hx ch;simp only[List.mem_cons,List.not_mem_nil,or_false]at hx;rcases hx with rfl|rfl<;>simp[Frame.at]
 ·have e2:=sim_lone hv yR;have hk:∀{g cap:Nat} {L:List ByteArray},KsAt W W0.heap.size g cap L->¬Sb g->LL v2 τe g L:=fun{g cap L} h1 h2=>⟨by have:=h1.hi;rw[e2];omega,by rw[hK.yt g (by have:=h1.hi;omega)],fun j x hx=>(zcj (w:=W) (a:=⟨g,j,none⟩) (by rw[e2];exact hkv h1.hi h2)).trans (h1.cell j x hx)⟩
  have hSl:X.Sl m (a0.put (some 65) (ptr sb)):=⟨h0.d,by simp[Act.put,h0.s],by simp[Act.put,h0.t3],by simp[Act.put,h0.t11],by simp[Act.put,h0.t12],by simp[Act.put,h0.t13],by simp[Act.put,h0.t14],by simp[Act.put,h0.t15],by simp[Act.put,h0.t16],by simp[Act.put,h0.t17]⟩
  refine alike_to (wa:=v2) (τa:=τe) (A:=Ae) (Z:=fun k=>Sb k\/k=we) (v0:={v2 with heap:=v2.heap.extract 0 W.heap.size}) hX.p0 ba1 ba2 bb1 bb2 bc1 bc2 hkey ea eb ec hX.p hSl (by simp[Act.put,h0.s]) ⟨hS.frame fun k _ _=>⟨by rw[e2],rfl⟩,⟨⟨rfl,rfl,rfl,by show (v2.heap.extract 0 W.heap.size).size<=_;rw[e2,hbs];omega,fun k hk=>?_⟩,fun k hk=>?_⟩,hk hI.ka hI.nsb.1,hk hI.kb hI.nsb.2.1,hk hI.kc hI.nsb.2.2.1,fun e he=>(by cases he),fun k hk=>?_⟩ hI.kc.c1 hI.kc.c2 fun a' w τ x' wb k1 k2 A hM hS e18 e19 e20 e25=>
   al_call e18 e25 hS.s (To.done ⟨a',τ,x',wb,k1,k2,A,rfl,rfl,hM,hS,e18,e19,e20,e25⟩)
  ·replace hk:k<W.heap.size:=by have:k< (v2.heap.extract 0 W.heap.size).size:=hk;rwa [e2,hbs]at this
   show v2.heap[k]?=(v2.heap.extract 0 W.heap.size)[k]?;rw[e2,vP k hk]
  ·refine hK.yt k ?_;have:k< (v2.heap.extract 0 W.heap.size).size:=hk;rw[e2,hbs]at this;omega
  ·rcases hk with hk|rfl
   ·have:=(hI.sb k hk).2;exact⟨by rw[e2];omega,hK.yt k (by omega)⟩
   ·exact⟨by rw[e2];exact kz2,hK.wgt⟩
 ·obtain⟨a',τ,x',wb,k1,k2,A,rfl,rfl,hM,hS,e18,e19,e20,e25⟩:=hr;have e2:=sim_lone hv yR;rw[e2]at hM;have hvw:W.heap.size<=w.heap.size:=by have:=hM.env.below.size;rw[show ({v2 with heap:=v.heap.extract 0 W.heap.size}:World).heap.size=W.heap.size from hbs]at this;exact this
  have hwe:we<w.heap.size:=(hM.zs we (.inr rfl)).1;have kJ:∀k,k<W.heap.size->τ k=(0,0,0):=fun k hk=>hM.env.yt k (by show k< (v.heap.extract 0 W.heap.size).size;omega)
  have hwv:∀k,k<W.heap.size->w.heap[k]?=v.heap[k]? :=fun k hk=>by rw[hM.env.below.block k (by show k< (v.heap.extract 0 W.heap.size).size;omega)];exact vP k hk
  refine CTo.finishing hw hM.rep 1 (by omega) (by omega) X.r rfl fmRd_all (fun k hk=>by rw[(hM.zs k hk).2];decide) (fun x hx ch=>by
   simp only[List.mem_cons,List.not_mem_nil,or_false]at hx;subst hx;simp[Frame.at]) (fun u ch=>by obtain⟨o2,r1,_⟩:=alT_2;rw[yG r1];simp[Frame.at]) (fun ab wg W2 hF=>?_)
  obtain⟨ho1,ho2,ho3⟩:=hF.abo;obtain⟨QA,bA,zA,iA⟩:=hI.bqa;obtain⟨QN,bN,zN,iN⟩:=hI.bqn;have hqn:=bN.lt;have hqa:=bA.lt;obtain⟨n1,n2,n3,n4,n5⟩:=hI.nsb;obtain⟨l1,l2,l3,l4⟩:=hI.lt;have Uy:∀{q:Nat},(τ q).1=1->¬(Sb q\/q=we):=fun{q} h hs=>by rw[(hM.zs q hs).2]at h;cases h
  have n12:∀{q:Nat},q<W.heap.size->¬Sb q->¬(Sb q\/q=we):=fun h1 h2 h=>h.elim h2 (by omega);have sD:∀{q:Nat},q<W.heap.size->¬Sb q->W2.heap[q]?=W.heap[q]? :=fun{q} h1 h2=>by rw[hF.keep q (by omega) (by rw[kJ q h1];decide) (n12 h1 h2),hwv q h1,hkv h1 h2]
  have XV:∀{q:Nat},q<w.heap.size->q≠wg:=fun h=>by omega
  have RI:∀(j:Nat) (x:ByteArray),X.Lc[j]?=some x->Q7 ab j x (X.N x) (X.V x) W2:=fun j x hx=>by obtain⟨n,val,g1,g2,g3,g4⟩:=hF.NS al_comm j x hx;obtain⟨rfl,rfl⟩:=X.val hx g1 g3 g4;exact g2
  refine CTo.walk (R:=fun u fr c w'=>∃(a2:Act) (w1:World),fr=b.at a2 alK0/\c= []/\X.Sl (m+1) a2/\Below u.heap.size u w1/\Below w1.heap.size ((w1.setCell ⟨X.qa,m,none⟩ (.int .i64 (askM (X.s m) X.r:Nat))).setCell ⟨X.qa+1,m,none⟩ (.slice (some ⟨ab,0,none⟩) X.Lc.length X.Lc.length)) w') (fun u fr c w' hr=>?_) (fun u hu=>?_) (fun u fr c w' W3 hu hr Rt=>?_)
  ·obtain⟨a2,w1,rfl,rfl,_⟩:=hr;intro x hx ch;simp only[List.mem_cons,List.not_mem_nil,or_false]at hx;subst hx;simp[Frame.at]
  ·have hu0:∀{q:Nat},¬(Sb q\/q=we)->q≠wg->u.heap[q]?=W2.heap[q]? :=fun{q} h1 h2=>hu.same q fun h=>h.elim h1 h2;have hown:∀e∈alK sb x' wb k1 k2 (.slice (some ⟨X.ga,0,none⟩) X.La.length X.xa) (.slice (some ⟨X.gb,0,none⟩) X.Lb.length X.xb) (dS (X.p0+1) X.La) (put (fun _=>false) X.p),aT u e.b e.c e.t:=fun e he=>by obtain⟨h1,h2⟩:=hM.own e he;have h3:=Uy (q:=e.b) (by rw[h2]);exact h1.of_eq ((hu0 h3 (XV h1.lt)).trans (hF.keep e.b h1.lt (by rw[h2];show (1:Nat)≠2;decide) h3))
   have hks:∀{g cap:Nat} {L:List ByteArray},KsAt W W0.heap.size g cap L->¬Sb g->∀(j:Nat) (x:ByteArray),L[j]?=some x->u.cell? ⟨g,j,none⟩=some (.string x):=fun{g cap L} h1 h2 j x hx=>
    (zcj (w:=W) (a:=⟨g,j,none⟩) ((hu0 (n12 h1.hi h2) (XV (by have:=h1.hi;omega))).trans (sD h1.hi h2))).trans (h1.cell j x hx)
   have q1:=hown ⟨x',21,#[ptr sb,.slice (some ⟨wb,0,none⟩) 2 2,dV],32⟩ (by simp[alK]);have q2:=hown ⟨wb,32,#[ptr k1,ptr k2],45⟩ (by simp[alK]);have q3:=hown ⟨k1,30,iy 2 (.slice (some ⟨X.ga,0,none⟩) X.La.length X.xa) (dS (X.p0+1) X.La),48⟩ (by simp[alK]);have q4:=hown ⟨k2,31,iy 4 (.slice (some ⟨X.gb,0,none⟩) X.Lb.length X.xb) (put (fun _=>false) X.p),48⟩ (by simp[alK]);simp only at q1 q2 q3 q4;obtain⟨-,ka2,-,ka4⟩:=uT Ba ba2;obtain⟨-,kb2,-,kb4⟩:=uT Bb bb2;obtain⟨-,kc2,-,kc4⟩:=uT Bc bc2;rw[ea]at ka2 ka4;rw[eb]at kb2 kb4;rw[ec]at kc2 kc4;have hla:=hks hI.ka n1;have hlb:=hks hI.kb n2;refine al_rest (QA:=QA) (QN:=QN) (x':=x') (wb:=wb) (k1:=k1) (k2:=k2) (N:=X.N) (V:=X.V) hm hS e18 e19 e20 e25 ⟨q1.cell (o:=1) rfl,q2.cell (o:=0) rfl,q2.cell (o:=1) rfl,⟨q3.cell (o:=0) rfl,q3.cell (o:=1) rfl,hla,by show X.La.length<=8;omega,by show 1<=2;omega,by show 2<=1000;omega⟩,⟨q4.cell (o:=0) rfl,q4.cell (o:=1) rfl,hlb,by show X.Lb.length<=8;omega,by show 1<=4;omega,by show 4<=1000;omega⟩,fun j x hx=>⟨hks hI.kc n3 j x hx,?_⟩,fun j x hx=>⟨?_,(RI j x hx).of_eq (hu0 (fun h=>by have:=(hM.zs _ h).1;omega) (by omega))⟩,bA.of_eq ((hu0 (n12 hqa n4) (XV (by omega))).trans (sD hqa n4)),bN.of_eq ((hu0 (n12 hqn n5) (XV (by omega))).trans (sD hqn n5)),zA,zN,⟨by omega,by omega,by omega⟩,fun h0=>?_,by omega⟩ al_right fun a2 w1 w' s1 s2 s3=>al_tail s1 hm fun a3 s4=>To.done ⟨a3,w1,rfl,rfl,s4,s2,s3⟩
   ·have:=(dG (kc2 x (List.mem_of_getElem? hx))).2;omega
   ·show alN (X.p0+1) X.La X.Lb X.p X.Lc x<=1000;rcases alN_le (P:=X.p0+1) (La:=X.La) (Lb:=X.Lb) (p:=X.p) (C:=X.Lc) (x:=x)with⟨e',_⟩|⟨_,⟨e',_⟩|⟨e',_⟩⟩ <;>omega
   ·obtain⟨ab0,g1,g2,g3,g4,g5,g6⟩:=iN h0;exact⟨ab0,g1,g3,g4,fun j x hx=>(g6 j x hx).of_eq ((hu0 (n12 g5 g2) (XV (by omega))).trans (sD g5 g2))⟩
  ·obtain⟨a2,w1,rfl,rfl,s1,s2,s3⟩:=hr;have z1:=s2.size;have z2:=s3.size;have z3:((w1.setCell ⟨X.qa,m,none⟩ (.int .i64 (askM (X.s m) X.r:Nat))).setCell ⟨X.qa+1,m,none⟩ (.slice (some ⟨ab,0,none⟩) X.Lc.length X.Lc.length)).heap.size=w1.heap.size:=by simp[World.setCell]
   have z4:=hu.size;have z5:=Rt.size;have hall:∀{q:Nat},q<W2.heap.size->¬(Sb q\/q=we)->q≠wg->q≠X.qa->q≠X.qa+1->W3.heap[q]?=W2.heap[q]? :=fun{q} h1 h2 h3 h4 h5=>by rw[<-Rt.same q (fun h=>h.elim h2 h3),s3.block q (by omega),zch _ _ _ _ h5,zch _ _ _ _ h4,s2.block q (by omega),hu.same q fun h=>h.elim h2 h3]
   have hold:∀{q:Nat},q<W.heap.size->¬Sb q->q≠X.qa->q≠X.qa+1->W3.heap[q]?=W.heap[q]? :=fun{q} h1 h2 h3 h4=>by rw[hall (by omega) (n12 h1 h2) (by omega) h3 h4,sD h1 h2]
   have hW:W.heap.size<=W3.heap.size:=by omega
   have bA1:aT w1 X.qa QA 41:=bA.of_eq (by rw[s2.block _ (by omega),hu.same _ (fun h=>h.elim (n12 hqa n4) (by omega)),sD hqa n4]);have bN1:aT w1 (X.qa+1) QN 43:=bN.of_eq (by rw[s2.block _ (by omega),hu.same _ (fun h=>h.elim (n12 hqn n5) (by omega)),sD hqn n5]);have bA2:=(bA1.set m (.int .i64 (askM (X.s m) X.r:Nat)))
   have bA3:aT W3 X.qa (QA.setIfInBounds m (.int .i64 (askM (X.s m) X.r:Nat))) 41:=bA2.of_eq (by rw[<-Rt.same _ (fun h=>h.elim (n12 hqa n4) (by omega)),s3.block _ (by omega),zch _ _ _ _ (by show X.qa≠X.qa+1;omega)])
   have bN2:aT (w1.setCell ⟨X.qa,m,none⟩ (.int .i64 (askM (X.s m) X.r:Nat))) (X.qa+1) QN 43:=bN1.of_eq (zch _ _ _ _ (by show X.qa+1≠X.qa;omega));have bN3:aT W3 (X.qa+1) (QN.setIfInBounds m (.slice (some ⟨ab,0,none⟩) X.Lc.length X.Lc.length)) 43:=(bN2.set m _).of_eq (by rw[<-Rt.same _ (fun h=>h.elim (n12 hqn n5) (by omega)),s3.block _ (by omega)])
   have hab:¬(Sb ab\/ab=we):=fun h=>by have:=(hM.zs _ h).1;omega
   have hKs:=hI.kp.size;refine ih _ a2 W3 ⟨s1,⟨fun k hk=>?_,by omega,?_,?_⟩,fun k hk=>?_,⟨fun h=>h.elim (n12 hI.ka.hi n1) (by omega),fun h=>h.elim (n12 hI.kb.hi n2) (by omega),fun h=>h.elim (n12 hI.kc.hi n3) (by omega),fun h=>h.elim (n12 hqa n4) (by omega),fun h=>h.elim (n12 hqn n5) (by omega)⟩,hI.ka.of_eq hW (hold hI.ka.hi n1 (by omega) (by omega)),hI.kb.of_eq hW (hold hI.kb.hi n2 (by omega) (by omega)),hI.kc.of_eq hW (hold hI.kc.hi n3 (by omega) (by omega)),hI.lt,⟨_,bA3,by simpa using zA,fun i hi=>?_⟩,⟨_,bN3,by simpa using zN,fun _=>?_⟩⟩
   ·rw[hold (by omega) (fun h=>by have:=(hI.sb k h).1;omega) (by omega) (by omega),hI.kp.blk k hk]
   ·rw[<-Rt.out,s3.output];show w1.output=_;rw[s2.output,hu.out,hF.out,hM.env.below.output];show v2.output=_;rw[yR.out,<-hv.out,hK.out,hv0.out,hI.kp.out]
   ·have h1:=hF.os;rw[hM.env.below.os]at h1;replace h1:Go.ConcM.OsLater v2.os W2.os:=h1;have h2:=hK.os;rw[yR.os,<-hv.os]at h1;rw[hv0.os]at h2;rw[<-Rt.os,s3.os];show Go.ConcM.OsLater W0.os w1.os;rw[s2.os,hu.os];exact(hI.kp.os.trans h2).trans h1
   ·rcases hk with(hk|rfl)|rfl
    ·have:=hI.sb k hk;omega
    ·omega
    ·omega
   ·by_cases e:i=m
    ·subst e;rw[Array.getElem?_setIfInBounds_self_of_lt (by omega)]
    ·rw[zck (Ne.symm e)];exact iA i (by omega)
   ·by_cases e:m=0
    ·subst e;exact⟨ab,by rw[Array.getElem?_setIfInBounds_self_of_lt (by omega)],fun h=>h.elim hab (by omega),by omega,by omega,by omega,fun j x hx=>(RI j x hx).of_eq (hall (by omega) hab (by omega) (by omega) (by omega))⟩
    ·obtain⟨ab0,g1,g2,g3,g4,g5,g6⟩:=iN (by omega);exact⟨ab0,by rw[zck e];exact g1,fun h=>h.elim (n12 g5 g2) (by omega),g3,g4,by omega,fun j x hx=>(g6 j x hx).of_eq (hold g5 g2 g3 g4)⟩
end
end
section
section
variable {X:AlX}
theorem AlX.wn(hX:AlXo X){y:ByteArray}(hy:y∈X.Lc):wnM X.r y=alV (X.p0+1) X.La X.Lb X.p y:=by obtain⟨Bc,_,bc2,ec⟩:=hX.c;have nd:=(uT Bc bc2).1;rw[ec]at nd;obtain⟨j,hj⟩:=List.getElem?_of_mem hy;unfold wnM;rw[show X.r.keys=X.Lc from rfl,lz nd hj];exact al_found hj
theorem AlX.most(hX:AlXo X):askM (X.s 1) X.r=alMost X.N X.Lc X.Lc.length:=by
 unfold alMost;rw[List.take_length];split
 ·rename_i h;simp only[Bool.and_eq_true,List.any_eq_true,decide_eq_true_eq]at h;obtain⟨⟨x,hx,hn⟩,hl⟩:=h;have key:∃y∈X.Lc,alV (X.p0+1) X.La X.Lb X.p y≠0:=by
   rcases alN_le (P:=X.p0+1) (La:=X.La) (Lb:=X.Lb) (p:=X.p) (C:=X.Lc) (x:=x)with⟨_,_,h2⟩|⟨_,⟨_,h2⟩|⟨e,_⟩⟩
   ·unfold alAny at h2;rw[List.any_eq_true]at h2;obtain⟨y,hy,h3⟩:=h2;simp only[decide_eq_true_eq]at h3;exact⟨y,hy,by omega⟩
   ·refine⟨x,hx,fun e=>?_⟩;unfold alV at e;split at e
    ·omega
    ·rw[if_pos (jE.2 h2)]at e;omega
   ·exact absurd e (by have:X.N x=alN (X.p0+1) X.La X.Lb X.p X.Lc x:=rfl;omega)
  obtain⟨y,hy,h0⟩:=key;exact ask_most (P:=X.p0+1) (r:=X.r) hl (y:=y) hy (by rw[X.wn hX hy];exact h0)
 ·rename_i h;refine ask_least ?_;by_cases hl:X.Lc.length<=1
  ·exact .inl hl
  ·refine .inr fun y hy=>?_;rw[X.wn hX hy];refine Classical.byContradiction fun h0=>h ?_;simp only[Bool.and_eq_true,List.any_eq_true,decide_eq_true_eq];refine⟨⟨y,hy,?_⟩,by omega⟩;show 0<alN (X.p0+1) X.La X.Lb X.p X.Lc y;rcases alN_le (P:=X.p0+1) (La:=X.La) (Lb:=X.Lb) (p:=X.p) (C:=X.Lc) (x:=y)with⟨e,_⟩|⟨h2,⟨e,_⟩|⟨e,h3⟩⟩
   ·omega
   ·omega
   ·exfalso;rcases alV_cases (P:=X.p0+1) (La:=X.La) (Lb:=X.Lb) (p:=X.p) (x:=y)with h4|h4|h4
    ·exact h0 h4
    ·unfold alV at h4;split at h4
     ·omega
     ·split at h4
      ·exact h3 (jE.1 (by assumption))
      ·omega
    ·refine h2 ⟨(alV_four.1 h4).1,?_⟩;unfold alAny;rw[List.any_eq_true];exact⟨y,hy,by simpa using h4⟩
end
theorem al_last{X:AlX}{W0:World}{Sb:Nat->Prop}{a:Act}{b:Frame}(hX:AlXo X)(hb:b.fn=7)(hk:b.kind=.normal)(hI:AlI X W0 W Sb 3 a):CTo (CEnd 7 W0) Sb (b.at a alK0) [] W:=by
 obtain⟨Bc,_,bc2,ec⟩:=hX.c;have few:=(uT Bc bc2).2.2.2;rw[ec]at few;obtain⟨QA,bA,zA,iA⟩:=hI.bqa;obtain⟨QN,bN,zN,iN⟩:=hI.bqn;obtain⟨ab0,g1,g2,g3,g4,g5,g6⟩:=iN (by omega);obtain⟨n1,n2,n3,n4,n5⟩:=hI.nsb;have hQ:QA=#[.int .i64 (askM (X.s 0) X.r:Nat),.int .i64 (askM (X.s 1) X.r:Nat),.int .i64 (askM (X.s 2) X.r:Nat)]:=by
  apply Array.ext_getElem?;intro i;match i with
  | 0=>exact iA 0 (by omega)
  | 1=>exact iA 1 (by omega)
  | 2=>exact iA 2 (by omega)
  |i+3=>rw[Array.getElem?_eq_none (by omega),Array.getElem?_eq_none (by simp)]
 subst hQ;refine CTo.walk (R:=fun v fr c w'=>c= []/\fr.fn=7/\(∀u,fr.leaving prog u (.returned (.bool true)))/\Below v.heap.size v w') (fun v fr c w hr=>?_) (fun v hv=>?_) (fun v fr c w W' hv hr hw=>?_)
 ·obtain⟨rfl,_,h3,_⟩:=hr;intro x hx ch;simp only[List.mem_cons,List.not_mem_nil,or_false]at hx;subst hx;rw[(h3 w).1];simp
 ·refine al_exit hI.sl fun a' h1=>al_end (N:=X.N) hb hk h1 (bA.of_eq (hv.same _ n4)) ((zcj (w:=W) (a:=⟨X.qa+1,0,none⟩) (hv.same _ n5)).trans (bN.cell (o:=0) g1)) (fun j x hx=>(zcj (w:=W) (a:=⟨ab0,j*3+1,none⟩) (hv.same _ g2)).trans (g6 j x hx).2.1) (by omega) ask_order.1 ask_order.2 (X.most hX)
 ·obtain⟨rfl,h2,h3,h4⟩:=hr;have z1:=h4.size;have z2:=hv.size;have z3:=hw.size;have z4:=hI.kp.size;refine CTo.done ⟨rfl,h2,h3,⟨fun k hk=>?_,by omega,?_,?_⟩⟩
  ·have hs:¬Sb k:=fun h=>by have:=(hI.sb k h).1;omega
   rw[<-hw.same k hs,h4.block k (by omega),hv.same k hs,hI.kp.blk k hk]
  ·rw[<-hw.out,h4.output,hv.out,hI.kp.out]
  ·rw[<-hw.os,h4.os,hv.os];exact hI.kp.os
theorem alike_all(z0 z1 z2 z3 z4:Int)(h0: -9223372036854775808<=z0)(h0':z0<=9223372036854775807)(h1: -9223372036854775808<=z1)(h1':z1<=9223372036854775807)(h2: -9223372036854775808<=z2)(h2':z2<=9223372036854775807)(h3: -9223372036854775808<=z3)(h3':z3<=9223372036854775807)(h4: -9223372036854775808<=z4)(h4':z4<=9223372036854775807):
 CTo (CEnd 7 W) (fun _=>False) (Frame.enter prog 7 #[.int .i64 z0,.int .i64 z1,.int .i64 z2,.int .i64 z3,.int .i64 z4] .normal) [] W:=by
 refine CTo.walk (R:=fun v fr c w=>∃(b:Frame) (a:Act) (X:AlX),b.fn=7/\b.kind=.normal/\fr=b.at a alK0/\c= []/\AlXo X/\AlI X v w (fun _=>False) 0 a) (fun v fr c w hr=>?_) (fun v hv=>?_) (fun v fr c w W' hv hr hw=>?_)
 ·obtain⟨b,a,X,_,_,rfl,rfl,_⟩:=hr;intro x hx ch;simp only[List.mem_cons,List.not_mem_nil,or_false]at hx;subst hx;simp[Frame.at]
 ·refine al_begin z0 z1 z2 z3 z4 h0 h0' h1 h1' h2 h2' h3 h3' h4 h4' fun b a w p0 Ba Bb Bc ga gb gc xa xb xc qa key hb hk hp0 Eg hBb Rj hkey hS hB KA KB KC hlt hq bA bN=>To.done ?_;exact⟨b,a,⟨p0,ga,gb,gc,xa,xb,xc,qa,key,aA Ba,aA Bb,aA Bc,(partOf ((p0+1:Nat):Int) key).toNat⟩,hb,hk,rfl,rfl,⟨hp0,⟨Ba,Eg.1,Eg.2,rfl⟩,⟨Bb,hBb.1,hBb.2,rfl⟩,⟨Bc,Rj.1,Rj.2,rfl⟩,hkey,rfl⟩,
   ⟨hS,⟨hB.block,hB.size,hB.output,by rw[hB.os];exact .refl _⟩,fun k hk=>hk.elim,⟨id,id,id,id,id⟩,KA,KB,KC,⟨hlt.1,hlt.2.1,hlt.2.2,hq⟩,⟨_,bA,rfl,fun i hi=>by omega⟩,⟨_,bN,rfl,fun h=>by omega⟩⟩⟩
 ·obtain⟨b,a,X,hb,hk,rfl,rfl,hX,hI⟩:=hr;have e1:w.heap=W'.heap:=OA hw;have e0:v.heap=W.heap:=OA hv;have hc:∀p:Addr,W'.cell? p=w.cell? p:=fun p=>zcj (by rw[e1]);have Vv:AlI X W W' (fun _=>False) 0 a:=by
   obtain⟨QA,bA,zA,iA⟩:=hI.bqa;obtain⟨QN,bN,zN,iN⟩:=hI.bqn;have hks:∀{g cap:Nat} {L:List ByteArray},KsAt w v.heap.size g cap L->KsAt W' W.heap.size g cap L:=fun h=>⟨by rw[<-e0];exact h.lo,by rw[<-e1];exact h.hi,fun j x hx=>(hc _).trans (h.cell j x hx),h.c1,h.c2⟩
   refine⟨hI.sl,⟨fun k hk=>?_,by rw[<-e0,<-e1];exact hI.kp.size,by rw[<-hw.out,hI.kp.out,hv.out],?_⟩,fun k hk=>hk.elim,hI.nsb,hks hI.ka,hks hI.kb,hks hI.kc,by rw[<-e0];exact hI.lt,⟨QA,bA.of_eq (by rw[e1]),zA,iA⟩,⟨QN,bN.of_eq (by rw[e1]),zN,fun h=>by omega⟩⟩
   ·rw[<-e1,hI.kp.blk k (by rw[e0];exact hk),e0]
   ·have:=hI.kp.os;rw[hv.os,hw.os]at this;exact this
  exact al_round hX (by omega) Vv fun _ _ _ i1=>al_round hX (by omega) i1 fun _ _ _ i2=>al_round hX (by omega) i2 fun _ _ _ i3=>al_last hX hb hk i3
theorem alike_inits:prog.inits.idxOf? 7=none:=by kernel_rfl
end
end Go.Proofs.YteoahlieielcdaaGreat
