import Derived.Test.YteoahlieielcdaaGreatX4
import Derived.Test.YteoahlieielcdaaGreatPr21
set_option linter.all false
set_option maxHeartbeats 4000000
set_option maxRecDepth 100000
namespace Go.Proofs.YteoahlieielcdaaGreat
open Go.Proofs.Tryz
abbrev za8:=@Nat.le_refl
abbrev za9:=@List.getElem?_eq_getElem
abbrev zba:=@World.block_lt_of_cell?
abbrev zbb:=@World.cell?_setCell_other
abbrev zbc:=@World.cell?_setCell_same
abbrev zbd:=@Array.getElem?_setIfInBounds_ne
abbrev zbe:=@List.take_of_length_le
variable{en:Array MapEntry}{cl r i nf n pb kb b s0 l cnt dn ab:Nat}{O:aI}{w0 w w₁ w' W:af}{a:aA}{v:aj}{es:Array aC}{P:aB}{o:Oper}{x:aD}{f:Lit->Option aj}{fn' fn:Func}{D:DataW aj}{vl:Int->List KV}{m:Option Nat}
section
open Go Go.Conc Go.RowKit Go.MuLone
section
variable {P:aB}{t:az}{q:IntKind}
def C5(hu:P.underlying t=some (.int q))(k:IntKind)(n:Int)(y:aj)(w:af)(es:Array aC):(Op.equal t (.int k n) y).events P w es=es:=by
 show (Op.equalIn (9999+1) t (.int k n) y).events P w es=es;rw[Op.equalIn];rw[Sem.events_bind,run_underlying hu];simp only[Result.evThen_ok,events_underlying];repeat' split
 all_goals first|rfl|simp_all
def At(hu:P.underlying t=some (.int q))(k:IntKind)(n:Int)(l:List MapEntry)(i:Nat)(w:af)(es:Array aC):(Instr.findAsking t (.int k n) l i).events P w es=es:=by
 induction l generalizing i w es with
 |nil=>rfl
 |cons e l ih=>
  rw[Instr.findAsking,Sem.events_bind,C5 hu k n];cases (Op.equal t (.int k n) e.key).run P w with
  |ok b w'=>cases b<;>simp[ih]
  |halt h w'=>rfl
def IF(hu:P.underlying t=some (.int q))(k:IntKind)(n:Int)(l:List MapEntry)(w:af)(es:Array aC):(Instr.findKey t (.int k n) l).events P w es=es:=by
 rw[Instr.findKey,Sem.events_bind,run_underlying hu];simp only[Result.evThen_ok,events_underlying];split
 ·rfl
 ·exact At hu k n _ _ _ _
def Fy(hu:P.underlying t=some (.int q))(k:IntKind)(n:Int)(b:Bool)(w:af)(es:Array aC):(Instr.checkKey b 10000 t (.int k n)).events P w es=es:=by show (Instr.checkKey b (9999+1) t (.int k n)).events P w es=es;rw[Instr.checkKey,Sem.events_bind,run_underlying hu];simp only[Result.evThen_ok,events_underlying];rfl
def Mg(hu:P.underlying t=some (.int q))(k:IntKind)(n:Int){mt e:az}(ht:P.underlying mt=some (.map t e))(b:Nat)(w:af)(hb:w.heap[b]?=some (.map en cl)):
 ∀ev∈(Instr.lookup mt (.map (some b)) (.int k n) false).events P w #[],ev=⟨.obj b,false,false⟩:=by
 intro ev h;have g1:(getObj b).run P w=.ok (.map en cl) w:=by simp[getObj,Sem.run,hb]
 have g2:(getObj b).events P w #[]=#[⟨.obj b,false,false⟩]:=by simp only[getObj,Sem.events,Sem.runT,hb,Obj.isChan];rfl
 unfold Instr.lookup at h;simp only[Sem.events_bind,run_underlying ht,Result.evThen_ok,events_underlying,g1,g2,Sem.run_pure,Sem.events_pure,Fy hu k n]at h;cases hc:(Instr.checkKey en.isEmpty 10000 t (.int k n)).run P w with
 |halt x w'=>rw[hc]at h;simpa[Result.evThen]using h
 |ok u w1=>
  rw[hc]at h;simp only[Result.evThen_ok,IF hu k n]at h;cases hf:(Instr.findKey t (.int k n) en.toList).run P w1 with
  |halt x w'=>rw[hf]at h;simpa[Result.evThen,Result.andThen]using h
  |ok r w2=>
   rw[hf]at h;cases r with
   |none=>
    simp only[Result.evThen_ok,Sem.events_bind,events_zeroValue]at h;revert h;cases (zeroValue e).run P w2<;>simp[Result.evThen]
   |some p=>simpa using h
end
end
section
open Go Go.Conc Go.RowKit Go.MuLone
open Go.Maps (Keyed)
variable {main:Bool}{J:Jm}{L:dY}
def RX.cell{O:aI}{w0 w:af}(h:RX L O w0 w){a:aA}{v:aj}(hc:w0.cell? a=some v)(hx:L.ny a):w.cell? a=some v:=(h.GB a hx).trans hc
def RX.aZ(h:RX L O w0 w)(hc:w0.cell? a=some v)(hx:L.Fx a.block):w.cell? a=some v:=by have hl:a.block<w0.heap.size:=zba w0 _ hc;have:=h.blk a.block hl (.inr hx);rw[<-hc];unfold World.cell?;rw[this]
def bG.cell{O0 O:aI}{w0 w:af}(h:bG L O0 w0 O w){a:aA}{v:aj}(hc:w0.cell? a=some v)(hx:L.ny a):w.cell? a=some v:=h.rel.cell hc hx
def bG.aZ{O0 O:aI}{w0 w:af}(h:bG L O0 w0 O w){a:aA}{v:aj}(hc:w0.cell? a=some v)(hx:L.Fx a.block):w.cell? a=some v:=h.rel.aZ hc hx
def cC(h:L.Fx a.block\/L.ny a)(he:∀e∈es,e=⟨.cell a,false,false⟩):∀e∈es,Dv L O e:=by intro e hm;rw[he e hm];exact⟨rfl,.inl ⟨a,rfl,.inr (.inr ⟨h,rfl⟩)⟩⟩
def GH{g:Nat}(h:L.Fx g)(he:∀e∈es,∃ad,e=⟨.cell ad,false,false⟩/\ad.block=g):∀e∈es,Dv L O e:=by intro e hm;obtain⟨ad,rfl,hb⟩:=he e hm;exact⟨rfl,.inl ⟨ad,rfl,.inr (.inr ⟨.inl (hb▸h),rfl⟩)⟩⟩
def T5(h:L.Fx r)(he:∀e∈es,e=⟨.obj r,false,false⟩):∀e∈es,Dv L O e:=by intro e hm;rw[he e hm];exact⟨rfl,.inr ⟨r,rfl,.inr ⟨h,rfl⟩⟩⟩
def Fz(x y:aj)(w:af)(es:Array aC):(Instr.field 214 (.agg #[x,y]) 0).events prog w es=es:=by simp[Instr.field,asAgg,run_underlying underlying214,part]
def T6:∃n,∀(pb kb:Nat) (f:Lit->Option aj) (m:Int) (key:ah) (ad:Option aA) (Ls:List KV) (cap:Nat) (sv:aj) (O:aI) (w:af),L.N<=w.heap.size->
 L.ny ⟨pb,2,none⟩->L.Fx kb->w.cell? ⟨pb,2,none⟩=some (.map (some kb))->aS w prog 3 kb f->-9223372036854775808<=m->m<=9223372036854775807->
 (f (.int .i64 m)).getD (.agg #[.slice none 0 0,.nilIface])=.agg #[.slice ad Ls.length cap,sv]->Ls.length<=8->
 Hid (∀(k:Nat) (x:KV),Ls[k]?=some x->∃g,L.Fx g/\ad=some ⟨g,0,none⟩/\w.cell? ⟨g,k*2,none⟩=some (.string x.1)/\w.cell? ⟨g,k*2+1,none⟩=some (.string x.2))->
 bE prog main J (RX L) (DX L) 115 #[ptr pb,.int .i64 m,.string key] n O w fun O' v w'=>v=.tuple #[.string (valueOf Ls key),.bool (aP Ls key)]/\bG L O w O' w':=by
 co_apply Exists.intro;intro pb kb f m key ad Ls cap sv O w hN x1 x2 c1 hM h1 h2 hf h8 hcell;have hF:bG L O w O w:=bG.refl hN;have hfi:=yx (.slice ad Ls.length cap) sv;obtain⟨fv,aL⟩:∃fv,f (.int .i64 m)=fv:=⟨_,rfl⟩
 rw[aL]at hf;unfold ptr;co_apply bF func115 (by rfl) rfl;walk_nrmf ntmps115;obtain⟨W,hW⟩:∃W,W=w:=⟨_,rfl⟩
 obtain⟨O1,hO⟩:∃O1,O1=O:=⟨_,rfl⟩
 rw[<-hW,<-hO]at hF⊢;co_apply (gJ);co_apply (jY);intro _ hF;co_apply (jY);intro _ hF;co_apply (gJ);co_apply (jY);intro _ hF;co_apply (jY);intro _ hF;co_apply (jY);intro _ hF;(co_apply aN rfl (by rfl);intro _ hR K hK;replace hF:=bG.rely hF hR;clear hR;(have hc:=hF.cell (hW▸c1) x1);go_simp;refine hK _ ⟨?_,?_⟩;(focus(refine DX.still _ _ (cC (.inr x1) fun e he=>?_);have hm:=mem_listed he;simp[go_sem,hc]at hm;exact hm));clear hK K;try walk_nrm);clear hc;co_apply (jY);intro _ hF;co_apply aN rfl (by rfl);intro W2 hR K hK;replace hF:=bG.rely hF hR;clear hR;have sC:aS W2 prog 3 kb f:=hM.of_eq (by have:=hF.rel.blk kb (by rw[hW];exact hM.lt) (.inr x2);rw[this,hW]);have hlk:=sC.look eB underlying199 (mJ W2) (keyOf_int h1 h2);rw[aL,hf]at hlk;go_simp;refine hK _ ⟨?_,?_⟩
 ·obtain⟨nn,DD,⟨en,cl,hb,_⟩,_⟩:=sC;refine DX.still _ _ (T5 x2 fun e he=>?_);have hm:=mem_listed he;have key:=Mg (P:=prog) underlying3 .i64 m underlying199 kb W2 hb e;simp[go_sem]at hm;exact key hm
 clear hK K hlk sC;try walk_nrm
 (co_apply aN rfl (by rfl);intro _ hR K hK;replace hF:=bG.rely hF hR;clear hR;(skip);go_simp;refine hK _ ⟨?_,?_⟩;(focus(rw[listed_nil (by simp[go_sem,Fz])];exact DX.idle _ _));clear hK K;try walk_nrm);co_apply (jY);intro _ hF;co_apply (jY);intro _ hF;co_apply (gJ);co_apply mq (aF L) (N:=8) (fun j O a w=>∃(k:Nat) (s9 s19 s20 s21 s22 s23 s24 s25 s26 s27 s28:aj),k<=Ls.length/\j=8-k/\a=⟨#[.pointer (some ⟨pb,0,none⟩),.int .i64 m,.string key,undef,undef,undef,.string ⟨#[]⟩,.bool false,undef,s9,.pointer (some ⟨pb,0,none⟩),.pointer (some ⟨pb,0,none⟩),.pointer (some ⟨pb,2,none⟩),.map (some kb),.int .i64 m,.agg #[.slice ad Ls.length cap,sv],.slice ad Ls.length cap,.int .i64 Ls.length,.int .i64 k,s19,s20,s21,s22,s23,s24,s25,s26,s27,s28], []⟩/\bG L O1 W O w/\Hid (∀j y,j<k->Ls[j]?=some y->y.1≠key)) _
 ·exact⟨0,_,_,_,_,_,_,_,_,_,_,_,Nat.zero_le _,rfl,rfl,hF,fun j y hj=>by omega⟩
 clear hF;rintro j O2 act W3 ⟨k,s9,s19,s20,s21,s22,s23,s24,s25,s26,s27,s28,hk,rfl,rfl,hF,HO⟩;co_apply (gJ);co_apply (jY);intro _ hF;co_apply (gJ);(co_apply aU (aF L) (t:=(decide ((k:Int)< (Ls.length:Int))));focus(simp[Act.eval]))
 ·intro ht;have hlt:k<Ls.length:=by simpa using ht
  have hx:Ls[k]?=some Ls[k]:=za9 hlt;obtain⟨g,hg,rfl,ck,cv⟩:=hcell.out k _ hx;have H1:Hid (aP Ls key=true->valueOf Ls key=Ls[k].2->True):=fun _ _=>trivial;generalize Ls[k]=x at hx ck cv H1;obtain⟨kk,vv⟩:=x;simp only at ck cv;have rlv:∀{O:aI} {Wa Wb:af},(bG L O1 W O Wa/\Wa.cell? ⟨g,k*2,none⟩=some (.string kk)/\Wa.cell? ⟨g,k*2+1,none⟩=some (.string vv))->RX L O Wa Wb->(bG L O1 W O Wb/\Wb.cell? ⟨g,k*2,none⟩=some (.string kk)/\Wb.cell? ⟨g,k*2+1,none⟩=some (.string vv)):=
   fun h x=>⟨h.1.rely x,(h.1.rely x).aZ (hW▸ck) hg,(h.1.rely x).aZ (hW▸cv) hg⟩
  have hG:=And.intro hF (And.intro (hF.aZ (hW▸ck) hg) (hF.aZ (hW▸cv) hg));clear hF H1;co_apply (gJ);(co_apply (uE);intro _ hR;replace hG:=rlv hG hR;clear hR;refine⟨by simp[*,go_sem],fun K z=>?_⟩;go_simp;refine z _ ?_;clear z K;try walk_nrm);co_apply aN rfl (by rfl);intro W4 hR K hK;replace hG:=rlv hG hR;clear hR;have q1:=hG.2.1;have q2:=hG.2.2;go_simp;refine hK _ ⟨?_,?_⟩
  ·refine DX.still _ _ (GH hg fun e he=>?_);have hm:=mem_listed he;simp[go_sem, *]at hm;rcases hm with rfl|rfl<;>exact⟨_,rfl,rfl⟩
  clear hK K q1 q2;try walk_nrm
  co_apply bJ rfl (by rfl);intro W5 hR K hK;replace hG:=rlv hG hR;clear hR;go_simp;refine hK _ _ ⟨?_,?_⟩
  ·rw[listed_nil (by simp[go_sem])];exact DX.alloc _ _ _
  clear hK K;try walk_nrm
  have hr:W.heap.size<=W5.heap.size:=hG.1.rel.le;have hH:bG L O1 W (O2.grow W5 (W5.alloc (.cells #[.string ⟨#[]⟩,.string ⟨#[]⟩] 70))) (W5.alloc (.cells #[.string ⟨#[]⟩,.string ⟨#[]⟩] 70))/\OB W5.heap.size (.cells #[.string ⟨#[]⟩,.string ⟨#[]⟩] 70) (O2.grow W5 (W5.alloc (.cells #[.string ⟨#[]⟩,.string ⟨#[]⟩] 70))) (W5.alloc (.cells #[.string ⟨#[]⟩,.string ⟨#[]⟩] 70)):=⟨hG.1.alloc _,OB.new _ _ _⟩
  clear hG rlv;generalize (O2.grow W5 (W5.alloc (.cells #[.string ⟨#[]⟩,.string ⟨#[]⟩] 70)))=O3 at hH⊢;generalize (W5.alloc (.cells #[.string ⟨#[]⟩,.string ⟨#[]⟩] 70))=W6 at hH⊢;generalize W5.heap.size=r at hH hr⊢;have rl:∀{o:Obj} {Wa Wb:af},(bG L O1 W O3 Wa/\OB r o O3 Wa)->RX L O3 Wa Wb->(bG L O1 W O3 Wb/\OB r o O3 Wb):=fun h x=>⟨h.1.rely x,h.2.rely x⟩
  co_apply bJ rfl (by rfl);intro W7 hR K hK;replace hH:=rl hH hR;clear hR;have hA:bg W7 r #[.string ⟨#[]⟩,.string ⟨#[]⟩] 70:=hH.2.heap;have t0:=hA.cell (o:=0) (v:=.string ⟨#[]⟩) rfl;have t1:=hA.cell (o:=1) (v:=.string ⟨#[]⟩) rfl;have g0:=hA.frozen 0;have g1:=hA.frozen 1;go_simp;try(unfold stored;go_simp)
  refine hK _ _ ⟨?_,?_⟩
  ·refine DX.own hH.2.own ((dO.cell r 0 W7 _).trans (dO.cell r 1 _ _)) (cO (b:=true) hH.2.own fun e he=>?_);have hm:=mem_listed he;have E0:=fun es=>kL (P:=prog) (v:=.string kk) t0 g0 rfl es;have hA2:=hA.set 0 (.string kk);have E2:=fun es=>kL (P:=prog) (v:=.string vv) (hA2.cell (o:=1) (v:=.string ⟨#[]⟩) rfl) (hA2.frozen 1) rfl es;simp[go_sem, *]at hm;rcases hm with rfl|rfl<;>exact⟨_,rfl,rfl⟩
  clear hK K;have KZ:bg ((W7.setCell ⟨r,0,none⟩ (.string kk)).setCell ⟨r,1,none⟩ (.string vv)) r #[.string kk,.string vv] 70:=by simpa using(hA.set 0 (.string kk)).set 1 (.string vv)
  have hT:=(dO.cell r 0 W7 (.string kk)).trans (dO.cell r 1 _ (.string vv));have hE:bG L O1 W O3 ((W7.setCell ⟨r,0,none⟩ (.string kk)).setCell ⟨r,1,none⟩ (.string vv))/\OB r (.cells #[.string kk,.string vv] 70) O3 ((W7.setCell ⟨r,0,none⟩ (.string kk)).setCell ⟨r,1,none⟩ (.string vv)):=⟨hT.wN hH.1 hr,hH.2.own,KZ⟩
  rw[O3.dz hT.size];clear hH hA KZ t0 t1 g0 g1 hT;generalize ((W7.setCell ⟨r,0,none⟩ (.string kk)).setCell ⟨r,1,none⟩ (.string vv))=W8 at hE⊢;try walk_nrm
  co_apply (gJ);(co_apply (uE);intro _ hR;replace hE:=rl hE hR;clear hR;refine⟨by simp[go_sem],fun K z=>?_⟩;go_simp;refine z _ ?_;clear z K;try walk_nrm);(co_apply aN rfl (by rfl);intro _ hR K hK;replace hE:=rl hE hR;clear hR;(have hB:bg _ r #[.string kk,.string vv] 70:=hE.2.heap;have hc:=hB.cell (o:=0) (v:=.string kk) rfl);go_simp;refine hK _ ⟨?_,?_⟩;(focus(refine DX.still _ _ (cO (b:=false) hE.2.own fun e he=>?_);have hm:=mem_listed he;simp[go_sem,hc]at hm;exact⟨_,hm,rfl⟩));clear hK K;try walk_nrm);clear hc hB;(co_apply (uE);intro _ hR;replace hE:=rl hE hR;clear hR;refine⟨by simp[go_sem],fun K z=>?_⟩;go_simp;refine z _ ?_;clear z K;try walk_nrm);(co_apply (uE);intro _ hR;replace hE:=rl hE hR;clear hR;refine⟨by simp[go_sem],fun K z=>?_⟩;go_simp;refine z _ ?_;clear z K;try walk_nrm);co_apply (gJ);(co_apply aU (aF L) (t:=(kk.toList == key.toList));focus(simp[Act.eval]))
  ·intro he;have he':kk=key:=Classical.byContradiction fun h=>by rw[pU h]at he;cases he
   have Hr:Hid (valueOf Ls key=vv/\aP Ls key=true):=Bi hx he' HO.out;co_apply (gJ);(co_apply (uE);intro _ hR;replace hE:=rl hE hR;clear hR;refine⟨by simp[go_sem],fun K z=>?_⟩;go_simp;refine z _ ?_;clear z K;try walk_nrm);(co_apply aN rfl (by rfl);intro _ hR K hK;replace hE:=rl hE hR;clear hR;(have hB:bg _ r #[.string kk,.string vv] 70:=hE.2.heap;have hc:=hB.cell (o:=1) (v:=.string vv) rfl);go_simp;refine hK _ ⟨?_,?_⟩;(focus(refine DX.still _ _ (cO (b:=false) hE.2.own fun e he=>?_);have hm:=mem_listed he;simp[go_sem,hc]at hm;exact⟨_,hm,rfl⟩));clear hK K;try walk_nrm);clear hc hB;(repeat(first|co_apply AO|(co_apply (uE);intro _ hR;replace hE:=rl hE hR;clear hR;refine⟨by simp[*,go_sem],fun K z=>?_⟩;go_simp;refine z _ ?_;clear z K;try walk_nrm)|((first|co_apply xI|co_apply SP|co_apply F0|co_apply xJ|co_apply SQ|co_apply wO);try co_then)));exact .inl ⟨rfl,_,bR (aF L) (resultsC_tmp2 (by rfl) _),by rw[Hr.out.1,Hr.out.2];rfl,hE.1⟩
  ·intro he;have he':¬kk=key:=fun h=>by rw[pS h]at he;cases he
   have WZ:Hid (∀j y,j<k+1->Ls[j]?=some y->y.1≠key):=by
    intro j y hj hy;by_cases e:j=k
    ·subst e;rw[hx]at hy;cases hy;exact he'
    ·exact HO.out j y (by omega) hy
   have xM:IntKind.i64.wrap ((k:Int)+1)=((k+1:Nat):Int):=by rw[IntKind.wrap_i64];omega
   (repeat(first|co_apply AO|(co_apply (uE);intro _ hR;replace hE:=rl hE hR;clear hR;refine⟨by simp[*,go_sem],fun K z=>?_⟩;go_simp;refine z _ ?_;clear z K;try walk_nrm)|((first|co_apply xI|co_apply SP|co_apply F0|co_apply xJ|co_apply SQ|co_apply wO);try co_then)));try simp only[xM]
   exact⟨8-(k+1),by omega,k+1,_,_,_,_,_,_,_,_,_,_,_,by omega,rfl,rfl,hE.1,WZ⟩
 ·intro ht;have hge:¬k<Ls.length:=by simpa using ht
  have Hr:Hid (valueOf Ls key=ByteArray.empty/\aP Ls key=false):=Bj (fun j x hj=>HO.out j x (by omega));co_apply (xH);intro _ hF;exact .inl ⟨rfl,_,bR (aF L) (resultsC_tmp2 (by rfl) _),by rw[Hr.out.1,Hr.out.2];rfl,hF⟩
end
section
open Go Go.Conc Go.RowKit Go.MuLone
variable {main:Bool}{J:Jm}{L:dY}
def DX.KN(O:aI)(w:af)(o:Obj):DX L O w (w.drew.alloc o) #[]:=by have h:=DX.alloc (L:=L) O w.drew o;exact⟨h.tape,h.os,h.out,h.le,h.blk,h.ev⟩
def ry(w:af)(src dst e:az)(s:ah)(hs:P.underlying src=some .string)(hd:P.underlying dst=some (.slice e))(he:P.underlying e=some (.int .u8))(es:Array aC):(convert src dst (.string s)).events P w es=es:=by
 simp only[convert,Sem.events_bind,run_underlying hs,run_underlying hd,run_underlying he,Result.evThen_ok,Conv.stringToBytes];have hsh:∀(C:Array aj),(w.alloc (.cells C e)).shape? w.heap.size=some (e,C.size):=fun C=>by unfold World.shape?;rw[Oy]
 simp[newRow,markStringish,go_sem,hsh]
@[go_sem] theorem aay (x:Int) (w:af) (es:Array aC):(convert 5 151 (.int .u8 x)).events prog w es=es:=by simp[convert,run_underlying underlying5,run_underlying underlying151,Conv.intToInt]
def SN:∃n,∀(s:ah) (O:aI) (w:af),s.size<=1000->L.N<=w.heap.size->
 bE prog main J (RX L) (DX L) 150 #[.string s] n O w fun O' v w'=>v=.int .u64 (IntKind.u64.wrap (2 ^(jK s.data.toList % 64).toNat))/\bG L O w O' w':=by
 co_apply Exists.intro;intro s O w hs hN;have hF:bG L O w O w:=bG.refl hN;have hcv:=fun W=>run_bytes_of_string (P:=prog) W 9 116 5 s underlying9 underlying116 underlying5;have hce:=fun W es=>ry (P:=prog) W 9 116 5 s underlying9 underlying116 underlying5 es;co_apply bF func150 (by rfl) rfl;walk_nrmf ntmps150;generalize hW:w=W at hF⊢;generalize hO:O=O1 at hF⊢;co_apply (xH);intro _ hF;co_apply bJ rfl (by rfl);intro W1 hR K hK;replace hF:=bG.rely hF hR;clear hR;have WY:=hcv W1;generalize grownCap W1 s.size 0 _=cap at WY;generalize hM:bytesRow s cap=M at WY;clear hcv;go_simp;refine hK _ _ ⟨?_,?_⟩
 ·rw[listed_nil (by simp[go_sem,hce])];exact DX.KN _ _ _
 clear hK K WY;try walk_nrm
 have hr:W.heap.size<=W1.heap.size:=hF.rel.le;have hG:bG L O1 W (O1.grow W1 (W1.alloc (.cells M 5 (M.size,M.size+1))).drew) (W1.alloc (.cells M 5 (M.size,M.size+1))).drew/\OB W1.heap.size (.cells M 5 (M.size,M.size+1)) (O1.grow W1 (W1.alloc (.cells M 5 (M.size,M.size+1))).drew) (W1.alloc (.cells M 5 (M.size,M.size+1))).drew:=⟨(hF.alloc _).rely (RX.draw _ _),(OB.new _ _ _).rely (RX.draw (L:=L) _ _)⟩
 clear hF;generalize (O1.grow W1 (W1.alloc (.cells M 5 (M.size,M.size+1))).drew)=O2 at hG⊢;generalize (W1.alloc (.cells M 5 (M.size,M.size+1))).drew=W2 at hG⊢;generalize W1.heap.size=r at hG hr⊢;have hMc:Hid (∀(k:Nat) (hk:k<s.size),M[k]?=some (.int .u8 (s[k].toNat:Int))):=fun k hk=>by rw[<-hM];exact bytesRow_at s cap k hk
 have rl:∀{o:Obj} {Wa Wb:af},(bG L O1 W O2 Wa/\OB r o O2 Wa)->RX L O2 Wa Wb->(bG L O1 W O2 Wb/\OB r o O2 Wb):=fun h x=>⟨h.1.rely x,h.2.rely x⟩
 clear hM hce;(repeat(first|co_apply AO|co_apply (ox);intro _ hG|((first|co_apply xI|co_apply SP|co_apply F0|co_apply xJ|co_apply SQ|co_apply wO);try co_then)));co_apply mq (aF L) (N:=1000) (fun j O a w=>∃(k:Nat) (s5 UZ Rm NY s13 s14 s15 s16 VT s18:aj),k<=s.size/\j=1000-k/\a=⟨#[.string s,undef,.int .u64 0,.int .u64 (jK (s.data.toList.take k)),undef,s5,.string s,.slice (some ⟨r,0,none⟩) s.size cap,.int .i64 s.size,.int .i64 k,UZ,Rm,NY,s13,s14,s15,s16,VT,s18,undef,undef,undef], []⟩/\O=O2/\(bG L O1 W O2 w/\OB r (.cells M 5 (M.size,M.size+1)) O2 w)) _
 ·exact⟨0,_,_,_,_,_,_,_,_,_,_,Nat.zero_le _,rfl,rfl,rfl,hG⟩
 clear hG;rintro j O3 act W3 ⟨k,s5,UZ,Rm,NY,s13,s14,s15,s16,VT,s18,hk,rfl,rfl,rfl,hG⟩;co_apply (gJ);co_apply (ox);intro _ hG;co_apply (gJ);(co_apply aU (aF L) (t:=(decide ((k:Int)< (s.size:Int))));focus(simp[Act.eval]))
 ·intro ht;have hlt:k<s.size:=by simpa using ht
  have hx:=hMc.out k hlt;have hn:Hid (jK (s.data.toList.take (k+1))=IntKind.u64.wrap (IntKind.u64.wrap (jK (s.data.toList.take k)*31)+(s[k].toNat:Int))):=by rw[AP s k hlt];exact xK _ _
  have hb:=s[k].toNat_lt;obtain⟨h,hh,hh1⟩:=xL (s.data.toList.take k);rw[hh]at hn⊢;clear hh;generalize s[k]=c at hx hb hn;have KO:∀{Wa:af},OB r (.cells M 5 (M.size,M.size+1)) O3 Wa->Wa.cell? ⟨r,k,none⟩=some (.int .u8 (c.toNat:Int)):=fun x=>by simp only[World.cell?,x.heap];simpa using hx
  co_apply (gJ);co_apply (ox);intro _ hG;(co_apply aN rfl (by rfl);intro _ hR K hK;replace hG:=rl hG hR;clear hR;(have hc:=KO hG.2);go_simp;refine hK _ ⟨?_,?_⟩;(focus(refine DX.still _ _ (cO (b:=false) hG.2.own fun e he=>?_);have hm:=mem_listed he;simp[go_sem,hc]at hm;subst hm;exact⟨_,rfl,rfl⟩));clear hK K;try walk_nrm);clear hc;(repeat(first|co_apply AO|co_apply (ox);intro _ hG|((first|co_apply xI|co_apply SP|co_apply F0|co_apply xJ|co_apply SQ|co_apply wO);try co_then)));have hwk:IntKind.i64.wrap ((k:Int)+1)=((k+1:Nat):Int):=IntWalk.i64_in _ (by omega);have YQ:IntKind.u64.wrap (c.toNat:Int)=(c.toNat:Int):=by rw[IntKind.wrap_u64];omega
  rw[hwk,YQ,<-hn.out];exact⟨1000-(k+1),by omega,k+1,_,_,_,_,_,_,_,_,_,_,by omega,rfl,rfl,by trivial,hG⟩
 ·intro ht;have hlt:¬k<s.size:=by simpa using ht
  obtain rfl:k=s.size:=by omega
  have he:s.data.toList.take s.size=s.data.toList:=zbe (by rw[Lib.size_eq];exact za8 _);rw[he];clear he;obtain⟨h,hh,hh1⟩:=xL s.data.toList;rw[hh];clear hh ht hlt;have h64:(h:Int).tmod 64=((h:Int)% 64):=Int.tmod_eq_emod_of_nonneg (by omega);have gW:Op.shift .shl .u64 1 .u64 ((h:Int)% 64)=pure (.int .u64 (IntKind.u64.wrap (2 ^((h:Int)% 64).toNat))):=by rw[shift_shl .u64 .u64 1 _ (by omega) (by have:IntKind.u64.bits=64:=rfl;rw[this];omega),Int.one_mul]
  generalize IntKind.u64.wrap (2 ^((h:Int)% 64).toNat)=B at gW⊢;generalize (h:Int)% 64=y at h64 gW;co_apply (gJ);co_apply (ox);intro _ hG;co_apply (ox);intro _ hG;co_apply (ox);intro _ hG;co_apply (ox);intro _ hG;co_apply (gJ);exact .inl ⟨rfl,_,bR (aF L) (resultsC_tmp (by rfl) _),rfl,by subst hW;subst hO;exact hG.1⟩
def Oz:∃n,∀(key:ah) (a:Option aA) (Ls:List ah) (cap:Nat) (O:aI) (w:af),Ls.length<=8->Hid (∀(k:Nat) (x:ah),Ls[k]?=some x->∃g,L.Fx g/\a=some ⟨g,0,none⟩/\w.cell? ⟨g,k,none⟩=some (.string x))->L.N<=w.heap.size->
 bE prog main J (RX L) (DX L) 171 #[.slice a Ls.length cap,.string key] n O w fun O' v w'=>(∃i:Int,v=.int .i64 i/\cg Ls key=decide (0<=i))/\bG L O w O' w':=by
 co_apply Exists.intro;intro key a Ls cap O w h8 hcell hN;have hF:bG L O w O w:=bG.refl hN;co_apply bF func171 (by rfl) rfl;walk_nrmf ntmps171;obtain⟨W,hW⟩:∃W,W=w:=⟨_,rfl⟩
 obtain⟨O1,hO⟩:∃O1,O1=O:=⟨_,rfl⟩
 rw[<-hW,<-hO]at hF⊢;rw[<-hW]at hcell;clear hW hO;co_apply (xH);intro _ hF;co_apply mq (aF L) (N:=8) (fun j O a' w=>∃(k:Nat) (s5 s9 UZ Rm NY s13 s14 s15 s16 VT s18:aj),k<=Ls.length/\j=8-k/\a'=⟨#[.slice a Ls.length cap,.string key,undef,undef,.int .i64 0,s5,.slice a Ls.length cap,.int .i64 Ls.length,.int .i64 k,s9,UZ,Rm,NY,s13,s14,s15,s16,VT,s18], []⟩/\bG L O1 W O w/\Hid (∀j y,j<k->Ls[j]?=some y->y≠key)) _
 ·exact⟨0,_,_,_,_,_,_,_,_,_,_,_,Nat.zero_le _,rfl,rfl,hF,fun j y hj=>by omega⟩
 clear hF;rintro j O2 act W3 ⟨k,s5,s9,UZ,Rm,NY,s13,s14,s15,s16,VT,s18,hk,rfl,rfl,hF,HO⟩;co_apply (gJ);co_apply (jY);intro _ hF;co_apply (gJ);(co_apply aU (aF L) (t:=(decide ((k:Int)< (Ls.length:Int))));focus(simp[Act.eval]))
 ·intro ht;have hlt:k<Ls.length:=by simpa using ht
  have hx:Ls[k]?=some Ls[k]:=za9 hlt;obtain⟨g,hg,rfl,ck⟩:=hcell.out k _ hx;generalize Ls[k]=kk at hx ck;have xM:IntKind.i64.wrap ((k:Int)+1)=((k+1:Nat):Int):=IntWalk.i64_in _ (by omega);co_apply (gJ);co_apply (jY);intro _ hF;co_apply (jY);intro _ hF;co_apply (gJ);co_apply (jY);intro _ hF;co_apply (jY);intro _ hF;co_apply (jY);intro _ hF;co_apply (jY);intro _ hF;(co_apply aN rfl (by rfl);intro _ hR K hK;replace hF:=bG.rely hF hR;clear hR;(have hc:=hF.aZ ck hg);go_simp;refine hK _ ⟨?_,?_⟩;(focus(refine DX.still _ _ (cC (a:=⟨g,k,none⟩) (.inl hg) fun e he=>?_);have hm:=mem_listed he;simp[go_sem,hc]at hm;exact hm));clear hK K;try walk_nrm);clear hc;co_apply (jY);intro _ hF;co_apply (gJ);(co_apply aU (aF L) (t:=(key.toList == kk.toList));focus(simp[Act.eval]))
  ·intro he;have he':key=kk:=Classical.byContradiction fun h=>by rw[pU h]at he;cases he
   have Hr:Hid (cg Ls key=true):=by have:=xN hlt hx he'.symm;rwa [List.take_length]at this
   co_apply (xH);intro _ hF;exact .inl ⟨rfl,_,bR (aF L) (resultsC_tmp (by rfl) _),⟨k,rfl,by rw[Hr.out];simp⟩,hF⟩
  ·intro he;have he':¬key=kk:=fun h=>by rw[pS h]at he;cases he
   have WZ:Hid (∀j y,j<k+1->Ls[j]?=some y->y≠key):=by
    intro j y hj hy;by_cases e:j=k
    ·subst e;rw[hx]at hy;cases hy;exact fun e=>he' e.symm
    ·exact HO.out j y (by omega) hy
   clear he';co_apply (xH);intro _ hF;try simp only[xM]
   exact⟨8-(k+1),by omega,k+1,_,_,_,_,_,_,_,_,_,_,_,by omega,rfl,rfl,hF,WZ⟩
 ·intro ht;have hge:¬k<Ls.length:=by simpa using ht
  have Hr:Hid (cg Ls key=false):=by have:=xO (L:=Ls) (k:=Ls.length) (key:=key) (fun j y hj=>HO.out j y (by omega));rwa [List.take_length]at this
  co_apply (xH);intro _ hF;exact .inl ⟨rfl,_,bR (aF L) (resultsC_tmp (by rfl) _),⟨-1,rfl,by rw[Hr.out];simp⟩,hF⟩
def Eg:∃n,∀(key:ah) (a:Option aA) (Ls:List ah) (cap:Nat) (O:aI) (w:af),Ls.length<=8->Hid (∀(k:Nat) (x:ah),Ls[k]?=some x->∃g,L.Fx g/\a=some ⟨g,0,none⟩/\w.cell? ⟨g,k,none⟩=some (.string x))->L.N<=w.heap.size->
 bE prog main J (RX L) (DX L) 170 #[.slice a Ls.length cap,.string key] n O w fun O' v w'=>v=.bool (cg Ls key)/\bG L O w O' w':=by
 obtain⟨ni,hi⟩:=Oz (main:=main) (J:=J) (L:=L);co_apply Exists.intro;intro key a Ls cap O w h8 hcell hN;have hF:bG L O w O w:=bG.refl hN;co_apply bF func170 (by rfl) rfl;walk_nrmf ntmps170;obtain⟨W,hW⟩:∃W,W=w:=⟨_,rfl⟩
 obtain⟨O1,hO⟩:∃O1,O1=O:=⟨_,rfl⟩
 rw[<-hW,<-hO]at hF⊢;rw[<-hW]at hcell;clear hW hO;co_apply (xH);intro _ hF;co_apply bS (aF L) rfl (by rfl) rfl (by walk_nrm;exact hi key a Ls cap _ _ h8 (fun k x hx=>by obtain⟨g,hg,e,hc⟩:=hcell.out k x hx;exact⟨g,hg,e,hF.aZ hc hg⟩) hF.top);rintro O2 x W2 ⟨⟨i,rfl,hr⟩,hG⟩;replace hF:=hF.trans hG;clear hG;walk_nrm;co_apply (xH);intro _ hF;exact .inl ⟨rfl,_,bR (aF L) (resultsC_tmp (by rfl) _),by rw[hr];rfl,hF⟩
def KP:∃n,∀(key:ah) (a:Option aA) (Ls:List ah) (cap:Nat) (O:aI) (w:af),Ls.length<=8->Hid (∀(k:Nat) (x:ah),Ls[k]?=some x->∃g,L.Fx g/\a=some ⟨g,0,none⟩/\w.cell? ⟨g,k,none⟩=some (.string x))->L.N<=w.heap.size->
 bE prog main J (RX L) (DX L) 169 #[.slice a Ls.length cap,.string key] n O w fun O' v w'=>v=.bool (cg Ls key)/\bG L O w O' w':=by
 obtain⟨ni,hi⟩:=Eg (main:=main) (J:=J) (L:=L);co_apply Exists.intro;intro key a Ls cap O w h8 hcell hN;have hF:bG L O w O w:=bG.refl hN;co_apply bF func169 (by rfl) rfl;walk_nrmf ntmps169;obtain⟨W,hW⟩:∃W,W=w:=⟨_,rfl⟩
 obtain⟨O1,hO⟩:∃O1,O1=O:=⟨_,rfl⟩
 rw[<-hW,<-hO]at hF⊢;rw[<-hW]at hcell;clear hW hO;co_apply (xH);intro _ hF;co_apply bS (aF L) rfl (by rfl) rfl (by walk_nrm;exact hi key a Ls cap _ _ h8 (fun k x hx=>by obtain⟨g,hg,e,hc⟩:=hcell.out k x hx;exact⟨g,hg,e,hF.aZ hc hg⟩) hF.top);rintro O2 x W2 ⟨rfl,hG⟩;replace hF:=hF.trans hG;clear hG;walk_nrm;co_apply (xH);intro _ hF;exact .inl ⟨rfl,_,bR (aF L) (resultsC_tmp (by rfl) _),rfl,hF⟩
def vi(m:Int)(s:ah):Bool:=!(IntKind.u64.wrap ((BitVec.ofInt IntKind.u64.bits m &&& BitVec.ofInt IntKind.u64.bits (jg s)).toNat:Int)== 0)
def KQ:∃n,∀(key:ah) (m:Int) (O:aI) (w:af),key.size<=1000->L.N<=w.heap.size->
 bE prog main J (RX L) (DX L) 172 #[.int .u64 m,.string key] n O w fun O' v w'=>v=.bool (vi m key)/\bG L O w O' w':=by
 obtain⟨ni,hi⟩:=SN (main:=main) (J:=J) (L:=L);co_apply Exists.intro;intro key m O w hs hN;have hF:bG L O w O w:=bG.refl hN;co_apply bF func172 (by rfl) rfl;walk_nrmf ntmps172;obtain⟨W,hW⟩:∃W,W=w:=⟨_,rfl⟩
 obtain⟨O1,hO⟩:∃O1,O1=O:=⟨_,rfl⟩
 rw[<-hW,<-hO]at hF⊢;clear hW hO;co_apply (xH);intro _ hF;co_apply bS (aF L) rfl (by rfl) rfl (by walk_nrm;exact hi key _ _ hs hF.top);rintro O2 x W2 ⟨rfl,hG⟩;replace hF:=hF.trans hG;clear hG;rw[show IntKind.u64.wrap (2 ^(jK key.data.toList % 64).toNat)=jg key from rfl];have hand:Op.intBits .and .u64 m (jg key)=pure (.int .u64 (IntKind.u64.wrap ((BitVec.ofInt IntKind.u64.bits m &&& BitVec.ofInt IntKind.u64.bits (jg key)).toNat:Int))):=rfl;have SR:vi m key= !(IntKind.u64.wrap ((BitVec.ofInt IntKind.u64.bits m &&& BitVec.ofInt IntKind.u64.bits (jg key)).toNat:Int)== 0):=rfl;generalize jg key=B at hand SR⊢;generalize IntKind.u64.wrap ((BitVec.ofInt IntKind.u64.bits m &&& BitVec.ofInt IntKind.u64.bits B).toNat:Int)=y at hand SR;walk_nrm;co_apply (jY);intro _ hF;clear hand;co_apply (xH);intro _ hF;exact .inl ⟨rfl,_,bR (aF L) (resultsC_tmp (by rfl) _),by rw[SR];rfl,hF⟩
end
section
open Go Go.Conc Go.RowKit Go.MuLone
section
variable {P:aB}{main:Bool}{J:Jm}{R:uA}{D:uB}{fn:ay}{Q:ep}{O:aI}{a:Act}{w:af}{n:Nat}
def Eh(P:aB)(t:az)(v:aj)(name:String)(f:ay):Prop:=∀(w:af) (es:Array aC),(method (P.types.size+Made.depth) t v name).run P w=.ok (f,v) w/\(method (P.types.size+Made.depth) t v name).events P w es=es
def Ei{name:String}{args:Array aD}{ats:Array az}{f:ay}{t:az}(hop:o.op=.call {callee:=.invoke x name,args,argTypes:=ats})(hx:a.eval x=.iface t v)(hm:Eh P t v name f)
 (hf:P.funcs[f]?=some fn') (hname:(fn'.name == "runtime.NumGoroutine")=false) (hb:fn'.body.isNone=false) (w:af):
 (execOp a.eval o).run P w=.ok (.enter f (#[v]++args.map a.eval)) w/\(execOp a.eval o).events P w #[]=#[]:=by
 have h1:¬fn'.name= "runtime.NumGoroutine" :=by simpa using hname
 have h2:¬fn'.body=none:=fun e=>by rw[e]at hb;cases hb
 have m1:=fun w=>(hm w #[]).1;have m2:=fun w es=>(hm w es).2;have he:(#[Value.iface t v]++args.map a.eval).extract 1 (#[Value.iface t v]++args.map a.eval).size=args.map a.eval:=by apply Array.ext';simp;exact zbe (by simp)
 have h0:(#[Value.iface t v]++args.map a.eval)[0]?=some (.iface t v):=by rw[Array.getElem?_append_left (by simp)];rfl
 unfold execOp;simp only[hop,resolve,hx];generalize (#[Value.iface t v]++args.map a.eval)=X at he h0⊢;simp[invoke,callMethod,h0,he,m1,m2,callFunc,hf,h1,h2]
def Ej(T:bY R D){ops:Array Oper}{rest:List Nat}{name:String}{f:ay}{args:Array aD}{ats:Array az}{t:az}{Post:aI->aj->af->Prop}
 (ho:ops[i]?=some o) (hw:Region.wanted o (yielded ops a.tmps)=true) (hop:o.op=.call {callee:=.invoke x name,args,argTypes:=ats}) (hx:a.eval x=.iface t v) (hm:Eh P t v name f)
 (hcall:bE P main J R D f (#[v]++args.map a.eval) nf O w Post) (hnext:∀O' v w',Post O' v w'->bN P main J R D fn ops rest n Q O' (a.put o.dst v) w'):bN P main J R D fn ops (i :: rest) (n+nf+Du) Q O a w:=by
 intro b k cs Stop m hb hk hc;obtain⟨fn',c,n₀,dn,hle,hf,hname,hbody,hwp⟩:=hcall;have jh:∀v,(b.at a (.inRegion ops (i :: rest):: k)).finish v=b.at (a.put o.dst v) (.inRegion ops rest :: k):=fun v=>by rw[Frame.finish_at,ho];rfl
 have e:(m O.fu+n+n₀+dn+5)+1<=m O.fu+(n+nf+Du):=by unfold Du;omega
 refine cD.mono ?_ e;have hbn:fn'.body.isNone=false:=by rw[hbody];rfl
 refine cD.step rfl fun w₁ h₁=>?_;obtain⟨hr,hev⟩:=Ei (P:=P) hop hx hm hf hname hbn w₁;rw[stepG_enter ho hw hk hr,enter_at _ hf hbody];have hl:listed P b.fn a o w₁=#[]:=listed_nil hev;rw[hl];refine⟨T.idle _ _,?_⟩;rw[O.dz rfl];refine cD.rely T (cD.body (m:=fun j=>m j+n) T hf hwp fun O' v w' hp=>?_) h₁;rw[jh];exact hnext O' v w' hp b k cs Stop m hb hk hc
end
def KS(v:aj):Eh prog 225 v "MayWrite" 169:=fun w es=>⟨by kernel_rfl,by kernel_rfl⟩
def KT(v:aj):Eh prog 226 v "MayWrite" 172:=fun w es=>⟨by kernel_rfl,by kernel_rfl⟩
variable {main:Bool}{J:Jm}{L:dY}
inductive rA(L:dY)(w:af):aj->(ah->Bool)->Prop
 |none:rA L w .nilIface (fun _=>true)
 |keys (a:Option aA) (Ls:List ah) (cap:Nat) (h8:Ls.length<=8) (hc:∀(k:Nat) (x:ah),Ls[k]?=some x->∃g,L.Fx g/\a=some ⟨g,0,Option.none⟩/\w.cell? ⟨g,k,Option.none⟩=some (.string x)):rA L w (.iface 225 (.slice a Ls.length cap)) (cg Ls)
 |mask (m:Int):rA L w (.iface 226 (.int .u64 m)) (vi m)
def U0(w:af)(es:Array aC):(binOp BinOp.eql 142 Value.nilIface Value.nilIface).run prog w=.ok (.bool true) w/\(binOp BinOp.eql 142 Value.nilIface Value.nilIface).events prog w es=es:=by
 have e:binOp BinOp.eql 142 Value.nilIface Value.nilIface=(Op.equalIn (9999+1) 142 .nilIface .nilIface >>= fun b=>pure (.bool b)):=rfl;have hu:=run_underlying (w:=w) underlying142;have he:(underlying 142).events prog w es=es:=by simp[go_sem]
 rw[e,Op.equalIn];simp[hu,he]
def aaE(t:az)(v:aj)(w:af)(es:Array aC):(binOp BinOp.eql 142 (.iface t v) Value.nilIface).run prog w=.ok (.bool false) w/\(binOp BinOp.eql 142 (.iface t v) Value.nilIface).events prog w es=es:=by
 have e:binOp BinOp.eql 142 (.iface t v) Value.nilIface=(Op.equalIn (9999+1) 142 (.iface t v) .nilIface >>= fun b=>pure (.bool b)):=rfl;have hu:=run_underlying (w:=w) underlying142;have he:(underlying 142).events prog w es=es:=by simp[go_sem]
 rw[e,Op.equalIn];simp[hu,he]
def OC:∃n,∀(key:ah) (wn:Int) (hv:Bool) (vl:ah) (O:aI) (w:af),L.N<=w.heap.size->
 bE prog main J (RX L) (DX L) 116 #[.agg #[.int .i64 wn,.bool hv,.string vl,.nilIface],.string key] n O w fun O' v w'=>v=.bool true/\bG L O w O' w':=by
 co_apply Exists.intro;intro key wn hv vl O w hN;have hF:bG L O w O w:=bG.refl hN;co_apply bF func116 (by rfl) rfl;walk_nrmf ntmps116;obtain⟨W,hW⟩:∃W,W=w:=⟨_,rfl⟩
 obtain⟨O1,hO⟩:∃O1,O1=O:=⟨_,rfl⟩
 rw[<-hW,<-hO]at hF⊢;clear hW hO;co_apply (gJ);co_apply bJ rfl (by rfl);intro W1 hR K hK;replace hF:=bG.rely hF hR;clear hR;go_simp;refine hK _ _ ⟨?_,?_⟩
 ·rw[listed_nil (by simp[go_sem])];exact DX.alloc _ _ _
 clear hK K;try walk_nrm
 have hr:W.heap.size<=W1.heap.size:=hF.rel.le;have hG:=And.intro (hF.alloc (.cells #[.int .i64 wn,.bool hv,.string vl,.nilIface] 144)) (OB.new O1 W1 (.cells #[.int .i64 wn,.bool hv,.string vl,.nilIface] 144));clear hF;generalize (O1.grow W1 (W1.alloc (.cells #[.int .i64 wn,.bool hv,.string vl,.nilIface] 144)))=O2 at hG⊢;generalize (W1.alloc (.cells #[.int .i64 wn,.bool hv,.string vl,.nilIface] 144))=W2 at hG⊢;generalize W1.heap.size=r at hG hr⊢;have rl:∀{o:Obj} {Wa Wb:af},(bG L O1 W O2 Wa/\OB r o O2 Wa)->RX L O2 Wa Wb->(bG L O1 W O2 Wb/\OB r o O2 Wb):=fun h x=>⟨h.1.rely x,h.2.rely x⟩
 have KO:∀{Wa:af},OB r (.cells #[.int .i64 wn,.bool hv,.string vl,.nilIface] 144) O2 Wa->Wa.cell? ⟨r,3,none⟩=some .nilIface:=fun x=>by simp[World.cell?,x.heap]
 co_apply (ox);intro _ hG;co_apply (gJ);co_apply (ox);intro _ hG;(co_apply aN rfl (by rfl);intro _ hR K hK;replace hG:=rl hG hR;clear hR;(have hc:=KO hG.2);go_simp;refine hK _ ⟨?_,?_⟩;(focus(refine DX.still _ _ (cO (b:=false) hG.2.own fun e he=>?_);have hm:=mem_listed he;simp[go_sem,hc]at hm;subst hm;exact⟨_,rfl,rfl⟩));clear hK K;try walk_nrm);clear hc;have en1:=fun w=>(U0 w #[]).1;have en2:=fun w es=>(U0 w es).2;(co_apply aN rfl (by rfl);intro _ hR K hK;replace hG:=rl hG hR;clear hR;(skip);go_simp;refine hK _ ⟨?_,?_⟩;(focus(rw[listed_nil (by simp[go_sem,en2])];exact DX.idle _ _));clear hK K;try walk_nrm);clear en1 en2;(repeat(first|co_apply AO|co_apply (ox);intro _ hG|(co_apply (SV);try walk_nrm)|((first|co_apply xI|co_apply xJ|co_apply wO);try co_then)));exact .inl ⟨rfl,_,bR (aF L) (resultsC_tmp (by rfl) _),rfl,hG.1⟩
def Js(nf:Nat):∃n,∀(key:ah) (wn:Int) (hv:Bool) (vl:ah) (t:az) (y:aj) (f:ay) (bb:Bool) (O:aI) (w:af),Eh prog t y "MayWrite" f->L.N<=w.heap.size->
 Hid (∀O2 w2,bG L O w O2 w2->bE prog main J (RX L) (DX L) f #[y,.string key] nf O2 w2 fun O' x w'=>x=.bool bb/\bG L O2 w2 O' w')->
 bE prog main J (RX L) (DX L) 116 #[.agg #[.int .i64 wn,.bool hv,.string vl,(.iface t y)],.string key] n O w fun O' v w'=>v=.bool bb/\bG L O w O' w':=by
 co_apply Exists.intro;intro key wn hv vl t y f bb O w hmt hN qY;have hF:bG L O w O w:=bG.refl hN;co_apply bF func116 (by rfl) rfl;walk_nrmf ntmps116;obtain⟨W,hW⟩:∃W,W=w:=⟨_,rfl⟩
 obtain⟨O1,hO⟩:∃O1,O1=O:=⟨_,rfl⟩
 rw[<-hW,<-hO]at hF qY⊢;clear hW hO;co_apply (gJ);co_apply bJ rfl (by rfl);intro W1 hR K hK;replace hF:=bG.rely hF hR;clear hR;go_simp;refine hK _ _ ⟨?_,?_⟩
 ·rw[listed_nil (by simp[go_sem])];exact DX.alloc _ _ _
 clear hK K;try walk_nrm
 have hr:W.heap.size<=W1.heap.size:=hF.rel.le;have hG:=And.intro (hF.alloc (.cells #[.int .i64 wn,.bool hv,.string vl,(.iface t y)] 144)) (OB.new O1 W1 (.cells #[.int .i64 wn,.bool hv,.string vl,(.iface t y)] 144));clear hF;generalize (O1.grow W1 (W1.alloc (.cells #[.int .i64 wn,.bool hv,.string vl,(.iface t y)] 144)))=O2 at hG⊢;generalize (W1.alloc (.cells #[.int .i64 wn,.bool hv,.string vl,(.iface t y)] 144))=W2 at hG⊢;generalize W1.heap.size=r at hG hr⊢;have rl:∀{o:Obj} {Wa Wb:af},(bG L O1 W O2 Wa/\OB r o O2 Wa)->RX L O2 Wa Wb->(bG L O1 W O2 Wb/\OB r o O2 Wb):=fun h x=>⟨h.1.rely x,h.2.rely x⟩
 have KO:∀{Wa:af},OB r (.cells #[.int .i64 wn,.bool hv,.string vl,(.iface t y)] 144) O2 Wa->Wa.cell? ⟨r,3,none⟩=some (.iface t y):=fun x=>by simp[World.cell?,x.heap]
 co_apply (ox);intro _ hG;co_apply (gJ);co_apply (ox);intro _ hG;(co_apply aN rfl (by rfl);intro _ hR K hK;replace hG:=rl hG hR;clear hR;(have hc:=KO hG.2);go_simp;refine hK _ ⟨?_,?_⟩;(focus(refine DX.still _ _ (cO (b:=false) hG.2.own fun e he=>?_);have hm:=mem_listed he;simp[go_sem,hc]at hm;subst hm;exact⟨_,rfl,rfl⟩));clear hK K;try walk_nrm);clear hc;have en1:=fun w=>(aaE t y w #[]).1;have en2:=fun w es=>(aaE t y w es).2;(co_apply aN rfl (by rfl);intro _ hR K hK;replace hG:=rl hG hR;clear hR;(skip);go_simp;refine hK _ ⟨?_,?_⟩;(focus(rw[listed_nil (by simp[go_sem,en2])];exact DX.idle _ _));clear hK K;try walk_nrm);clear en1 en2;co_apply (ox);intro _ hG;co_apply (ox);intro _ hG;(co_apply aN rfl (by rfl);intro _ hR K hK;replace hG:=rl hG hR;clear hR;(have hc:=KO hG.2);go_simp;refine hK _ ⟨?_,?_⟩;(focus(refine DX.still _ _ (cO (b:=false) hG.2.own fun e he=>?_);have hm:=mem_listed he;simp[go_sem,hc]at hm;subst hm;exact⟨_,rfl,rfl⟩));clear hK K;try walk_nrm);clear hc;co_apply (ox);intro _ hG;co_apply Ej (aF L) rfl (by rfl) rfl (by rfl) hmt (by walk_nrm;exact qY.out _ _ hG.1);rintro O3 x W3 ⟨rfl,hE⟩;replace hE:=hG.1.trans hE;clear hG qY hmt;walk_nrm;(repeat(first|co_apply AO|(co_apply (uE);intro _ hR;replace hE:=hE.rely hR;clear hR;refine⟨by simp[*,go_sem],fun K z=>?_⟩;go_simp;refine z _ ?_;clear z K;try walk_nrm)|((first|co_apply xI|co_apply xJ|co_apply wO);try co_then)));exact .inl ⟨rfl,_,bR (aF L) (resultsC_tmp (by rfl) _),rfl,hE⟩
def oP{R:uA}{D:uB}{f:ay}{args:Array aj}{n':Nat}{Post:aI->aj->af->Prop}(h:bE P main J R D f args n O w Post)(hn:n<=n'):bE P main J R D f args n' O w Post:=by obtain⟨fn,c,n₀,dn,hle,h⟩:=h;exact⟨fn,c,n₀,dn,Nat.le_trans hle hn,h⟩
def aaG:∃n,∀(key:ah) (wn:Int) (hv:Bool) (vl:ah) (si:aj) (fm:ah->Bool) (O:aI) (w:af),rA L w si fm->key.size<=1000->L.N<=w.heap.size->
 bE prog main J (RX L) (DX L) 116 #[.agg #[.int .i64 wn,.bool hv,.string vl,si],.string key] n O w fun O' v w'=>v=.bool (fm key)/\bG L O w O' w':=by
 obtain⟨n0,h0⟩:=OC (main:=main) (J:=J) (L:=L);obtain⟨nk,hk⟩:=KP (main:=main) (J:=J) (L:=L);obtain⟨nm,hm⟩:=KQ (main:=main) (J:=J) (L:=L);obtain⟨n1,h1⟩:=Js (main:=main) (J:=J) (L:=L) nk;obtain⟨n2,h2⟩:=Js (main:=main) (J:=J) (L:=L) nm;refine⟨n0+n1+n2,fun key wn hv vl si fm O w hS hz hN=>?_⟩;cases hS with
 |none=>exact oP (h0 key wn hv vl O w hN) (by omega)
 |keys a Ls cap h8 hc=>exact oP (h1 key wn hv vl _ _ _ (cg Ls key) O w (KS _) hN fun O2 w2 hF=>hk key a Ls cap O2 w2 h8 (fun k x hx=>by obtain⟨g,hg,e,hh⟩:=hc k x hx;exact⟨g,hg,e,hF.aZ hh hg⟩) hF.top) (by omega)
 |mask m=>exact oP (h2 key wn hv vl _ _ _ (vi m key) O w (KT _) hN fun O2 w2 hF=>hm key m O2 w2 hz hF.top) (by omega)
end
section
open Go Go.Conc Go.RowKit Go.MuLone
open Go.Maps (Keyed)
variable {main:Bool}{J:Jm}{L:dY}
structure kH(L:dY)(pb kb:Nat)(f:Lit->Option aj)(vl:Int->List KV)(w:af):Prop where
 fc:L.ny ⟨pb,2,none⟩
 fk:L.Fx kb
 cell:w.cell? ⟨pb,2,none⟩=some (.map (some kb))
 map:aS w prog 3 kb f
 row:∀m:Int,-9223372036854775808<=m->m<=9223372036854775807->∃ad cap sv,(f (.int .i64 m)).getD (.agg #[.slice none 0 0,.nilIface])=.agg #[.slice ad (vl m).length cap,sv]/\(vl m).length<=8/\
  ∀(k:Nat) (x:KV),(vl m)[k]?=some x->∃g,L.Fx g/\ad=some ⟨g,0,none⟩/\w.cell? ⟨g,k*2,none⟩=some (.string x.1)/\w.cell? ⟨g,k*2+1,none⟩=some (.string x.2)
def kH.rx(h:kH L pb kb f vl w0)(hF:RX L O w0 w):kH L pb kb f vl w:=
 ⟨h.fc,h.fk,hF.cell h.cell h.fc,h.map.of_eq (hF.blk kb h.map.lt (.inr h.fk)),fun m h1 h2=>by obtain⟨ad,cap,sv,e,h8,hr⟩:=h.row m h1 h2;refine⟨ad,cap,sv,e,h8,fun k x hx=>?_⟩;obtain⟨g,hg,ha,c1,c2⟩:=hr k x hx;exact⟨g,hg,ha,hF.aZ c1 hg,hF.aZ c2 hg⟩⟩
def kH.wN{O0:aI}(h:kH L pb kb f vl w0)(hF:bG L O0 w0 O w):kH L pb kb f vl w:=h.rx hF.rel
def QJ:∃n,∀(pb kb:Nat) (f:Lit->Option aj) (vl:Int->List KV) (m:Int) (key:ah) (O:aI) (w:af),L.N<=w.heap.size->kH L pb kb f vl w->-9223372036854775808<=m->m<=9223372036854775807->
 bE prog main J (RX L) (DX L) 115 #[ptr pb,.int .i64 m,.string key] n O w fun O' v w'=>v=.tuple #[.string (valueOf (vl m) key),.bool (aP (vl m) key)]/\bG L O w O' w':=by obtain⟨n,h⟩:=T6 (main:=main) (J:=J) (L:=L);refine⟨n,fun pb kb f vl m key O w hN hP h1 h2=>?_⟩;obtain⟨ad,cap,sv,e,h8,hr⟩:=hP.row m h1 h2;exact h pb kb f m key ad (vl m) cap sv O w hN hP.fc hP.fk hP.cell hP.map h1 h2 e h8 hr
def eP(vl:Int->List KV)(key:ah)(ms:List Int):Int:=ms.foldl (fun g m=>if aP (vl m) key then(if m > g then m else g)else g) 0
def IG{key:ah}{ms:List Int}(h:∀m∈ms,0<=m/\m<=1000):0<=eP vl key ms/\eP vl key ms<=1000:=by
 have:∀(l:List Int) (g:Int),(∀m∈l,0<=m/\m<=1000)->0<=g/\g<=1000->0<=l.foldl (fun g m=>if aP (vl m) key then(if m > g then m else g)else g) g/\l.foldl (fun g m=>if aP (vl m) key then(if m > g then m else g)else g) g<=1000:=by
  intro l;induction l with
  |nil=>exact fun g _ h=>h
  |cons m l ih=>
   intro g hl hg;simp only[List.foldl_cons];refine ih _ (fun x hx=>hl x (by simp[hx])) ?_;have:=hl m (by simp);split
   ·split<;>omega
   ·exact hg
 exact this ms 0 h (by omega)
def Yh(a b:Int)(w:af)(es:Array aC):(Builtin.max_ #[3,3] 3 #[.int .i64 a,.int .i64 b]).events prog w es=es:=by simp[Builtin.max_,Builtin.max2]
def Zc(pb:Nat)(w:af):Prop:=∃c t f,w.heap[pb]?=some (.cells c t f)/\0<c.size
def Zc.of{o:Nat}(h:w.cell? ⟨pb,o,none⟩=some v):Zc pb w:=by
 unfold World.cell? at h;split at h
 ·rename_i c t f hb;refine⟨c,t,f,hb,?_⟩;simp at h;have:=(Array.getElem?_eq_some_iff.1 h).1;omega
 ·cases h
structure Ee(main:Bool)(J:Jm)(L:dY)(pb nl:Nat):Prop where
 lock:∀(O:aI) (w:af),L.N<=w.heap.size->O.pos=.lk .uy 1->¬O.own pb->Zc pb w->bE prog main J (RX L) (DX L) 37 #[.pointer (some ⟨pb,0,none⟩)] nl O w fun O' v w'=>v=.tuple #[]/\O'.pos=.lk .hold 3/\qn L O w O' w'
 unlock:∀(O:aI) (w:af),L.N<=w.heap.size->O.pos=.lk .hold 3->¬O.own pb->Zc pb w->CallsD prog main J (RX L) (DX L) 38 #[.pointer (some ⟨pb,0,none⟩)] nl O w fun O' w'=>O'.pos=.lk .out 0/\qn L O w O' w'
def IA(nl:Nat):∃n,∀(pb kb:Nat) (f:Lit->Option aj) (vl:Int->List KV) (key:ah) (ms:List Int) (cb:Option aA) (gE:Nat) (O:aI) (w:af),L.N<=w.heap.size->kH L pb kb f vl w->
 ms.length<=8->(∀m∈ms,0<=m/\m<=1000)->Hid (∀(k:Nat) (m:Int),ms[k]?=some m->∃g,L.Fx g/\cb=some ⟨g,0,none⟩/\w.cell? ⟨g,k,none⟩=some (.int .i64 m))->
 Ee main J L pb nl->O.pos=.lk .uy 1->¬O.own pb->
 bE prog main J (RX L) (DX L) 81 #[ptr pb,.string key,.slice cb ms.length gE] n O w fun O' v w'=>v=.tuple #[.int .i64 (eP vl key ms),.string (valueOf (vl (eP vl key ms)) key)]/\O'.pos=.lk .out 0/\qn L O w O' w':=by
 obtain⟨nv,hv⟩:=QJ (main:=main) (J:=J) (L:=L);co_apply Exists.intro;intro pb kb f vl key ms cb gE O w hN hP h8 uj hcell hlk hpos hno;have hF:bG L O w O w:=bG.refl hN;unfold ptr;co_apply Iy (dn:=nl) func81 (by rfl) rfl;walk_nrmf ntmps81;obtain⟨W,hW⟩:∃W,W=w:=⟨_,rfl⟩
 obtain⟨O1,hO⟩:∃O1,O1=O:=⟨_,rfl⟩
 rw[<-hW,<-hO]at hF⊢;rw[<-hW]at hP hcell;rw[<-hO]at hpos hno;have hpl:pb<W.heap.size:=zba W _ hP.cell;clear hW hO;co_apply (xH);intro _ hF;co_apply bS (aF L) rfl (by rfl) rfl (by walk_nrm;exact hlk.lock _ _ hF.top (hF.gh.1.trans hpos) (hF.nj hno hpl) (Zc.of (hP.wN hF).cell));rintro O5 x W5 ⟨rfl,acI,hJ⟩;replace hJ:=hF.Rk.trans hJ;replace hno:=hJ.nj hno hpl;replace hpl:pb<W5.heap.size:=Nat.lt_of_lt_of_le hpl hJ.rel.le;clear hF hpos;have hF:bG L O5 W5 O5 W5:=bG.refl hJ.top;replace hP:=hP.rx hJ.rel;replace hcell:Hid (∀(k:Nat) (m:Int),ms[k]?=some m->∃g,L.Fx g/\cb=some ⟨g,0,none⟩/\W5.cell? ⟨g,k,none⟩=some (.int .i64 m)):=fun k m hk=>by obtain⟨g,hg,e,hc⟩:=hcell.out k m hk;exact⟨g,hg,e,hJ.rel.aZ hc hg⟩
 walk_nrm;co_apply (xH);intro _ hF;co_apply xE (aF L) rfl (by rfl) rfl;walk_nrm;co_apply (xH);intro _ hF;co_apply mq (aF L) (N:=8) (fun j O a w=>∃(k:Nat) (UZ Rm NY s25 s26 s27 s28 s29 s30 s31 s32 s33 s34 s35 s36 s37 s38 s39:aj),k<=ms.length/\j=8-k/\a=⟨#[.pointer (some ⟨pb,0,none⟩),.string key,.slice cb ms.length gE,undef,undef,undef,.int .i64 0,.string ⟨#[]⟩,.int .i64 (eP vl key (ms.take k)),undef,UZ,Rm,NY,undef,undef,.pointer (some ⟨pb,0,none⟩),.pointer (some ⟨pb,0,none⟩),.pointer (some ⟨pb,0,none⟩),.tuple #[],.pointer (some ⟨pb,0,none⟩),.pointer (some ⟨pb,0,none⟩),.pointer (some ⟨pb,0,none⟩),.slice cb ms.length gE,.int .i64 ms.length,.int .i64 (k:Nat),s25,s26,s27,s28,s29,s30,s31,s32,s33,s34,s35,s36,s37,s38,s39,undef,undef,undef,undef,undef,undef,undef,undef,undef], [dcall 38 #[.pointer (some ⟨pb,0,none⟩)]]⟩/\bG L O5 W5 O w) _
 ·exact⟨0,_,_,_,_,_,_,_,_,_,_,_,_,_,_,_,_,_,_,Nat.zero_le _,rfl,rfl,hF⟩
 clear hF;rintro j O2 act W3 ⟨k,UZ,Rm,NY,s25,s26,s27,s28,s29,s30,s31,s32,s33,s34,s35,s36,s37,s38,s39,hk,rfl,rfl,hF⟩;have hgb:0<=eP vl key (ms.take k)/\eP vl key (ms.take k)<=1000:=IG (fun m hm=>uj m (List.mem_of_mem_take hm));co_apply (gJ);co_apply (jY);intro _ hF;co_apply (gJ);(co_apply aU (aF L) (t:=(decide ((k:Int)< (ms.length:Int))));focus(simp[Act.eval]))
 ·intro ht;have hlt:k<ms.length:=by simpa using ht
  have hx:ms[k]?=some ms[k]:=za9 hlt;obtain⟨g,hg,rfl,ck⟩:=hcell.out k _ hx;have hmk:=uj _ (List.getElem_mem hlt);have zX:eP vl key (ms.take (k+1))=if aP (vl ms[k]) key then(if ms[k] > eP vl key (ms.take k)then ms[k]else eP vl key (ms.take k))else eP vl key (ms.take k):=by unfold eP;rw[List.take_succ_eq_append_getElem hlt,List.foldl_append];rfl
  generalize ms[k]=mk at hx ck hmk zX;generalize eP vl key (ms.take k)=gr at zX hgb⊢;co_apply (gJ);co_apply (jY);intro _ hF;(co_apply aN rfl (by rfl);intro _ hR K hK;replace hF:=bG.rely hF hR;clear hR;(have hc:=hF.aZ ck hg);go_simp;refine hK _ ⟨?_,?_⟩;(focus(refine DX.still _ _ (cC (a:=⟨g,k,none⟩) (.inl hg) fun e he=>?_);have hm:=mem_listed he;simp[go_sem,hc]at hm;exact hm));clear hK K;try walk_nrm);clear hc;co_apply (jY);intro _ hF;co_apply (gJ);co_apply (jY);intro _ hF;co_apply (jY);intro _ hF;co_apply (jY);intro _ hF;co_apply bS (aF L) rfl (by rfl) rfl (by walk_nrm;exact hv pb kb f vl mk key _ _ hF.top (hP.wN hF) (by omega) (by omega));rintro O4 x W4 ⟨rfl,Rw⟩;replace hF:=hF.trans Rw;clear Rw;walk_nrm;have xM:IntKind.i64.wrap ((k:Int)+1)=((k+1:Nat):Int):=by rw[IntKind.wrap_i64];omega
  co_apply (xH);intro _ hF;(co_apply aU (aF L) (t:=(aP (vl mk) key));focus(simp[Act.eval]))
  ·intro hh;rw[if_pos hh]at zX;co_apply (gJ);co_apply (jY);intro _ hF;co_apply (jY);intro _ hF;(co_apply aN rfl (by rfl);intro _ hR K hK;replace hF:=bG.rely hF hR;clear hR;(skip);go_simp;refine hK _ ⟨?_,?_⟩;(focus(rw[listed_nil (by simp[go_sem,Yh])];exact DX.idle _ _));clear hK K;try walk_nrm);co_apply (xH);intro _ hF;try simp only[<-zX]
   exact⟨8-(k+1),by omega,k+1,_,_,_,_,_,_,_,_,_,_,_,_,_,_,_,_,_,_,by omega,rfl,rfl,hF⟩
  ·intro hh;rw[if_neg (by rw[hh];exact Bool.false_ne_true)]at zX;co_apply (xH);intro _ hF;try simp only[<-zX]
   exact⟨8-(k+1),by omega,k+1,_,_,_,_,_,_,_,_,_,_,_,_,_,_,_,_,_,_,by omega,rfl,rfl,hF⟩
 ·intro ht;have hge:¬k<ms.length:=by simpa using ht
  have ot:ms.take k=ms:=zbe (by omega);rw[ot]at hgb⊢;generalize U1:eP vl key ms=gr at hgb⊢;co_apply (xH);intro _ hF;co_apply bS (aF L) rfl (by rfl) rfl (by walk_nrm;exact hv pb kb f vl gr key _ _ hF.top (hP.wN hF) (by omega) (by omega));rintro O4 x W4 ⟨rfl,Rw⟩;replace hF:=hF.trans Rw;clear Rw;walk_nrm;co_apply (xH);intro _ hF;refine .inr (.inl ⟨_,_,_,rfl,rfl,?_⟩);refine(hlk.unlock _ _ hF.top (hF.gh.1.trans acI) (hF.nj hno hpl) (Zc.of (hP.wN hF).cell)).mono (fun O6 W6 h6=>?_) (za8 _);exact⟨_,bR (aF L) (resultsC_tmp2 (by rfl) _),rfl,h6.1,(hJ.trans hF.Rk).trans h6.2⟩
end
section
open Go Go.Conc Go.RowKit Go.MuLone
section
variable {P:aB}{t:az}
def zM(hu:P.underlying t=some .string)(s:ah)(y:aj)(w:af)(es:Array aC):(Op.equal t (.string s) y).events P w es=es:=by
 show (Op.equalIn (9999+1) t (.string s) y).events P w es=es;rw[Op.equalIn];rw[Sem.events_bind,run_underlying hu];simp only[Result.evThen_ok,events_underlying];repeat' split
 all_goals first|rfl|simp_all
def xP(hu:P.underlying t=some .string)(s:ah)(l:List MapEntry)(i:Nat)(w:af)(es:Array aC):(Instr.findAsking t (.string s) l i).events P w es=es:=by
 induction l generalizing i w es with
 |nil=>rfl
 |cons e l ih=>
  rw[Instr.findAsking,Sem.events_bind,zM hu s];cases (Op.equal t (.string s) e.key).run P w with
  |ok b w'=>cases b<;>simp[ih]
  |halt h w'=>rfl
def Ek(hu:P.underlying t=some .string)(s:ah)(l:List MapEntry)(w:af)(es:Array aC):(Instr.findKey t (.string s) l).events P w es=es:=by
 rw[Instr.findKey,Sem.events_bind,run_underlying hu];simp only[Result.evThen_ok,events_underlying];split
 ·rfl
 ·exact xP hu s _ _ _ _
def B9(hu:P.underlying t=some .string)(s:ah)(b:Bool)(w:af)(es:Array aC):(Instr.checkKey b 10000 t (.string s)).events P w es=es:=by show (Instr.checkKey b (9999+1) t (.string s)).events P w es=es;rw[Instr.checkKey,Sem.events_bind,run_underlying hu];simp only[Result.evThen_ok,events_underlying];rfl
def xQ(hu:P.underlying t=some .string)(s:ah){mt e:az}(ht:P.underlying mt=some (.map t e))(b:Nat)(w:af)(hb:w.heap[b]?=some (.map en cl)):
 ∀ev∈(Instr.lookup mt (.map (some b)) (.string s) false).events P w #[],ev=⟨.obj b,false,false⟩:=by
 intro ev h;have g1:(getObj b).run P w=.ok (.map en cl) w:=by simp[getObj,Sem.run,hb]
 have g2:(getObj b).events P w #[]=#[⟨.obj b,false,false⟩]:=by simp only[getObj,Sem.events,Sem.runT,hb,Obj.isChan];rfl
 unfold Instr.lookup at h;simp only[Sem.events_bind,run_underlying ht,Result.evThen_ok,events_underlying,g1,g2,Sem.run_pure,Sem.events_pure,B9 hu s]at h;cases hc:(Instr.checkKey en.isEmpty 10000 t (.string s)).run P w with
 |halt x w'=>rw[hc]at h;simpa[Result.evThen]using h
 |ok u w1=>
  rw[hc]at h;simp only[Result.evThen_ok,Ek hu s]at h;cases hf:(Instr.findKey t (.string s) en.toList).run P w1 with
  |halt x w'=>rw[hf]at h;simpa[Result.evThen,Result.andThen]using h
  |ok r w2=>
   rw[hf]at h;cases r with
   |none=>
    simp only[Result.evThen_ok,Sem.events_bind,events_zeroValue]at h;revert h;cases (zeroValue e).run P w2<;>simp[Result.evThen]
   |some p=>simpa using h
end
section
variable {P:aB}
def gK(hb:w.heap[b]?=some (.map en cl))(es:Array aC):(getObj b).run P w=.ok (.map en cl) w/\(getObj b).events P w es=es.push ⟨.obj b,false,false⟩:=
 ⟨by simp[getObj,Sem.run,hb],by simp only[getObj,Sem.events,Sem.runT,hb,Obj.isChan]⟩
def iH{seen:Array Nat}(hb:w.heap[b]?=some (.mapIter m s0 seen l))(es:Array aC):(getObj b).run P w=.ok (.mapIter m s0 seen l) w/\(getObj b).events P w es=es.push ⟨.obj b,false,false⟩:=
 ⟨by simp[getObj,Sem.run,hb],by simp only[getObj,Sem.events,Sem.runT,hb,Obj.isChan]⟩
def GC{mt k e:az}(ht:P.underlying mt=some (.map k e))(hb:w.heap[b]?=some (.map en cl)):
 (Instr.range mt (.map (some b))).run P w=.ok (.pointer (some ⟨w.heap.size,0,none⟩)) (w.alloc (.mapIter (some b) cl #[] cl))/\(Instr.range mt (.map (some b))).events P w #[]=#[⟨.obj b,false,false⟩]:=by
 have g1:=(gK (P:=P) hb #[]).1;have g2:=(gK (P:=P) hb #[]).2;unfold Instr.range;constructor
 ·simp[run_underlying ht,g1]
 ·simp[run_underlying ht,g1,g2]
def El{seen:Array Nat}(hb:w.heap[r]?=some (.mapIter m s0 seen l))(m':Option Nat)(s1 l':Nat)(seen':Array Nat)(es:Array aC):(setObj r (.mapIter m' s1 seen' l')).events P w es=es.push ⟨.obj r,true,false⟩/\∃w',(setObj r (.mapIter m' s1 seen' l')).run P w=.ok () w':=
 ⟨by simp[setObj,Sem.events,Sem.runT,hb,Obj.isChan,-Sem.runT_eq],by simp[setObj,Sem.run,hb]⟩
def OD{seen:Array Nat}{ty:az}(hi:w.heap[r]?=some (.mapIter (some b) s0 seen l))(hb:w.heap[b]?=some (.map en cl)):
 ∀ev∈(Instr.next (.pointer (some ⟨r,0,none⟩)) false ty).events P w #[],ev=⟨.obj r,false,false⟩\/ev=⟨.obj b,false,false⟩\/ev=⟨.obj r,true,false⟩:=by
 have g1:=(gK (P:=P) hb #[]).1;have g2:=fun es=>(gK (P:=P) hb es).2;have i1:=(iH (P:=P) hi #[]).1;have i2:=fun es=>(iH (P:=P) hi es).2;intro ev h;unfold Instr.next at h
 simp only[Sem.events_bind,i1,i2,Result.evThen_ok,g1,g2]at h;split at h
 ·rw[Sem.events_bind]at h;have hu:∀(u:Unsupported) (w:af),∃x w',(unsupported u:Sem Unit).run P w=.halt x w':=fun u w=>⟨_,_,rfl⟩
  obtain⟨x,w',e⟩:=hu (.noEntry "instr/Next: every entry that the ranged map held at the last iteration is gone, and it holds new ones") w;rw[e]at h;simp[Result.evThen]at h;rcases h with h|h
  ·exact .inl h
  ·exact .inr (.inl h)
 ·generalize (_:Array (Option MapEntry))++_=C at h;have key:∀(j:Nat) (w':af),w'.heap=w.heap->ev∈(match C[j]? with|some (some e)=>(do setObj r (.mapIter (some b) s0 (seen.push e.born) cl);pure (Value.tuple #[Value.bool true,e.key,e.val]):Sem aj)|some none=>pure (Value.tuple #[Value.bool false])|none=>stuck "Next: no such candidate").events P w' ((#[].push (⟨.obj r,false,false⟩:aC)).push ⟨.obj b,false,false⟩)->ev=⟨.obj r,false,false⟩\/ev=⟨.obj b,false,false⟩\/ev=⟨.obj r,true,false⟩:=by
   intro j w' hw h;have hi':=hi;rw[<-hw]at hi';split at h
   ·rename_i e _;obtain⟨q1,w2,q2⟩:=El (P:=P) hi' (some b) s0 cl (seen.push e.born) ((#[].push ⟨.obj r,false,false⟩).push ⟨.obj b,false,false⟩);rw[Sem.events_bind,q1,q2]at h;simp[Result.evThen]at h;rcases h with h|h|h
    ·exact .inl h
    ·exact .inr (.inl h)
    ·exact .inr (.inr h)
   ·simp at h;rcases h with h|h
    ·exact .inl h
    ·exact .inr (.inl h)
   ·have hs:(stuck "Next: no such candidate" :Sem aj).events P w' ((#[].push (⟨.obj r,false,false⟩:aC)).push ⟨.obj b,false,false⟩)=((#[].push (⟨.obj r,false,false⟩:aC)).push ⟨.obj b,false,false⟩):=rfl;rw[hs]at h;simp at h;rcases h with h|h
    ·exact .inl h
    ·exact .inr (.inl h)
  rw[Sem.events_bind,events_choose,run_choose]at h;split at h
  ·exact key _ w rfl h
  ·exact key _ {w with drawn:=w.drawn+1} rfl h
def KU{seen:Array Nat}(hi:w.heap[r]?=some (.mapIter (some b) s0 seen l))(hb:w.heap[b]?=some (.map en cl)):
 ∀ev∈(Instr.entry (.pointer (some ⟨r,0,none⟩))).events P w #[],ev=⟨.obj r,false,false⟩\/ev=⟨.obj b,false,false⟩:=by
 have g1:=(gK (P:=P) hb #[]).1;have g2:=fun es=>(gK (P:=P) hb es).2;have i1:=(iH (P:=P) hi #[]).1;have i2:=fun es=>(iH (P:=P) hi es).2;intro ev h;unfold Instr.entry at h;simp only[Sem.events_bind,i1,i2,Result.evThen_ok]at h;split at h
 ·rw[Sem.events_bind,g1,g2]at h;simp only[Result.evThen_ok]at h;have hu:∀(u:Unsupported) (w:af),∃x w',(unsupported u:Sem Unit).run P w=.halt x w':=fun u w=>⟨_,_,rfl⟩
  have fin:ev∈((#[].push ⟨.obj r,false,false⟩).push ⟨.obj b,false,false⟩:Array aC)->ev=⟨.obj r,false,false⟩\/ev=⟨.obj b,false,false⟩:=fun h=>by simpa using h
  split at h
  ·rw[Sem.events_bind]at h;obtain⟨x,w',e⟩:=hu (.noEntry "instr/Entry: an insertion since the step") w;rw[e]at h;exact fin h
  ·split at h<;>exact fin h
 ·exact .inl (by simpa using(show ev∈(#[].push ⟨.obj r,false,false⟩:Array aC)from h))
end
end
section
open Go Go.Conc Go.RowKit Go.MuLone Go.Maps
def KW{k:az}{R:aj->Option (DataW aj×List MemPlace)}{left:Lit->Bool}(h:w.ranges P k R b r n D left cnt)(hb:w₁.heap[b]?=w.heap[b]?)(hr:w₁.heap[r]?=w.heap[r]?):w₁.ranges P k R b r n D left cnt:=by unfold World.ranges at h⊢;rw[hb,hr];exact h
def mz{L:dY}{k:az}{R:aj->Option (DataW aj×List MemPlace)}{left:Lit->Bool}(h:w.ranges P k R b r n D left cnt)(hb:L.Fx b)(hr:O.own r)(x:RX L O w w₁):w₁.ranges P k R b r n D left cnt:=
 KW h (x.blk b h.owns.lt (.inr hb)) (x.blk r h.lt (.inl hr))
def GD(h:w.grownBy w' (some r))(hs:w'.heap.size=w.heap.size):dO r w w':=by
 refine⟨h.tape,h.os,h.output,hs,fun i hi=>?_⟩;rcases Nat.lt_or_ge i w.heap.size with hl|hl
 ·exact h.block i hl (fun e=>hi (by cases e;rfl))
 ·rw[Array.getElem?_eq_none hl,Array.getElem?_eq_none (by omega)]
section
variable {P:aB}{main:Bool}{J:Jm}{L:dY}{fn:ay}{Q:ep}{O:aI}{a:Act}{w:af}{n1:Nat}{ops:Array Oper}{i:Nat}{rest:List Nat}{o:Oper}
def Em(hr:O.own r)(hb:L.Fx b)(he:∀e∈es,e=⟨.obj r,false,false⟩\/e=⟨.obj b,false,false⟩\/e=⟨.obj r,true,false⟩):∀e∈es,Dv L O e:=by
 intro e hm;rcases he e hm with rfl|rfl|rfl
 ·exact⟨rfl,.inr ⟨r,rfl,.inl hr⟩⟩
 ·exact⟨rfl,.inr ⟨b,rfl,.inr ⟨hb,rfl⟩⟩⟩
 ·exact⟨rfl,.inr ⟨r,rfl,.inl hr⟩⟩
def GF(ho:ops[i]?=some o)(hw:Region.wanted o (yielded ops a.tmps)=true)(it:aD)(hop:o.op=Op.next it false)(k:az)(K:Keyed P k)(hk:P.underlying k=some .string)
 (b r n:Nat) (D:DataW aj) (f:Lit->Option aj) (hs:Says D f) (g:ah->Nat) (p:ah->Prop) (hf:∀x u,f (.string x.data.toList)=some u->u=.pointer (some ⟨g x,0,none⟩)/\p x) (left:Lit->Bool) (cnt:Nat)
 (hit:a.eval it=.pointer (some ⟨r,0,none⟩)) (hb:L.Fx b) (hr:O.own r) (h:w.ranges P k aV b r n D left cnt)
 (hDone:∀w₁,RX L O w w₁->(∀kl,left kl=false)->bN P main J (RX L) (DX L) fn ops rest n1 Q O (a.put o.dst (.tuple #[.bool false])) w₁)
 (hMore:∀w₁,RX L O w w₁->∀(x:ah) (w':af) (cnt':Nat),p x->left (.string x.data.toList)=true->w'.ranges P k aV b r n D (fun z=>left z && !z.sameKey (.string x.data.toList)) cnt'->cnt'<cnt->dO r w₁ w'->
   (Instr.entry (.pointer (some ⟨r,0,none⟩))).run P w'=.ok (.tuple #[.string x,.pointer (some ⟨g x,0,none⟩)]) w'->bN P main J (RX L) (DX L) fn ops rest n1 Q O (a.put o.dst (.tuple #[.bool true,.string x,.pointer (some ⟨g x,0,none⟩)])) w'):
 bN P main J (RX L) (DX L) fn ops (i :: rest) (n1+1) Q O a w:=by
 refine jz ho hw fun w₁ h₁=>?_;have h':=mz h hb hr h₁;have hev:∀e∈listed P fn a o w₁,Dv L O e:=by obtain⟨es,clock,since,seen,c0,KX,_,_,_,W9,_⟩:=h';refine Em hr hb fun e he=>?_;have hm:=mem_listed he;simp[execOp,hop,hit]at hm;exact OD W9 KX e hm
 rcases h'.next K o.type with⟨h0,hl,hrun⟩|⟨key,v,kl,y,w',cnt',hkey,hlk,hv,hat,hrun,mC,hlt,U1,hsz,sj⟩
 ·have e:(execOp a.eval o).run P w₁=.ok (.value (.tuple #[.bool false])) w₁:=by simp[execOp,hop,hit,hrun,Result.andThen]
  rw[e];exact⟨DX.still _ _ hev,by rw[O.dz rfl];exact hDone w₁ h₁ hl⟩
 ·obtain⟨x,rfl,rfl,_⟩:=WideMaps.string_of_keyOf hk hkey;simp only[aV,Option.some.injEq]at hv;subst hv;have hh:=Maps.has_true_of_atKey hat;rw[hs.2]at hh;obtain⟨u,hu⟩:=Option.isSome_iff_exists.1 hh;have e1:=(hs.1 _ u hu .nil).symm.trans (hat .nil);injection e1 with e1;subst e1;obtain⟨rfl,hp⟩:=hf x _ hu;have e:(execOp a.eval o).run P w₁=.ok (.value (.tuple #[.bool true,.string x,.pointer (some ⟨g x,0,none⟩)])) w':=by simp[execOp,hop,hit,hrun,Result.andThen]
  rw[e];have hT:=GD U1 hsz;exact⟨DX.own hr hT hev,by rw[O.dz hsz];exact hMore w₁ h₁ x w' cnt' hp hlk mC hlt hT sj⟩
end
section
variable {P:aB}{main:Bool}{J:Jm}{L:dY}{fn:ay}{Q:ep}{O:aI}{a:Act}{w:af}{n1:Nat}{ops:Array Oper}{i:Nat}{rest:List Nat}{o:Oper}
def xR{k:az}{R:aj->Option (DataW aj×List MemPlace)}(h:w.ownsMap P k R b n D)(hb:L.Fx b)(x:RX L O w w₁):w₁.ownsMap P k R b n D:=by have e:=x.blk b h.lt (.inr hb);unfold World.ownsMap at h⊢;rw[e];exact h
def Eo(ho:ops[i]?=some o)(hw:Region.wanted o (yielded ops a.tmps)=true)(m:aD)(t:az)(hop:o.op=Op.range t m)(k e:az)(K:Keyed P k)(ht:P.underlying t=some (.map k e))(b n:Nat)(D:DataW aj){R:aj->Option (DataW aj×List MemPlace)}
 (hm:a.eval m=.map (some b)) (hb:L.Fx b) (h:w.ownsMap P k R b n D)
 (hK:∀w₁ w',RX L O w w₁->(∃ob,w'=w₁.alloc ob)->w'.ranges P k R b w₁.heap.size n D (Maps.has D) (Maps.size D)->bN P main J (RX L) (DX L) fn ops rest n1 Q (O.grow w₁ w') (a.put o.dst (.pointer (some ⟨w₁.heap.size,0,none⟩))) w'):
 bN P main J (RX L) (DX L) fn ops (i :: rest) (n1+1) Q O a w:=by
 refine jz ho hw fun w₁ h₁=>?_;have h':=xR h hb h₁;obtain⟨w',hrun,r1,_,_⟩:=h'.range K ht;obtain⟨es,clock,KX,_⟩:=h';obtain⟨q1,q2⟩:=GC (P:=P) ht KX;have hw':w'=w₁.alloc (.mapIter (some b) clock #[] clock):=by rw[q1]at hrun;cases hrun;rfl
 have e1:(execOp a.eval o).run P w₁=.ok (.value (.pointer (some ⟨w₁.heap.size,0,none⟩))) w':=by simp[execOp,hop,hm,hrun,Result.andThen]
 rw[e1];refine⟨?_,hK w₁ w' h₁ ⟨_,hw'⟩ r1⟩;have hev:∀x∈listed P fn a o w₁,Dv L O x:=fun x hx=>by have hmm:=mem_listed hx;simp[execOp,hop,hm,q2]at hmm;subst hmm;exact⟨rfl,.inr ⟨b,rfl,.inr ⟨hb,rfl⟩⟩⟩
 have hd:=DX.alloc (L:=L) O w₁ (.mapIter (some b) clock #[] clock);rw[<-hw']at hd;exact⟨hd.tape,hd.os,hd.out,hd.le,hd.blk,hev⟩
def entry_eq{seen:Array Nat}(hi:w.heap[r]?=some (.mapIter (some b) s0 seen l))(hb:w.heap[b]?=some (.map en cl))(hi':w₁.heap[r]?=some (.mapIter (some b) s0 seen l))(hb':w₁.heap[b]?=some (.map en cl))
 (h:(Instr.entry (.pointer (some ⟨r,0,none⟩))).run P w=.ok v w):(Instr.entry (.pointer (some ⟨r,0,none⟩))).run P w₁=.ok v w₁:=by
 have g1:=(gK (P:=P) hb #[]).1;have i1:=(iH (P:=P) hi #[]).1;have g2:=(gK (P:=P) hb' #[]).1;have i2:=(iH (P:=P) hi' #[]).1;unfold Instr.entry at h⊢;simp only[Sem.run_bind,i1,i2,Result.andThen]at h⊢;cases hs:seen.back? with
 |none=>rw[hs]at h;cases h
 |some st=>
  rw[hs]at h;simp only[Sem.run_bind,g1,g2,Result.andThen]at h⊢;split at h
  ·rename_i hc;rw[Sem.run_bind]at h;cases h
  ·rename_i hc;rw[if_neg hc];cases hf:en.find? (fun x=>x.born == st)with
   |none=>rw[hf]at h;cases h
   |some e=>
    rw[hf]at h;simp only[Sem.run_pure,Result.ok.injEq]at h⊢;exact⟨h.1,trivial⟩
def Ep(ho:ops[i]?=some o)(hw:Region.wanted o (yielded ops a.tmps)=true)(it:aD)(hop:o.op=Op.entry it){k:az}{R:aj->Option (DataW aj×List MemPlace)}(b r n:Nat)(D:DataW aj)(left:Lit->Bool)(cnt:Nat)
 (hit:a.eval it=.pointer (some ⟨r,0,none⟩)) (hb:L.Fx b) (hr:O.own r) (h:w.ranges P k R b r n D left cnt) {v:aj} (sj:(Instr.entry (.pointer (some ⟨r,0,none⟩))).run P w=.ok v w)
 (hK:∀w₁,RX L O w w₁->bN P main J (RX L) (DX L) fn ops rest n1 Q O (a.put o.dst v) w₁):
 bN P main J (RX L) (DX L) fn ops (i :: rest) (n1+1) Q O a w:=by
 refine jz ho hw fun w₁ h₁=>?_;have wJ:=h.owns.lt;have hrl:=h.lt;obtain⟨es,clock,since,seen,c0,KX,_,_,_,W9,_⟩:=h;have iz:=(h₁.blk b wJ (.inr hb)).trans KX;have FZ:=(h₁.blk r hrl (.inl hr)).trans W9;have afb:=entry_eq W9 KX FZ iz sj;have e1:(execOp a.eval o).run P w₁=.ok (.value v) w₁:=by simp[execOp,hop,hit,afb,Result.andThen]
 rw[e1];refine⟨DX.still _ _ (Em hr hb fun e he=>?_),by rw[O.dz rfl];exact hK w₁ h₁⟩;have hm:=mem_listed he;simp[execOp,hop,hit]at hm;rcases KU FZ iz e hm with q|q
 ·exact .inl q
 ·exact .inr (.inl q)
end
section
variable {P:aB}{main:Bool}{J:Jm}{L:dY}{fn:ay}{Q:ep}{O:aI}{a:Act}{w:af}{n1:Nat}{ops:Array Oper}{i:Nat}{rest:List Nat}{o:Oper}
def Ca{k:az}(h:aS w P k b f)(hb:L.Fx b)(x:RX L O w w₁):aS w₁ P k b f:=h.of_eq (x.blk b h.lt (.inr hb))
def GG(ho:ops[i]?=some o)(hw:Region.wanted o (yielded ops a.tmps)=true)(m x:aD)(t:az)(hop:o.op=Op.lookup t m x false)
 (k e:az) (K:Keyed P k) (hk:P.underlying k=some .string) (ht:P.underlying t=some (.map k e)) {z:aj} (hz:∀w,(zeroValue e).run P w=.ok z w) (b:Nat) (f:Lit->Option aj)
 (hm:a.eval m=.map (some b)) (hb:L.Fx b) (hown:aS w P k b f) (s:ah) (kl:Lit) (hx:a.eval x=.string s) (hkey:keyOf P k (.string s)=some kl) (fv:Option aj) (hf:f kl=fv)
 (hK:∀w₁,RX L O w w₁->bN P main J (RX L) (DX L) fn ops rest n1 Q O (a.put o.dst (fv.getD z)) w₁):
 bN P main J (RX L) (DX L) fn ops (i :: rest) (n1+1) Q O a w:=by
 refine jz ho hw fun w₁ h₁=>?_;have h':=Ca hown hb h₁;have hrun:=h'.look K ht (hz w₁) hkey;rw[hf]at hrun;have e1:(execOp a.eval o).run P w₁=.ok (.value (fv.getD z)) w₁:=by simp[execOp,hop,hm,hx,hrun,Result.andThen]
 rw[e1];refine⟨DX.still _ _ fun ev he=>?_,by rw[O.dz rfl];exact hK w₁ h₁⟩;obtain⟨_,_,⟨es,clock,KX,_⟩,_⟩:=h';have hmm:=mem_listed he;simp[execOp,hop,hm,hx]at hmm;have:=xQ hk s ht b w₁ KX ev hmm;subst this;exact⟨rfl,.inr ⟨b,rfl,.inr ⟨hb,rfl⟩⟩⟩
end
end
section
open Go Go.Conc Go.RowKit Go.MuLone
variable {main:Bool}{J:Jm}{L:dY}
structure MP(L:dY)(w:af)(pr qm:Nat)(f:Lit->Option aj)(qb:ah->Nat)(p:ah->Prop)(wn:ah->Nat)(hv:ah->Bool)(tv:ah->ah)(ts:ah->aj)(fm:ah->ah->Bool):Prop where
 fp:L.Fx pr
 cell:w.cell? ⟨pr,4,none⟩=some (.map (some qm))
 fq:L.Fx qm
 map:aS w prog 9 qm f
 meets:∀x u,f (.string x.data.toList)=some u->u=.pointer (some ⟨qb x,0,none⟩)/\p x
 fx:∀x,p x->L.Fx (qb x)
 c2:∀x,p x->w.cell? ⟨qb x,2,none⟩=some (.int .i64 (wn x))
 c3:∀x,p x->w.cell? ⟨qb x,3,none⟩=some (.bool (hv x))
 c4:∀x,p x->w.cell? ⟨qb x,4,none⟩=some (.string (tv x))
 c5:∀x,p x->w.cell? ⟨qb x,5,none⟩=some (ts x)
 KY:∀x,p x->rA L w (ts x) (fm x)
 bd:∀x,p x->wn x<=1000
def rA.rx{g:ah->Bool}(h:rA L w v g)(x:RX L O w w₁):rA L w₁ v g:=by
 cases h with
 |none=>exact .none
 |keys a Ls cap h8 hc=>exact .keys a Ls cap h8 fun k y hy=>by obtain⟨g,hg,e,hh⟩:=hc k y hy;exact⟨g,hg,e,x.aZ hh hg⟩
 |mask m=>exact .mask m
def MP.rx{w w₁:af}{O:aI}{pr qm:Nat}{f:Lit->Option aj}{qb:ah->Nat}{p:ah->Prop}{wn:ah->Nat}{hv:ah->Bool}{tv:ah->ah}{ts:ah->aj}{fm:ah->ah->Bool}(h:MP L w pr qm f qb p wn hv tv ts fm)(x:RX L O w w₁):MP L w₁ pr qm f qb p wn hv tv ts fm:=
 ⟨h.fp,x.aZ h.cell h.fp,h.fq,Ca h.map h.fq x,h.meets,h.fx,fun y hy=>x.aZ (h.c2 y hy) (h.fx y hy),fun y hy=>x.aZ (h.c3 y hy) (h.fx y hy),fun y hy=>x.aZ (h.c4 y hy) (h.fx y hy),fun y hy=>x.aZ (h.c5 y hy) (h.fx y hy),fun y hy=>(h.KY y hy).rx x,h.bd⟩
end
section
open Go Go.Conc Go.ConcM Go.RowKit
variable {main:Bool}{L:dY}{pb:Nat}
def afI:∃n,∀(O1:aI) (W:af) (Kf:Nat) (t:Int) (sv aw:Bool) (it:Nat) (old:Wd) (O:aI) (a:Act) (w:af) (Q:ep) (b:Bool),mZ a pb t sv aw it old->a.tmps[41]?=some (.bool b)->dB L O1 W pb Kf (.rd (aw || b) sv (it+1) (decide (t≠0))) 0 O w->
 cR prog main (iR prog main pb) (RX L) (DX L) 111 (cB (cA (cT (cB (cA dD))))) n (bh (fun O' a' w'=>∃aw',mZ a' pb t sv aw' it old/\dB L O1 W pb Kf (.rd aw' sv (it+1) (decide (t≠0))) 0 O' w') Q) O a w:=by
 co_apply Exists.intro;intro O1 W Kf t sv aw it old O a w Q b hl h41 hS;dsimp only[qo,dD,bP,cA,cB,cI,cT,cE,f111,Option.getD_some];(obtain⟨hd,hsz,g0,g2,g3,g4,g5,g6⟩:=hl;obtain⟨fv,hT,aL⟩:=B8 hd hsz;subst hT;simp only[aL 0 _ g0,aL 2 _ g2,aL 3 _ g3,aL 4 _ g4,aL 5 _ g5,aL 6 _ g6,aL 41 _ h41];clear hd hsz aL g0 g2 g3 g4 g5 g6 h41);co_apply eT (b=true)
 ·intro h;subst h;simp only[Bool.or_true]at hS;co_apply (dX);intro _ hS;exact⟨true,⟨rfl,rfl,rfl,rfl,rfl,rfl,rfl,rfl⟩,hS⟩
 ·intro h;obtain rfl:b=false:=by simpa using h
  simp only[Bool.or_false]at hS;co_apply (jy);exact⟨aw,⟨rfl,rfl,rfl,rfl,rfl,rfl,rfl,rfl⟩,hS⟩
def OU:∃n,∀(O1:aI) (W:af) (O:aI) (a:Act) (w:af) (Q:ep),0<O.fu->Xb L O1 W pb O.fu O a w->
 Hid (∀O' a' w',O'.fu<O.fu->Xb L O1 W pb O'.fu O' a' w'->Q O' .normal a' w')->Hid (∀O' a' w',a'.defers= []->a'.tmps.size=139->a'.tmps[0]?=some (.pointer (some ⟨pb,0,none⟩))->dB L O1 W pb O.fu .hold 5 O' w'->Q O' (.exit 0) a' w')->
 cR prog main (iR prog main pb) (RX L) (DX L) 111 (.block 1 dD) n Q O a w:=by
 obtain⟨n1,h1⟩:=afk (main:=main) (L:=L) (pb:=pb);obtain⟨n2,h2⟩:=afl (main:=main) (L:=L) (pb:=pb);obtain⟨n3,h3⟩:=afn (main:=main) (L:=L) (pb:=pb);obtain⟨n7,h7⟩:=afI (main:=main) (L:=L) (pb:=pb);obtain⟨n11,Wx⟩:=aaY (main:=main) (L:=L) (pb:=pb);obtain⟨n12,h12⟩:=aaZ (main:=main) (L:=L) (pb:=pb);obtain⟨n14,WX⟩:=aa1 (main:=main) (L:=L) (pb:=pb);obtain⟨n16,h16⟩:=aa2 (main:=main) (L:=L) (pb:=pb);obtain⟨n18,h18⟩:=aa3 (main:=main) (L:=L) (pb:=pb);obtain⟨n22,h22⟩:=aa6 (main:=main) (L:=L) (pb:=pb);obtain⟨n23,h23⟩:=aa7 (main:=main) (L:=L) (pb:=pb);obtain⟨n24,h24⟩:=aa8 (main:=main) (L:=L) (pb:=pb);obtain⟨n25,h25⟩:=aa9 (main:=main) (L:=L) (pb:=pb);obtain⟨n27,h27⟩:=abd (main:=main) (L:=L) (pb:=pb);obtain⟨n28,h28⟩:=abe (main:=main) (L:=L) (pb:=pb);obtain⟨n29,h29⟩:=abg (main:=main) (L:=L) (pb:=pb);obtain⟨n30,h30⟩:=abh (main:=main) (L:=L) (pb:=pb);obtain⟨n37,h37⟩:=abi (main:=main) (L:=L) (pb:=pb);obtain⟨n39,h39⟩:=abj (main:=main) (L:=L) (pb:=pb);co_apply Exists.intro;intro O1 W O a w Q hfu hI hN hX;have Az:∀(Kf:Nat) (O':aI) (a':Act) (w':af),Kf<O.fu->Xb L O1 W pb Kf O' a' w'->O'.fu<O.fu/\Xb L O1 W pb O'.fu O' a' w':=by rintro Kf O' a' w' hK ⟨t,sv,aw,it,old,q1,q2,q3,q4⟩;exact⟨by have:=q4.fu;omega,t,sv,aw,it,old,q1,q2,q3,q4.fr,q4.ok,q4.pos,q4.no,za8 _,q4.sh⟩
 obtain⟨t,sv,aw,it,old,hl,hc,hit,hS⟩:=hI;co_apply fE (aF L);co_apply aK (aF L) (x:=cA dD) (y:=cB dD) (fun O' a' w'=>mZ a' pb t sv aw it old/\dB L O1 W pb O.fu (.rz old aw sv it (decide (t≠0))) 0 O' w')
 ·co_apply aK (aF L) (x:=cA (cA dD)) (y:=cB (cA dD)) _
  ·exact h1 O1 W O.fu t sv aw it old O a w _ hl hc hS
  ·rintro O' a' w' ⟨hl,b,UM,hb⟩;have e20:a'.eval (.tmp 20)=.bool b:=by simp[Act.eval,UM]
   co_apply aU (aF L) (t:=b) (x:=cT (cB (cA dD))) (y:=.skip) e20
   ·intro Dz;obtain⟨hlt,hol,hos,hS⟩:it<4/\old.l=true/\old.s=false/\dB L O1 W pb (O.fu-1) (spT old aw sv it (decide (t≠0))) 0 O' w':=by
     rcases hb with⟨e,_⟩|⟨_,h⟩
     ·rw[Dz]at e;cases e
     ·exact h
    co_apply aK (aF L) (x:=cA (cT (cB (cA dD)))) (y:=cB (cT (cB (cA dD)))) (fun O' a' w'=>∃aw',mZ a' pb t sv aw' it old/\dB L O1 W pb (O.fu-1) (.rd aw' sv (it+1) (decide (t≠0))) 0 O' w')
    ·co_apply aK (aF L) (x:=cA (cA (cT (cB (cA dD))))) (y:=cB (cA (cT (cB (cA dD))))) _
     ·exact h2 O1 W (O.fu-1) t sv aw it old O' a' w' _ hl hc hS
     ·rintro O' a' w' ⟨hl,b,h41,hS⟩;exact h7 O1 W (O.fu-1) t sv aw it old O' a' w' _ b hl h41 hS
    ·rintro O' a' w' ⟨aw',hl,hS⟩;exact h3 O1 W (O.fu-1) t sv aw' it old O' a' w' _ hl hlt hS (fun O' a' w' h=>by have:=Az _ _ _ _ (by omega) h;exact hN.out _ _ _ this.1 this.2)
   ·intro Xm;co_apply iT (aF L);rcases hb with⟨_,h⟩|⟨e,_⟩
    ·exact⟨hl,h⟩
    ·rw[Xm]at e;cases e
 ·rintro O' a' w' ⟨hl,hS⟩;co_apply aK (aF L) (x:=cA (cB dD)) (y:=cB (cB dD)) _;focus exact Wx O1 W O.fu t sv aw it old O' a' w' _ hl hc hS
  rintro O' a' w' ⟨hl,g7,hS⟩;co_apply aK (aF L) (x:=cA (cB (cB dD))) (y:=cB (cB (cB dD))) _;focus exact h12 O1 W O.fu t sv aw it old O' a' w' _ hl g7 hc hS
  rintro O' a' w' ⟨hl,g7,hS⟩;co_apply aK (aF L) (x:=cA (cB (cB (cB dD)))) (y:=cB (cB (cB (cB dD)))) _;focus exact WX O1 W O.fu t sv aw it old O' a' w' _ hl g7 hc hS
  rintro O' a' w' ⟨hl,g7,hS⟩;co_apply aK (aF L) (x:=cA (cB (cB (cB (cB dD))))) (y:=cB (cB (cB (cB (cB dD))))) _;focus exact h16 O1 W O.fu t sv aw it old O' a' w' _ hl g7 hc hS
  rintro O' a' w' ⟨hl,g7,hS⟩;co_apply aK (aF L) (x:=cA (cB (cB (cB (cB (cB dD)))))) (y:=cB (cB (cB (cB (cB (cB dD)))))) _;focus exact h18 O1 W O.fu t sv aw it old O' a' w' _ hl g7 hc hS
  rintro O' a' w' ⟨hl,g7,hS⟩;co_apply aK (aF L) (x:=cA (cB (cB (cB (cB (cB (cB dD))))))) (y:=cB (cB (cB (cB (cB (cB (cB dD))))))) _;focus exact h22 O1 W O.fu t sv aw it old O' a' w' _ hl g7 hc hS
  rintro O' a' w' ⟨hl,b,h80,hb⟩;have e80:a'.eval (.tmp 80)=.bool b:=by simp[Act.eval,h80]
  co_apply aU (aF L) (t:=b) (x:=qo) (y:=cE (cB (cB (cB (cB (cB (cB (cB dD)))))))) e80
  ·intro Dz;replace hS:dB L O1 W pb (O.fu-1) (sX old sv (decide (t≠0))) (gD (sX old sv (decide (t≠0)))) O' w':=by
    rcases hb with⟨_,h⟩|⟨e,_⟩
    ·exact h
    ·rw[Dz]at e;cases e
   have hX':∀O' a' w',a'.defers= []->a'.tmps.size=139->a'.tmps[0]?=some (.pointer (some ⟨pb,0,none⟩))->dB L O1 W pb (O.fu-1) .hold 5 O' w'->iU 1 Q O' (.exit 0) a' w':=fun O' a' w' q1 q2 q3 q4=>hX.out O' a' w' q1 q2 q3 (q4.weak (by omega));co_apply aK (aF L) (x:=cA qo) (y:=cB qo) _;focus exact h23 O1 W (O.fu-1) t sv aw it old O' a' w' _ hl hc hS hX'
   rintro O' a' w' ⟨hl,hS⟩;co_apply aK (aF L) (x:=cA (cB qo)) (y:=cB (cB qo)) _;focus exact h24 O1 W (O.fu-1) t sv aw it old O' a' w' _ hl hS
   rintro O' a' w' ⟨hl,hS⟩;co_apply aK (aF L) (x:=cA (cB (cB qo))) (y:=cB (cB (cB qo))) _;focus exact h25 O1 W (O.fu-1) t sv aw it old O' a' w' _ hl hS
   rintro O' a' w' ⟨t',hl,hS⟩;co_apply aK (aF L) (x:=cA (cB (cB (cB qo)))) (y:=cB (cB (cB (cB qo)))) _;focus exact h27 O1 W (O.fu-1) t' sv aw it old O' a' w' _ hl hS
   rintro O' a' w' ⟨hl,hS⟩;co_apply aK (aF L) (x:=cA (cB (cB (cB (cB qo))))) (y:=cB (cB (cB (cB (cB qo))))) _;focus exact h28 O1 W (O.fu-1) t' sv aw it old O' a' w' _ hl hS
   rintro O' a' w' ⟨sv',hl,hS⟩;co_apply aK (aF L) (x:=cA (cB (cB (cB (cB (cB qo)))))) (y:=cB (cB (cB (cB (cB (cB qo)))))) _;focus exact h29 O1 W (O.fu-1) t' sv' aw it old O' a' w' _ hl hS
   rintro O' a' w' ⟨x,vT,S3,hl,hS⟩;co_apply aK (aF L) (x:=cA (cB (cB (cB (cB (cB (cB qo))))))) (y:=cB (cB (cB (cB (cB (cB (cB qo))))))) _;focus exact h30 O1 W (O.fu-1) t' sv' aw it x O' a' w' _ hl vT S3 (hS.weak (by omega)) hX'
   rintro O' a' w' ⟨hl,hS⟩;refine h37 O1 W (O.fu-1) t' sv' aw it x O' a' w' _ hl hS ?_;intro O' a' w' hl hS;have:=Az (O.fu-1) O' a' w' (by omega) ⟨t',sv',true,0,x,hl,vT,by omega,hS⟩;exact hN.out _ _ _ this.1 this.2
  ·intro Xm;replace hS:dB L O1 W pb (O.fu-1) (.rd aw sv it (decide (t≠0))) 0 O' w':=by
    rcases hb with⟨e,_⟩|⟨_,h⟩
    ·rw[Xm]at e;cases e
    ·exact h
   refine h39 O1 W (O.fu-1) t sv aw it old O' a' w' _ hl hS ?_;intro O' a' w' x vT hl hS;have:=Az (O.fu-1-1) O' a' w' (by omega) ⟨t,sv,aw,it,x,hl,vT,hit,hS⟩;exact hN.out _ _ _ this.1 this.2
end
section
open Go Go.Conc Go.RowKit Go.MuLone
open Go.Maps (Keyed)
variable {main:Bool}{J:Jm}{L:dY}
def qn.aZ{O0 O:aI}{w0 w:af}(h:qn L O0 w0 O w){a:aA}{v:aj}(hc:w0.cell? a=some v)(hx:L.Fx a.block):w.cell? a=some v:=h.rel.aZ hc hx
structure iS(L:dY)(W w:af):Prop where
 le:W.heap.size<=w.heap.size
 blk:∀i,i<W.heap.size->L.Fx i->w.heap[i]?=W.heap[i]?
 live:Dt L.tw L.Wg W->Dt L.tw L.Wg w
def iS.of(h:RX L O W w):iS L W w:=⟨h.le,fun i hi hx=>h.blk i hi (.inr hx),h.live⟩
def iS.rely(h:iS L W w)(r:RX L O w w₁):iS L W w₁:=⟨Nat.le_trans h.le r.le,fun i hi hx=>(r.blk i (Nat.lt_of_lt_of_le hi h.le) (.inr hx)).trans (h.blk i hi hx),r.live ∘ h.live⟩
def iS.aZ(h:iS L w0 w)(hc:w0.cell? a=some v)(hx:L.Fx a.block):w.cell? a=some v:=by have hl:a.block<w0.heap.size:=zba w0 _ hc;have:=h.blk a.block hl hx;rw[<-hc];unfold World.cell?;rw[this]
def vo(h:w.cell? a=some v):∃cs t fr,w.heap[a.block]?=some (.cells cs t fr):=by
 unfold World.cell? at h;split at h
 ·exact⟨_,_,_,by assumption⟩
 ·cases h
def iS.acy(h:iS L W w)(t:dO r w w')(hr:¬L.Fx r)(hg:L.Wg≠r):iS L W w':=⟨by rw[t.size];exact h.le,fun i hi hx=>(t.other i fun e=>hr (e▸hx)).trans (h.blk i hi hx),fun x=>by obtain⟨st,sm,q⟩:=h.live x;exact⟨st,sm,(t.other _ hg).trans q⟩⟩
def Iz{R:uA}{D:uB}(T:bY R D){f:ay}{Post:aI->aj->af->Prop}(hp:∀O v x y,Post O v x->R O x y->Post O v y)(O:aI)(a:Act)(x y:af)
 (h:nY P main J R D dn f fn Post O .normal a x) (r:R O x y):nY P main J R D dn f fn Post O .normal a y:=by
 rcases h with⟨h1,v,h2,h3⟩|⟨d,f',cap,h1,h2,fnd,c,q1,q2,q3,q4⟩|⟨d,h1,h2⟩
 ·exact .inl ⟨h1,v,fun w₁ h₁=>h2 w₁ (T.trans _ _ _ _ r h₁),hp O v x y h3 r⟩
 ·exact .inr (.inl ⟨d,f',cap,h1,h2,fnd,c,q1,q2,q3,kM T q4 r⟩)
 ·exact .inr (.inr ⟨d,h1,fun b todo cs hb w₁ h₁=>h2 b todo cs hb w₁ (T.trans _ _ _ _ r h₁)⟩)
def DX.mine{cs:Array aj}{t:az}{fr:Nat×Nat}(hb:w.heap[ab]?=some (.cells cs t fr))(o1 o2 o3:Nat)(v1 v2 v3:aj)(m1:L.Mn ⟨ab,o1,none⟩)(m2:L.Mn ⟨ab,o2,none⟩)(m3:L.Mn ⟨ab,o3,none⟩)(he:∀e∈es,Dv L O e):
 DX L O w (((w.setCell ⟨ab,o1,none⟩ v1).setCell ⟨ab,o2,none⟩ v2).setCell ⟨ab,o3,none⟩ v3) es:=by
 have hT:=((dO.cell ab o1 w v1).trans (dO.cell ab o2 _ v2)).trans (dO.cell ab o3 _ v3);refine⟨hT.tape,hT.os,hT.out,Nat.le_of_eq hT.size.symm,fun i hi hO=>?_,he⟩;by_cases e:i=ab
 ·subst e;refine .inr ⟨cs,((cs.setIfInBounds o1 v1).setIfInBounds o2 v2).setIfInBounds o3 v3,t,fr,hb,by simp[World.setCell,Array.getElem?_modify,hb],by simp,fun j hj=>?_⟩;have n1:o1≠j:=fun e=>hj (e▸m1);have n2:o2≠j:=fun e=>hj (e▸m2);have n3:o3≠j:=fun e=>hj (e▸m3);rw[zbd n3,zbd n2,zbd n1]
 ·exact .inl (hT.other i e)
structure Jn(L:dY)(b0 b1 b2 b3 b4 qb pb ab:Nat)(key:ah)(ms:List Int)(cb:Option aA)(gE N iP i:Nat)(w:af):Prop where
 f0:L.Fx b0
 f1:L.Fx b1
 f2:L.Fx b2
 f3:L.Fx b3
 f4:L.Fx b4
 fq:L.Fx qb
 c0:w.cell? ⟨b0,0,none⟩=some (.pointer (some ⟨qb,0,none⟩))
 c1:w.cell? ⟨b1,0,none⟩=some (.string key)
 c2:w.cell? ⟨b2,0,none⟩=some (.slice cb ms.length gE)
 c3:w.cell? ⟨b3,0,none⟩=some (.slice (some ⟨ab,0,none⟩) N iP)
 c4:w.cell? ⟨b4,0,none⟩=some (.int .i64 (i:Nat))
 cq:w.cell? ⟨qb,0,none⟩=some (.pointer (some ⟨pb,0,none⟩))
def On(nl:Nat):∃n,∀(b0 b1 b2 b3 b4 qb pb ab kb:Nat) (f:Lit->Option aj) (vl:Int->List KV) (key:ah) (ms:List Int) (cb:Option aA) (gE N iP i:Nat) (O:aI) (w:af),L.N<=w.heap.size->kH L pb kb f vl w->i<N->N<=8->¬L.Fx ab->L.Wg≠ab->(valueOf (vl (eP vl key ms)) key).size<=1000->Hid (∀j,j<3->L.Mn ⟨ab,i*3+j,none⟩/\(∃v,w.cell? ⟨ab,i*3+j,none⟩=some v)/\w.frozen? ⟨ab,i*3+j,none⟩=false)->
 Jn L b0 b1 b2 b3 b4 qb pb ab key ms cb gE N iP i w->
 ms.length<=8->(∀m∈ms,0<=m/\m<=1000)->Hid (∀(k:Nat) (m:Int),ms[k]?=some m->∃g,L.Fx g/\cb=some ⟨g,0,none⟩/\w.cell? ⟨g,k,none⟩=some (.int .i64 m))->
 Ee main J L pb nl->O.pos=.lk .uy 1->¬O.own pb->
 bE prog main J (RX L) (DX L) 80 #[.pointer (some ⟨b0,0,none⟩),.pointer (some ⟨b1,0,none⟩),.pointer (some ⟨b2,0,none⟩),.pointer (some ⟨b3,0,none⟩),.pointer (some ⟨b4,0,none⟩)] n O w fun O' v w'=>(O'.pos=.lk .out 0/\iS L w w')/\v=.tuple #[]/\w'.cell? ⟨ab,i*3,none⟩=some (.string key)/\w'.cell? ⟨ab,i*3+1,none⟩=some (.int .i64 (eP vl key ms))/\w'.cell? ⟨ab,i*3+2,none⟩=some (.string (valueOf (vl (eP vl key ms)) key)):=by
 obtain⟨ng,U1⟩:=IA (main:=main) (J:=J) (L:=L) nl;obtain⟨na,han⟩:=vn (main:=main) (J:=J) (L:=L);co_apply Exists.intro;intro b0 b1 b2 b3 b4 qb pb ab kb f vl key ms cb gE N iP i O w hN hP FY WQ hnf uh hvs hmn hB h8 uj hcell hlk hpos hno;have hF:qn L O w O w:=qn.refl hN;co_apply bF func80 (by rfl) rfl;walk_nrmf ntmps80;obtain⟨W,hW⟩:∃W,W=w:=⟨_,rfl⟩
 obtain⟨O1,hO⟩:∃O1,O1=O:=⟨_,rfl⟩
 rw[<-hW,<-hO]at hF⊢;rw[<-hW]at hP hcell hB hN hmn;rw[<-hO]at hpos hno;clear hW hO;co_apply (gJ);co_apply gi (aF L) DX.draw (c:=ng+Du) (O0:=O1) (S:=iS L W) (by unfold Du;omega) (by first|kernel_rfl|rfl);intro W1 hR;replace hF:=(hF.rely hR).rely (RX.draw _ _);clear hR;simp only[List.size_toArray,List.length_cons,List.length_nil,Nat.reduceAdd,Nat.zero_add];co_applyP Rn (fun _ _ _ _ hx r=>iS.rely hx r) (fun _ _ _ _ h r=>kM (aF L) h r) hF.own (iS.of hF.rel);intro hb;(co_applyP AR hb (i:=0) rfl (by kernel_rfl) (by rfl) (fun _ _ hO hw=>?b2);(case b2=>((have hc:=iS.aZ hw hB.c0 hB.f0);refine⟨fun K hK=>?_,?_⟩;(focus(go_simp;exact hK));(refine DX.still _ _ (cC (a:=⟨b0,0,none⟩) (.inl hB.f0) fun e he=>?_);have hm:=mem_listed he;simp[go_sem,hc]at hm;exact hm)));try walk_nrm);(co_applyP (pX hb (i:=1));try walk_nrm);(co_applyP (pX hb (i:=2));try walk_nrm);(co_applyP AR hb (i:=3) rfl (by kernel_rfl) (by rfl) (fun _ _ hO hw=>?b5);(case b5=>((have hc:=iS.aZ hw hB.cq hB.fq);refine⟨fun K hK=>?_,?_⟩;(focus(go_simp;exact hK));(refine DX.still _ _ (cC (a:=⟨qb,0,none⟩) (.inl hB.fq) fun e he=>?_);have hm:=mem_listed he;simp[go_sem,hc]at hm;exact hm)));try walk_nrm);(co_applyP AR hb (i:=4) rfl (by kernel_rfl) (by rfl) (fun _ _ hO hw=>?b6);(case b6=>((have hc:=iS.aZ hw hB.c1 hB.f1);refine⟨fun K hK=>?_,?_⟩;(focus(go_simp;exact hK));(refine DX.still _ _ (cC (a:=⟨b1,0,none⟩) (.inl hB.f1) fun e he=>?_);have hm:=mem_listed he;simp[go_sem,hc]at hm;exact hm)));try walk_nrm);(co_applyP AR hb (i:=5) rfl (by kernel_rfl) (by rfl) (fun _ _ hO hw=>?b7);(case b7=>((have hc:=iS.aZ hw hB.c2 hB.f2);refine⟨fun K hK=>?_,?_⟩;(focus(go_simp;exact hK));(refine DX.still _ _ (cC (a:=⟨b2,0,none⟩) (.inl hB.f2) fun e he=>?_);have hm:=mem_listed he;simp[go_sem,hc]at hm;exact hm)));try walk_nrm);refine jN (rs:= [6]) (by kernel_rfl) (by simp) fun i hi=>?_;obtain rfl:i=6:=by simpa using hi
 refine .inr ⟨81,_,_,ng,_,za8 _,rfl,by walk_nrm;exact U1 pb kb f vl key ms cb gE _ _ hF.top (hP.rx hF.rel) h8 uj (fun k m hk=>by obtain⟨g,hg,e,hc⟩:=hcell.out k m hk;exact⟨g,hg,e,hF.aZ hc hg⟩) hlk hpos hno,?_⟩;rintro O2 x W2 ⟨rfl,OQ,hF2⟩;replace hF:=hF.trans hF2;clear hF2;refine⟨⟨hF.own,iS.of hF.rel⟩,?_⟩;walk_nrm;co_applyP Rn (fun _ _ _ _ hx r=>iS.rely hx r) (fun _ _ _ _ h r=>kM (aF L) h r) hF.own (iS.of hF.rel);intro hb;(co_applyP (pX hb (i:=7));try walk_nrm);(co_applyP (pX hb (i:=8));try walk_nrm);(co_applyP (pX hb (i:=9));try walk_nrm);(co_applyP (pX hb (i:=10));try walk_nrm);(co_applyP (pX hb (i:=11));try walk_nrm);refine ko (by kernel_rfl) ?_ _;co_then;have hQR:=Iz (main:=main) (P:=prog) (J:=J) (aF L) (dn:=0) (f:=80) (fn:=f80) (Post:=fun O' v w'=>(O'.pos=.lk .out 0/\iS L W w')/\v=.tuple #[]/\w'.cell? ⟨ab,i*3,none⟩=some (.string key)/\w'.cell? ⟨ab,i*3+1,none⟩=some (.int .i64 (eP vl key ms))/\w'.cell? ⟨ab,i*3+2,none⟩=some (.string (valueOf (vl (eP vl key ms)) key)))
  (fun _ _ x y h r=>⟨⟨h.1.1,h.1.2.rely r⟩,h.2.1,(r.mn _ (hmn.out 0 (by omega)).1).1.trans h.2.2.1,(r.mn _ (hmn.out 1 (by omega)).1).1.trans h.2.2.2.1,(r.mn _ (hmn.out 2 (by omega)).1).1.trans h.2.2.2.2⟩)
 co_apply gi (aF L) DX.draw (c:=na+Du) (O0:=O1) (S:=iS L W) (by unfold Du;omega) (by first|kernel_rfl|rfl);intro W3 hR;replace hF:=(hF.rely hR).rely (RX.draw _ _);clear hR;simp only[List.size_toArray,List.length_cons,List.length_nil,Nat.reduceAdd,Nat.zero_add];co_applyP Rn (fun _ _ _ _ hx r=>iS.rely hx r) hQR hF.own (iS.of hF.rel);intro hb;(co_applyP AR hb (i:=0) rfl (by kernel_rfl) (by rfl) (fun _ _ hO hw=>?b14);(case b14=>((have hc:=iS.aZ hw hB.c3 hB.f3);refine⟨fun K hK=>?_,?_⟩;(focus(go_simp;exact hK));(refine DX.still _ _ (cC (a:=⟨b3,0,none⟩) (.inl hB.f3) fun e he=>?_);have hm:=mem_listed he;simp[go_sem,hc]at hm;exact hm)));try walk_nrm);(co_applyP AR hb (i:=1) rfl (by kernel_rfl) (by rfl) (fun _ _ hO hw=>?b15);(case b15=>((have hc:=iS.aZ hw hB.c4 hB.f4);refine⟨fun K hK=>?_,?_⟩;(focus(go_simp;exact hK));(refine DX.still _ _ (cC (a:=⟨b4,0,none⟩) (.inl hB.f4) fun e he=>?_);have hm:=mem_listed he;simp[go_sem,hc]at hm;exact hm)));try walk_nrm);(co_applyP AR hb (i:=2) rfl (by kernel_rfl) (by rfl) (fun _ _ hO hw=>?b16);(case b16=>((have hc:=iS.aZ hw hB.c1 hB.f1);refine⟨fun K hK=>?_,?_⟩;(focus(go_simp;exact hK));(refine DX.still _ _ (cC (a:=⟨b1,0,none⟩) (.inl hB.f1) fun e he=>?_);have hm:=mem_listed he;simp[go_sem,hc]at hm;exact hm)));try walk_nrm);(co_applyP (pX hb (i:=3));try walk_nrm);(co_applyP (pX hb (i:=4));try walk_nrm);refine jN (rs:= [5]) (by kernel_rfl) (by simp) fun i hi=>?_;obtain rfl:i=5:=by simpa using hi
 refine .inr ⟨78,_,_,na,_,za8 _,rfl,by walk_nrm;exact han key (eP vl key ms) _ _ _ hvs hF.top,?_⟩;rintro O3 x W4 ⟨rfl,hF2⟩;have acz:=hF2.gh.1.trans OQ;replace hF:=hF.trans hF2.Rk;clear hF2;refine⟨⟨hF.own,iS.of hF.rel⟩,?_⟩;walk_nrm;co_applyP Rn (fun _ _ _ _ hx r=>iS.rely hx r) hQR hF.own (iS.of hF.rel);intro hb;(co_applyP (pX hb (i:=6));try walk_nrm);refine jN (rs:= [7]) (by kernel_rfl) (by simp) fun i hi=>?_;obtain rfl:i=7:=by simpa using hi
 refine .inl fun W5 h5=>?_;replace hF:=hF.rely h5;obtain⟨m0,⟨v0,q0⟩,z0⟩:=hmn.out 0 (by omega);obtain⟨m1,⟨v1,q1⟩,z1⟩:=hmn.out 1 (by omega);obtain⟨m2,⟨v2,q2⟩,z2⟩:=hmn.out 2 (by omega);simp only[Nat.add_zero]at m0 q0 z0;replace q0:=(hF.rel.mn _ m0).1.trans q0;replace z0:=(hF.rel.mn _ m0).2.trans z0;replace q1:=(hF.rel.mn _ m1).1.trans q1;replace z1:=(hF.rel.mn _ m1).2.trans z1;replace q2:=(hF.rel.mn _ m2).1.trans q2;replace z2:=(hF.rel.mn _ m2).2.trans z2;go_simp;try(unfold stored;go_simp)
 obtain⟨cs,t,fr,hbk⟩:=vo q0;have hT:=((dO.cell ab (i*3) W5 (.string key)).trans (dO.cell ab (i*3+1) _ (.int .i64 (eP vl key ms)))).trans (dO.cell ab (i*3+2) _ (.string (valueOf (vl (eP vl key ms)) key)));refine⟨DX.mine hbk _ _ _ _ _ _ m0 m1 m2 fun e he=>?_,⟨fun j hj=>.inl (hF.own j hj),(iS.of hF.rel).acy hT hnf uh⟩,?_⟩
 ·have hm:=mem_listed he;have E0:=fun es=>kL (P:=prog) (v:=.string key) q0 z0 rfl es;have p2:((W5.setCell ⟨ab,i*3,none⟩ (.string key)).setCell ⟨ab,i*3+1,none⟩ (.int .i64 (eP vl key ms))).cell? ⟨ab,i*3+2,none⟩=some v2:=by rw[zbb _ _ _ _ (by simp),zbb _ _ _ _ (by simp)];exact q2
  have r2:((W5.setCell ⟨ab,i*3,none⟩ (.string key)).setCell ⟨ab,i*3+1,none⟩ (.int .i64 (eP vl key ms))).frozen? ⟨ab,i*3+2,none⟩=false:=by rw[World.frozen?_setCell,World.frozen?_setCell];exact z2
  have E2:=fun es=>kL (P:=prog) (v:=.string (valueOf (vl (eP vl key ms)) key)) p2 r2 rfl es;simp[go_sem, *]at hm;rcases hm with rfl|rfl|rfl
  ·exact⟨rfl,.inl ⟨_,rfl,.inr (.inl m0)⟩⟩
  ·exact⟨rfl,.inl ⟨_,rfl,.inr (.inl m1)⟩⟩
  ·exact⟨rfl,.inl ⟨_,rfl,.inr (.inl m2)⟩⟩
 ·refine ko (by kernel_rfl) ?_ _;have p1:(W5.setCell ⟨ab,i*3,none⟩ (.string key)).cell? ⟨ab,i*3+1,none⟩=some v1:=by rw[zbb _ _ _ _ (by simp)];exact q1
  have p2:((W5.setCell ⟨ab,i*3,none⟩ (.string key)).setCell ⟨ab,i*3+1,none⟩ (.int .i64 (eP vl key ms))).cell? ⟨ab,i*3+2,none⟩=some v2:=by rw[zbb _ _ _ _ (by simp),zbb _ _ _ _ (by simp)];exact q2
  refine .inl ⟨rfl,_,bR (aF L) (resultsC_none (by rfl) _),⟨acz,(iS.of hF.rel).acy hT hnf uh⟩,rfl,?_,?_,?_⟩
  ·rw[zbb _ _ _ _ (by simp),zbb _ _ _ _ (by simp)];exact zbc _ _ _ q0
  ·rw[zbb _ _ _ _ (by simp)];exact zbc _ _ _ p1
  ·exact zbc _ _ _ p2
end
end Go.Proofs.YteoahlieielcdaaGreat
