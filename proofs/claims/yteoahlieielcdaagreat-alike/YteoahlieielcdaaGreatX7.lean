import Derived.Test.YteoahlieielcdaaGreatX6
import Derived.Test.YteoahlieielcdaaGreatPrT
set_option linter.all false
set_option maxHeartbeats 2000000
set_option maxRecDepth 100000
namespace Go.Proofs.YteoahlieielcdaaGreat
open Go.Proofs.Tryz
open Go Go.Conc Go.RowKit Go.MuLone
abbrev zaz:=@List.getElem?_eq_getElem
abbrev za0:=@World.block_lt_of_cell?
abbrev za1:=@World.cell?_setCell_other
abbrev za2:=@World.cell?_setCell_same
abbrev za3:=@Array.getElem?_setIfInBounds_ne
abbrev za4:=@List.take_of_length_le
variable{en:Array MapEntry}{cl g r pb kb i nf b s0 l dn ab:Nat}{O:au}{w0 w W:World}{a:Addr}{v:Value}{es:Array Event}{P:Program}{f:Lit->Option Value}{vl:Int->List KV}{o:Oper}{x:Operand}{fn' fn:Func}{R:uK}{D:uL}{m:Option Nat}
section
section
variable {P:Program}{t:TypeId}{q:IntKind}
theorem DF(hu:P.underlying t=some (.int q))(k:IntKind)(n:Int)(y:Value)(w:World)(es:Array Event):(Op.equal t (.int k n) y).events P w es=es:=by
 show (Op.equalIn (9999+1) t (.int k n) y).events P w es=es;rw[Op.equalIn];rw[Sem.events_bind,run_underlying hu];simp only[Result.evThen_ok,events_underlying];repeat' split
 all_goals first|rfl|simp_all
theorem Bp(hu:P.underlying t=some (.int q))(k:IntKind)(n:Int)(l:List MapEntry)(i:Nat)(w:World)(es:Array Event):(Instr.findAsking t (.int k n) l i).events P w es=es:=by
 induction l generalizing i w es with
 |nil=>rfl
 |cons e l ih=>
  rw[Instr.findAsking,Sem.events_bind,DF hu k n];cases (Op.equal t (.int k n) e.key).run P w with
  |ok b w'=>cases b<;>simp[ih]
  |halt h w'=>rfl
theorem Jp(hu:P.underlying t=some (.int q))(k:IntKind)(n:Int)(l:List MapEntry)(w:World)(es:Array Event):(Instr.findKey t (.int k n) l).events P w es=es:=by
 rw[Instr.findKey,Sem.events_bind,run_underlying hu];simp only[Result.evThen_ok,events_underlying];split
 ·rfl
 ·exact Bp hu k n _ _ _ _
theorem Gb(hu:P.underlying t=some (.int q))(k:IntKind)(n:Int)(b:Bool)(w:World)(es:Array Event):(Instr.checkKey b 10000 t (.int k n)).events P w es=es:=by show (Instr.checkKey b (9999+1) t (.int k n)).events P w es=es;rw[Instr.checkKey,Sem.events_bind,run_underlying hu];simp only[Result.evThen_ok,events_underlying];rfl
theorem Mz(hu:P.underlying t=some (.int q))(k:IntKind)(n:Int){mt e:TypeId}(ht:P.underlying mt=some (.map t e))(b:Nat)(w:World)(hb:w.heap[b]?=some (.map en cl)):
 ∀ev∈(Instr.lookup mt (.map (some b)) (.int k n) false).events P w #[],ev=⟨.obj b,false,false⟩:=by
 intro ev h;have g1:(getObj b).run P w=.ok (.map en cl) w:=by simp[getObj,Sem.run,hb]
 have g2:(getObj b).events P w #[]=#[⟨.obj b,false,false⟩]:=by simp only[getObj,Sem.events,Sem.runT,hb,Obj.isChan];rfl
 unfold Instr.lookup at h;simp only[Sem.events_bind,run_underlying ht,Result.evThen_ok,events_underlying,g1,g2,Sem.run_pure,Sem.events_pure,Gb hu k n]at h;cases hc:(Instr.checkKey en.isEmpty 10000 t (.int k n)).run P w with
 |halt x w'=>rw[hc]at h;simpa[Result.evThen]using h
 |ok u w1=>
  rw[hc]at h;simp only[Result.evThen_ok,Jp hu k n]at h;cases hf:(Instr.findKey t (.int k n) en.toList).run P w1 with
  |halt x w'=>rw[hf]at h;simpa[Result.evThen,Result.andThen]using h
  |ok r w2=>
   rw[hf]at h;cases r with
   |none=>
    simp only[Result.evThen_ok,Sem.events_bind,events_zeroValue]at h;revert h;cases (zeroValue e).run P w2<;>simp[Result.evThen]
   |some p=>simpa using h
end
end
section
open Go.Maps (Keyed)
variable {main:Bool}{J:Jm}{L:eg}
theorem RX.cell{O:au}{w0 w:World}(h:RX L O w0 w){a:Addr}{v:Value}(hc:w0.cell? a=some v)(hx:L.nR a):w.cell? a=some v:=(h.K3 a hx).trans hc
theorem RX.aV(h:RX L O w0 w)(hc:w0.cell? a=some v)(hx:L.Fx a.block):w.cell? a=some v:=by have hl:a.block<w0.heap.size:=za0 w0 _ hc;have:=h.blk a.block hl (.inr hx);rw[<-hc];unfold World.cell?;rw[this]
theorem bA.cell{O0 O:au}{w0 w:World}(h:bA L O0 w0 O w){a:Addr}{v:Value}(hc:w0.cell? a=some v)(hx:L.nR a):w.cell? a=some v:=h.rel.cell hc hx
theorem bA.aV{O0 O:au}{w0 w:World}(h:bA L O0 w0 O w){a:Addr}{v:Value}(hc:w0.cell? a=some v)(hx:L.Fx a.block):w.cell? a=some v:=h.rel.aV hc hx
theorem cr(h:L.Fx a.block\/L.nR a)(he:∀e∈es,e=⟨.cell a,false,false⟩):∀e∈es,Ec L O e:=by intro e hm;rw[he e hm];exact⟨rfl,.inl ⟨a,rfl,.inr (.inr ⟨h,rfl⟩)⟩⟩
theorem Hp(h:L.Fx g)(he:∀e∈es,∃ad,e=⟨.cell ad,false,false⟩/\ad.block=g):∀e∈es,Ec L O e:=by intro e hm;obtain⟨ad,rfl,hb⟩:=he e hm;exact⟨rfl,.inl ⟨ad,rfl,.inr (.inr ⟨.inl (hb▸h),rfl⟩)⟩⟩
theorem S9(h:L.Fx r)(he:∀e∈es,e=⟨.obj r,false,false⟩):∀e∈es,Ec L O e:=by intro e hm;rw[he e hm];exact⟨rfl,.inr ⟨r,rfl,.inr ⟨h,rfl⟩⟩⟩
theorem Gc(x y:Value)(w:World)(es:Array Event):(Instr.field 214 (.agg #[x,y]) 0).events prog w es=es:=by simp[Instr.field,asAgg,run_underlying underlying214,part]
theorem Ta:∃n,∀(pb kb:Nat) (f:Lit->Option Value) (m:Int) (key:ByteArray) (ad:Option Addr) (Ls:List KV) (cap:Nat) (sv:Value) (O:au) (w:World),L.N<=w.heap.size->
 L.nR ⟨pb,2,none⟩->L.Fx kb->w.cell? ⟨pb,2,none⟩=some (.map (some kb))->aK w prog 3 kb f->-9223372036854775808<=m->m<=9223372036854775807->
 (f (.int .i64 m)).getD (.agg #[.slice none 0 0,.nilIface])=.agg #[.slice ad Ls.length cap,sv]->Ls.length<=8->
 Hid (∀(k:Nat) (x:KV),Ls[k]?=some x->∃g,L.Fx g/\ad=some ⟨g,0,none⟩/\w.cell? ⟨g,k*2,none⟩=some (.string x.1)/\w.cell? ⟨g,k*2+1,none⟩=some (.string x.2))->
 bu prog main J (RX L) (DX L) 115 #[ptr pb,.int .i64 m,.string key] n O w fun O' v w'=>v=.tuple #[.string (valueOf Ls key),.bool (aH Ls key)]/\bA L O w O' w':=by
 co_apply Exists.intro;intro pb kb f m key ad Ls cap sv O w hN x1 x2 c1 hM h1 h2 hf h8 hcell;have hF:bA L O w O w:=bA.refl hN;have hfi:=zc (.slice ad Ls.length cap) sv;obtain⟨fv,aj⟩:∃fv,f (.int .i64 m)=fv:=⟨_,rfl⟩
 rw[aj]at hf;unfold ptr;co_apply bz func115 (by rfl) rfl;walk_nrmf ntmps115;obtain⟨W,hW⟩:∃W,W=w:=⟨_,rfl⟩
 obtain⟨O1,hO⟩:∃O1,O1=O:=⟨_,rfl⟩
 rw[<-hW,<-hO]at hF⊢;(repeat(first|co_apply aQ|((first|co_apply bh|co_apply ju|co_apply cx|co_apply cZ|co_apply jF|co_apply aO);try co_then)));(co_apply (aP);intro _ hR;replace hF:=hF.rely hR;clear hR;refine⟨by simp[go_sem],fun K z=>?_⟩;go_simp;refine z _ ?_;clear z K;try walk_nrm);(co_apply (aP);intro _ hR;replace hF:=hF.rely hR;clear hR;refine⟨by simp[go_sem],fun K z=>?_⟩;go_simp;refine z _ ?_;clear z K;try walk_nrm);(repeat(first|co_apply aQ|((first|co_apply bh|co_apply ju|co_apply cx|co_apply cZ|co_apply jF|co_apply aO);try co_then)));(co_apply (aP);intro _ hR;replace hF:=hF.rely hR;clear hR;refine⟨by simp[go_sem],fun K z=>?_⟩;go_simp;refine z _ ?_;clear z K;try walk_nrm);(co_apply (aP);intro _ hR;replace hF:=hF.rely hR;clear hR;refine⟨by simp[go_sem],fun K z=>?_⟩;go_simp;refine z _ ?_;clear z K;try walk_nrm);(co_apply (aP);intro _ hR;replace hF:=hF.rely hR;clear hR;refine⟨by simp[go_sem],fun K z=>?_⟩;go_simp;refine z _ ?_;clear z K;try walk_nrm);(co_apply aC rfl (by rfl);intro _ hR K hK;replace hF:=bA.rely hF hR;clear hR;(have hc:=hF.cell (hW▸c1) x1);go_simp;refine hK _ ⟨?_,?_⟩;(focus(refine DX.still _ _ (cr (.inr x1) fun e he=>?_);have hm:=mem_listed he;simp[go_sem,hc]at hm;exact hm));clear hK K;try walk_nrm);clear hc;(co_apply (aP);intro _ hR;replace hF:=hF.rely hR;clear hR;refine⟨by simp[go_sem],fun K z=>?_⟩;go_simp;refine z _ ?_;clear z K;try walk_nrm);co_apply aC rfl (by rfl);intro W2 hR K hK;replace hF:=bA.rely hF hR;clear hR;have xd:aK W2 prog 3 kb f:=hM.of_eq (by have:=hF.rel.blk kb (by rw[hW];exact hM.lt) (.inr x2);rw[this,hW]);have hlk:=xd.look eD underlying199 (mV W2) (keyOf_int h1 h2);rw[aj,hf]at hlk;go_simp;refine hK _ ⟨?_,?_⟩
 ·obtain⟨nn,DD,⟨en,cl,hb,_⟩,_⟩:=xd;refine DX.still _ _ (S9 x2 fun e he=>?_);have hm:=mem_listed he;have key:=Mz (P:=prog) underlying3 .i64 m underlying199 kb W2 hb e;simp[go_sem]at hm;exact key hm
 clear hK K hlk xd;try walk_nrm
 (co_apply aC rfl (by rfl);intro _ hR K hK;replace hF:=bA.rely hF hR;clear hR;(skip);go_simp;refine hK _ ⟨?_,?_⟩;(focus(rw[listed_nil (by simp[go_sem,Gc])];exact DX.idle _ _));clear hK K;try walk_nrm);(co_apply (aP);intro _ hR;replace hF:=hF.rely hR;clear hR;refine⟨by simp[*,go_sem],fun K z=>?_⟩;go_simp;refine z _ ?_;clear z K;try walk_nrm);(co_apply (aP);intro _ hR;replace hF:=hF.rely hR;clear hR;refine⟨by simp[go_sem],fun K z=>?_⟩;go_simp;refine z _ ?_;clear z K;try walk_nrm);(repeat(first|co_apply aQ|((first|co_apply bh|co_apply ju|co_apply cx|co_apply cZ|co_apply jF|co_apply aO);try co_then)));co_apply mL (ah L) (N:=8) (fun j O a w=>∃(k:Nat) (s9 s19 s20 s21 s22 s23 s24 s25 s26 s27 s28:Value),k<=Ls.length/\j=8-k/\a=⟨#[.pointer (some ⟨pb,0,none⟩),.int .i64 m,.string key,undef,undef,undef,.string ⟨#[]⟩,.bool false,undef,s9,.pointer (some ⟨pb,0,none⟩),.pointer (some ⟨pb,0,none⟩),.pointer (some ⟨pb,2,none⟩),.map (some kb),.int .i64 m,.agg #[.slice ad Ls.length cap,sv],.slice ad Ls.length cap,.int .i64 Ls.length,.int .i64 k,s19,s20,s21,s22,s23,s24,s25,s26,s27,s28], []⟩/\bA L O1 W O w/\Hid (∀j y,j<k->Ls[j]?=some y->y.1≠key)) _
 ·exact⟨0,_,_,_,_,_,_,_,_,_,_,_,Nat.zero_le _,rfl,rfl,hF,fun j y hj=>by omega⟩
 clear hF;rintro j O2 act W3 ⟨k,s9,s19,s20,s21,s22,s23,s24,s25,s26,s27,s28,hk,rfl,rfl,hF,HO⟩;(repeat(first|co_apply aQ|((first|co_apply bh|co_apply ju|co_apply cx|co_apply cZ|co_apply jF|co_apply aO);try co_then)));(co_apply (aP);intro _ hR;replace hF:=hF.rely hR;clear hR;refine⟨by simp[go_sem],fun K z=>?_⟩;go_simp;refine z _ ?_;clear z K;try walk_nrm);(repeat(first|co_apply aQ|((first|co_apply bh|co_apply ju|co_apply cx|co_apply cZ|co_apply jF|co_apply aO);try co_then)));(co_apply aN (ah L) (t:=(decide ((k:Int)< (Ls.length:Int))));focus(simp[Act.eval]))
 ·intro ht;have hlt:k<Ls.length:=by simpa using ht
  have hx:Ls[k]?=some Ls[k]:=zaz hlt;obtain⟨g,hg,rfl,ck,cv⟩:=hcell.out k _ hx;have H1:Hid (aH Ls key=true->valueOf Ls key=Ls[k].2->True):=fun _ _=>trivial;generalize Ls[k]=x at hx ck cv H1;obtain⟨kk,vv⟩:=x;simp only at ck cv;have rlv:∀{O:au} {Wa Wb:World},(bA L O1 W O Wa/\Wa.cell? ⟨g,k*2,none⟩=some (.string kk)/\Wa.cell? ⟨g,k*2+1,none⟩=some (.string vv))->RX L O Wa Wb->(bA L O1 W O Wb/\Wb.cell? ⟨g,k*2,none⟩=some (.string kk)/\Wb.cell? ⟨g,k*2+1,none⟩=some (.string vv)):=
   fun h x=>⟨h.1.rely x,(h.1.rely x).aV (hW▸ck) hg,(h.1.rely x).aV (hW▸cv) hg⟩
  have hG:=And.intro hF (And.intro (hF.aV (hW▸ck) hg) (hF.aV (hW▸cv) hg));clear hF H1;(repeat(first|co_apply aQ|((first|co_apply bh|co_apply ju|co_apply cx|co_apply cZ|co_apply jF|co_apply aO);try co_then)));(co_apply (aP);intro _ hR;replace hG:=rlv hG hR;clear hR;refine⟨by simp[*,go_sem],fun K z=>?_⟩;go_simp;refine z _ ?_;clear z K;try walk_nrm);co_apply aC rfl (by rfl);intro W4 hR K hK;replace hG:=rlv hG hR;clear hR;have q1:=hG.2.1;have q2:=hG.2.2;go_simp;refine hK _ ⟨?_,?_⟩
  ·refine DX.still _ _ (Hp hg fun e he=>?_);have hm:=mem_listed he;simp[go_sem, *]at hm;rcases hm with rfl|rfl<;>exact⟨_,rfl,rfl⟩
  clear hK K q1 q2;try walk_nrm
  co_apply bB rfl (by rfl);intro W5 hR K hK;replace hG:=rlv hG hR;clear hR;go_simp;refine hK _ _ ⟨?_,?_⟩
  ·rw[listed_nil (by simp[go_sem])];exact DX.alloc _ _ _
  clear hK K;try walk_nrm
  have hr:W.heap.size<=W5.heap.size:=hG.1.rel.le;have hH:bA L O1 W (O2.grow W5 (W5.alloc (.cells #[.string ⟨#[]⟩,.string ⟨#[]⟩] 70))) (W5.alloc (.cells #[.string ⟨#[]⟩,.string ⟨#[]⟩] 70))/\OB W5.heap.size (.cells #[.string ⟨#[]⟩,.string ⟨#[]⟩] 70) (O2.grow W5 (W5.alloc (.cells #[.string ⟨#[]⟩,.string ⟨#[]⟩] 70))) (W5.alloc (.cells #[.string ⟨#[]⟩,.string ⟨#[]⟩] 70)):=⟨hG.1.alloc _,OB.new _ _ _⟩
  clear hG rlv;generalize (O2.grow W5 (W5.alloc (.cells #[.string ⟨#[]⟩,.string ⟨#[]⟩] 70)))=O3 at hH⊢;generalize (W5.alloc (.cells #[.string ⟨#[]⟩,.string ⟨#[]⟩] 70))=W6 at hH⊢;generalize W5.heap.size=r at hH hr⊢;have rl:∀{o:Obj} {Wa Wb:World},(bA L O1 W O3 Wa/\OB r o O3 Wa)->RX L O3 Wa Wb->(bA L O1 W O3 Wb/\OB r o O3 Wb):=fun h x=>⟨h.1.rely x,h.2.rely x⟩
  co_apply bB rfl (by rfl);intro W7 hR K hK;replace hH:=rl hH hR;clear hR;have hA:aT W7 r #[.string ⟨#[]⟩,.string ⟨#[]⟩] 70:=hH.2.heap;have t0:=hA.cell (o:=0) (v:=.string ⟨#[]⟩) rfl;have t1:=hA.cell (o:=1) (v:=.string ⟨#[]⟩) rfl;have g0:=hA.frozen 0;have g1:=hA.frozen 1;go_simp;try(unfold stored;go_simp)
  refine hK _ _ ⟨?_,?_⟩
  ·refine DX.own hH.2.own ((dO.cell r 0 W7 _).trans (dO.cell r 1 _ _)) (cK (b:=true) hH.2.own fun e he=>?_);have hm:=mem_listed he;have E0:=fun es=>lp (P:=prog) (v:=.string kk) t0 g0 rfl es;have hA2:=hA.set 0 (.string kk);have E2:=fun es=>lp (P:=prog) (v:=.string vv) (hA2.cell (o:=1) (v:=.string ⟨#[]⟩) rfl) (hA2.frozen 1) rfl es;simp[go_sem, *]at hm;rcases hm with rfl|rfl<;>exact⟨_,rfl,rfl⟩
  clear hK K;have Hq:aT ((W7.setCell ⟨r,0,none⟩ (.string kk)).setCell ⟨r,1,none⟩ (.string vv)) r #[.string kk,.string vv] 70:=by simpa using(hA.set 0 (.string kk)).set 1 (.string vv)
  have hT:=(dO.cell r 0 W7 (.string kk)).trans (dO.cell r 1 _ (.string vv));have hE:bA L O1 W O3 ((W7.setCell ⟨r,0,none⟩ (.string kk)).setCell ⟨r,1,none⟩ (.string vv))/\OB r (.cells #[.string kk,.string vv] 70) O3 ((W7.setCell ⟨r,0,none⟩ (.string kk)).setCell ⟨r,1,none⟩ (.string vv)):=⟨hT.xC hH.1 hr,hH.2.own,Hq⟩
  rw[O3.dh hT.size];clear hH hA Hq t0 t1 g0 g1 hT;generalize ((W7.setCell ⟨r,0,none⟩ (.string kk)).setCell ⟨r,1,none⟩ (.string vv))=W8 at hE⊢;try walk_nrm
  (repeat(first|co_apply aQ|((first|co_apply bh|co_apply ju|co_apply cx|co_apply cZ|co_apply jF|co_apply aO);try co_then)));(co_apply (aP);intro _ hR;replace hE:=rl hE hR;clear hR;refine⟨by simp[go_sem],fun K z=>?_⟩;go_simp;refine z _ ?_;clear z K;try walk_nrm);(co_apply aC rfl (by rfl);intro _ hR K hK;replace hE:=rl hE hR;clear hR;(have hB:aT _ r #[.string kk,.string vv] 70:=hE.2.heap;have hc:=hB.cell (o:=0) (v:=.string kk) rfl);go_simp;refine hK _ ⟨?_,?_⟩;(focus(refine DX.still _ _ (cK (b:=false) hE.2.own fun e he=>?_);have hm:=mem_listed he;simp[go_sem,hc]at hm;exact⟨_,hm,rfl⟩));clear hK K;try walk_nrm);clear hc hB;(co_apply (aP);intro _ hR;replace hE:=rl hE hR;clear hR;refine⟨by simp[go_sem],fun K z=>?_⟩;go_simp;refine z _ ?_;clear z K;try walk_nrm);(co_apply (aP);intro _ hR;replace hE:=rl hE hR;clear hR;refine⟨by simp[go_sem],fun K z=>?_⟩;go_simp;refine z _ ?_;clear z K;try walk_nrm);(repeat(first|co_apply aQ|((first|co_apply bh|co_apply ju|co_apply cx|co_apply cZ|co_apply jF|co_apply aO);try co_then)));(co_apply aN (ah L) (t:=(kk.toList == key.toList));focus(simp[Act.eval]))
  ·intro he;have he':kk=key:=Classical.byContradiction fun h=>by rw[sX h]at he;cases he
   have Hr:Hid (valueOf Ls key=vv/\aH Ls key=true):=BW hx he' HO.out;(repeat(first|co_apply aQ|((first|co_apply bh|co_apply ju|co_apply cx|co_apply cZ|co_apply jF|co_apply aO);try co_then)));(co_apply (aP);intro _ hR;replace hE:=rl hE hR;clear hR;refine⟨by simp[go_sem],fun K z=>?_⟩;go_simp;refine z _ ?_;clear z K;try walk_nrm);(co_apply aC rfl (by rfl);intro _ hR K hK;replace hE:=rl hE hR;clear hR;(have hB:aT _ r #[.string kk,.string vv] 70:=hE.2.heap;have hc:=hB.cell (o:=1) (v:=.string vv) rfl);go_simp;refine hK _ ⟨?_,?_⟩;(focus(refine DX.still _ _ (cK (b:=false) hE.2.own fun e he=>?_);have hm:=mem_listed he;simp[go_sem,hc]at hm;exact⟨_,hm,rfl⟩));clear hK K;try walk_nrm);clear hc hB;(repeat(first|co_apply aQ|(co_apply (aP);intro _ hR;replace hE:=rl hE hR;clear hR;refine⟨by simp[*,go_sem],fun K z=>?_⟩;go_simp;refine z _ ?_;clear z K;try walk_nrm)|((first|co_apply bh|co_apply ju|co_apply cx|co_apply cZ|co_apply jF|co_apply aO);try co_then)));exact .inl ⟨rfl,_,bP (ah L) (resultsC_tmp2 (by rfl) _),by rw[Hr.out.1,Hr.out.2];rfl,hE.1⟩
  ·intro he;have he':¬kk=key:=fun h=>by rw[sY h]at he;cases he
   have Ry:Hid (∀j y,j<k+1->Ls[j]?=some y->y.1≠key):=by
    intro j y hj hy;by_cases e:j=k
    ·subst e;rw[hx]at hy;cases hy;exact he'
    ·exact HO.out j y (by omega) hy
   have yc:IntKind.i64.wrap ((k:Int)+1)=((k+1:Nat):Int):=by rw[IntKind.wrap_i64];omega
   (repeat(first|co_apply aQ|(co_apply (aP);intro _ hR;replace hE:=rl hE hR;clear hR;refine⟨by simp[*,go_sem],fun K z=>?_⟩;go_simp;refine z _ ?_;clear z K;try walk_nrm)|((first|co_apply bh|co_apply ju|co_apply cx|co_apply cZ|co_apply jF|co_apply aO);try co_then)));try simp only[yc]
   exact⟨8-(k+1),by omega,k+1,_,_,_,_,_,_,_,_,_,_,_,by omega,rfl,rfl,hE.1,Ry⟩
 ·intro ht;have hge:¬k<Ls.length:=by simpa using ht
  have Hr:Hid (valueOf Ls key=ByteArray.empty/\aH Ls key=false):=BX (fun j x hj=>HO.out j x (by omega));(repeat(first|co_apply aQ|(co_apply (aP);intro _ hR;replace hF:=hF.rely hR;clear hR;refine⟨by simp[*,go_sem],fun K z=>?_⟩;go_simp;refine z _ ?_;clear z K;try walk_nrm)|((first|co_apply bh|co_apply ju|co_apply cx|co_apply cZ|co_apply jF|co_apply aO);try co_then)));exact .inl ⟨rfl,_,bP (ah L) (resultsC_tmp2 (by rfl) _),by rw[Hr.out.1,Hr.out.2];rfl,hF⟩
end
section
variable {main:Bool}{J:Jm}{L:eg}
theorem DX.KZ(O:au)(w:World)(o:Obj):DX L O w (w.drew.alloc o) #[]:=by have h:=DX.alloc (L:=L) O w.drew o;exact⟨h.tape,h.os,h.out,h.le,h.blk,h.ev⟩
theorem rS(w:World)(src dst e:TypeId)(s:ByteArray)(hs:P.underlying src=some .string)(hd:P.underlying dst=some (.slice e))(he:P.underlying e=some (.int .u8))(es:Array Event):(convert src dst (.string s)).events P w es=es:=by
 simp only[convert,Sem.events_bind,run_underlying hs,run_underlying hd,run_underlying he,Result.evThen_ok,Conv.stringToBytes];have hsh:∀(C:Array Value),(w.alloc (.cells C e)).shape? w.heap.size=some (e,C.size):=fun C=>by unfold World.shape?;rw[NF]
 simp[newRow,markStringish,go_sem,hsh]
@[go_sem] theorem Yw (x:Int) (w:World) (es:Array Event):(convert 5 151 (.int .u8 x)).events prog w es=es:=by simp[convert,run_underlying underlying5,run_underlying underlying151,Conv.intToInt]
theorem Rv:∃n,∀(s:ByteArray) (O:au) (w:World),s.size<=1000->L.N<=w.heap.size->
 bu prog main J (RX L) (DX L) 150 #[.string s] n O w fun O' v w'=>v=.int .u64 (IntKind.u64.wrap (2 ^(lg s.data.toList % 64).toNat))/\bA L O w O' w':=by
 co_apply Exists.intro;intro s O w hs hN;have hF:bA L O w O w:=bA.refl hN;have hcv:=fun W=>run_bytes_of_string (P:=prog) W 9 116 5 s underlying9 underlying116 underlying5;have hce:=fun W es=>rS (P:=prog) W 9 116 5 s underlying9 underlying116 underlying5 es;co_apply bz func150 (by rfl) rfl;walk_nrmf ntmps150;generalize hW:w=W at hF⊢;generalize hO:O=O1 at hF⊢;(repeat(first|co_apply aQ|(co_apply (aP);intro _ hR;replace hF:=hF.rely hR;clear hR;refine⟨by simp[*,go_sem],fun K z=>?_⟩;go_simp;refine z _ ?_;clear z K;try walk_nrm)|((first|co_apply bh|co_apply ju|co_apply cx|co_apply cZ|co_apply jF|co_apply aO);try co_then)));co_apply bB rfl (by rfl);intro W1 hR K hK;replace hF:=bA.rely hF hR;clear hR;have U7:=hcv W1;generalize grownCap W1 s.size 0 _=cap at U7;generalize hM:bytesRow s cap=M at U7;clear hcv;go_simp;refine hK _ _ ⟨?_,?_⟩
 ·rw[listed_nil (by simp[go_sem,hce])];exact DX.KZ _ _ _
 clear hK K U7;try walk_nrm
 have hr:W.heap.size<=W1.heap.size:=hF.rel.le;have hG:bA L O1 W (O1.grow W1 (W1.alloc (.cells M 5 (M.size,M.size+1))).drew) (W1.alloc (.cells M 5 (M.size,M.size+1))).drew/\OB W1.heap.size (.cells M 5 (M.size,M.size+1)) (O1.grow W1 (W1.alloc (.cells M 5 (M.size,M.size+1))).drew) (W1.alloc (.cells M 5 (M.size,M.size+1))).drew:=⟨(hF.alloc _).rely (RX.draw _ _),(OB.new _ _ _).rely (RX.draw (L:=L) _ _)⟩
 clear hF;generalize (O1.grow W1 (W1.alloc (.cells M 5 (M.size,M.size+1))).drew)=O2 at hG⊢;generalize (W1.alloc (.cells M 5 (M.size,M.size+1))).drew=W2 at hG⊢;generalize W1.heap.size=r at hG hr⊢;have hMc:Hid (∀(k:Nat) (hk:k<s.size),M[k]?=some (.int .u8 (s[k].toNat:Int))):=fun k hk=>by rw[<-hM];exact bytesRow_at s cap k hk
 have rl:∀{o:Obj} {Wa Wb:World},(bA L O1 W O2 Wa/\OB r o O2 Wa)->RX L O2 Wa Wb->(bA L O1 W O2 Wb/\OB r o O2 Wb):=fun h x=>⟨h.1.rely x,h.2.rely x⟩
 clear hM hce;(repeat(first|co_apply aQ|(co_apply (aP);intro _ hR;replace hG:=rl hG hR;clear hR;refine⟨by simp[*,go_sem],fun K z=>?_⟩;go_simp;refine z _ ?_;clear z K;try walk_nrm)|((first|co_apply bh|co_apply ju|co_apply cx|co_apply cZ|co_apply jF|co_apply aO);try co_then)));co_apply mL (ah L) (N:=1000) (fun j O a w=>∃(k:Nat) (s5 Q4 Q5 Rw Yx Yy Yz YA YB YC:Value),k<=s.size/\j=1000-k/\a=⟨#[.string s,undef,.int .u64 0,.int .u64 (lg (s.data.toList.take k)),undef,s5,.string s,.slice (some ⟨r,0,none⟩) s.size cap,.int .i64 s.size,.int .i64 k,Q4,Q5,Rw,Yx,Yy,Yz,YA,YB,YC,undef,undef,undef], []⟩/\O=O2/\(bA L O1 W O2 w/\OB r (.cells M 5 (M.size,M.size+1)) O2 w)) _
 ·exact⟨0,_,_,_,_,_,_,_,_,_,_,Nat.zero_le _,rfl,rfl,rfl,hG⟩
 clear hG;rintro j O3 act W3 ⟨k,s5,Q4,Q5,Rw,Yx,Yy,Yz,YA,YB,YC,hk,rfl,rfl,rfl,hG⟩;(repeat(first|co_apply aQ|((first|co_apply bh|co_apply ju|co_apply cx|co_apply cZ|co_apply jF|co_apply aO);try co_then)));(co_apply (aP);intro _ hR;replace hG:=rl hG hR;clear hR;refine⟨by simp[go_sem],fun K z=>?_⟩;go_simp;refine z _ ?_;clear z K;try walk_nrm);(repeat(first|co_apply aQ|((first|co_apply bh|co_apply ju|co_apply cx|co_apply cZ|co_apply jF|co_apply aO);try co_then)));(co_apply aN (ah L) (t:=(decide ((k:Int)< (s.size:Int))));focus(simp[Act.eval]))
 ·intro ht;have hlt:k<s.size:=by simpa using ht
  have hx:=hMc.out k hlt;have hn:Hid (lg (s.data.toList.take (k+1))=IntKind.u64.wrap (IntKind.u64.wrap (lg (s.data.toList.take k)*31)+(s[k].toNat:Int))):=by rw[Bz s k hlt];exact x8 _ _
  have hb:=s[k].toNat_lt;obtain⟨h,hh,hh1⟩:=ya (s.data.toList.take k);rw[hh]at hn⊢;clear hh;generalize s[k]=c at hx hb hn;have K0:∀{Wa:World},OB r (.cells M 5 (M.size,M.size+1)) O3 Wa->Wa.cell? ⟨r,k,none⟩=some (.int .u8 (c.toNat:Int)):=fun x=>by simp only[World.cell?,x.heap];simpa using hx
  (repeat(first|co_apply aQ|((first|co_apply bh|co_apply ju|co_apply cx|co_apply cZ|co_apply jF|co_apply aO);try co_then)));(co_apply (aP);intro _ hR;replace hG:=rl hG hR;clear hR;refine⟨by simp[*,go_sem],fun K z=>?_⟩;go_simp;refine z _ ?_;clear z K;try walk_nrm);(co_apply aC rfl (by rfl);intro _ hR K hK;replace hG:=rl hG hR;clear hR;(have hc:=K0 hG.2);go_simp;refine hK _ ⟨?_,?_⟩;(focus(refine DX.still _ _ (cK (b:=false) hG.2.own fun e he=>?_);have hm:=mem_listed he;simp[go_sem,hc]at hm;subst hm;exact⟨_,rfl,rfl⟩));clear hK K;try walk_nrm);clear hc;(repeat(first|co_apply aQ|(co_apply (aP);intro _ hR;replace hG:=rl hG hR;clear hR;refine⟨by simp[*,go_sem],fun K z=>?_⟩;go_simp;refine z _ ?_;clear z K;try walk_nrm)|((first|co_apply bh|co_apply ju|co_apply cx|co_apply cZ|co_apply jF|co_apply aO);try co_then)));have hwk:IntKind.i64.wrap ((k:Int)+1)=((k+1:Nat):Int):=IntWalk.i64_in _ (by omega);have Xq:IntKind.u64.wrap (c.toNat:Int)=(c.toNat:Int):=by rw[IntKind.wrap_u64];omega
  rw[hwk,Xq,<-hn.out];exact⟨1000-(k+1),by omega,k+1,_,_,_,_,_,_,_,_,_,_,by omega,rfl,rfl,by trivial,hG⟩
 ·intro ht;have hlt:¬k<s.size:=by simpa using ht
  obtain rfl:k=s.size:=by omega
  have he:s.data.toList.take s.size=s.data.toList:=za4 (by rw[Lib.size_eq];exact Nat.le_refl _);rw[he];clear he;obtain⟨h,hh,hh1⟩:=ya s.data.toList;rw[hh];clear hh ht hlt;have h64:(h:Int).tmod 64=((h:Int)% 64):=Int.tmod_eq_emod_of_nonneg (by omega);have Rx:Op.shift .shl .u64 1 .u64 ((h:Int)% 64)=pure (.int .u64 (IntKind.u64.wrap (2 ^((h:Int)% 64).toNat))):=by rw[shift_shl .u64 .u64 1 _ (by omega) (by have:IntKind.u64.bits=64:=rfl;rw[this];omega),Int.one_mul]
  generalize IntKind.u64.wrap (2 ^((h:Int)% 64).toNat)=B at Rx⊢;generalize (h:Int)% 64=y at h64 Rx;(repeat(first|co_apply aQ|((first|co_apply bh|co_apply ju|co_apply cx|co_apply cZ|co_apply jF|co_apply aO);try co_then)));(co_apply (aP);intro _ hR;replace hG:=rl hG hR;clear hR;refine⟨by simp[go_sem],fun K z=>?_⟩;go_simp;refine z _ ?_;clear z K;try walk_nrm);(co_apply (aP);intro _ hR;replace hG:=rl hG hR;clear hR;refine⟨by simp[go_sem],fun K z=>?_⟩;go_simp;refine z _ ?_;clear z K;try walk_nrm);(co_apply (aP);intro _ hR;replace hG:=rl hG hR;clear hR;refine⟨by simp[*,go_sem],fun K z=>?_⟩;go_simp;refine z _ ?_;clear z K;try walk_nrm);(co_apply (aP);intro _ hR;replace hG:=rl hG hR;clear hR;refine⟨by simp[go_sem],fun K z=>?_⟩;go_simp;refine z _ ?_;clear z K;try walk_nrm);(repeat(first|co_apply aQ|((first|co_apply bh|co_apply ju|co_apply cx|co_apply cZ|co_apply jF|co_apply aO);try co_then)));exact .inl ⟨rfl,_,bP (ah L) (resultsC_tmp (by rfl) _),rfl,by subst hW;subst hO;exact hG.1⟩
theorem NG:∃n,∀(key:ByteArray) (a:Option Addr) (Ls:List ByteArray) (cap:Nat) (O:au) (w:World),Ls.length<=8->Hid (∀(k:Nat) (x:ByteArray),Ls[k]?=some x->∃g,L.Fx g/\a=some ⟨g,0,none⟩/\w.cell? ⟨g,k,none⟩=some (.string x))->L.N<=w.heap.size->
 bu prog main J (RX L) (DX L) 171 #[.slice a Ls.length cap,.string key] n O w fun O' v w'=>(∃i:Int,v=.int .i64 i/\dX Ls key=decide (0<=i))/\bA L O w O' w':=by
 co_apply Exists.intro;intro key a Ls cap O w h8 hcell hN;have hF:bA L O w O w:=bA.refl hN;co_apply bz func171 (by rfl) rfl;walk_nrmf ntmps171;obtain⟨W,hW⟩:∃W,W=w:=⟨_,rfl⟩
 obtain⟨O1,hO⟩:∃O1,O1=O:=⟨_,rfl⟩
 rw[<-hW,<-hO]at hF⊢;rw[<-hW]at hcell;clear hW hO;(repeat(first|co_apply aQ|(co_apply (aP);intro _ hR;replace hF:=hF.rely hR;clear hR;refine⟨by simp[*,go_sem],fun K z=>?_⟩;go_simp;refine z _ ?_;clear z K;try walk_nrm)|((first|co_apply bh|co_apply ju|co_apply cx|co_apply cZ|co_apply jF|co_apply aO);try co_then)));co_apply mL (ah L) (N:=8) (fun j O a' w=>∃(k:Nat) (s5 s9 Q4 Q5 Rw Yx Yy Yz YA YB YC:Value),k<=Ls.length/\j=8-k/\a'=⟨#[.slice a Ls.length cap,.string key,undef,undef,.int .i64 0,s5,.slice a Ls.length cap,.int .i64 Ls.length,.int .i64 k,s9,Q4,Q5,Rw,Yx,Yy,Yz,YA,YB,YC], []⟩/\bA L O1 W O w/\Hid (∀j y,j<k->Ls[j]?=some y->y≠key)) _
 ·exact⟨0,_,_,_,_,_,_,_,_,_,_,_,Nat.zero_le _,rfl,rfl,hF,fun j y hj=>by omega⟩
 clear hF;rintro j O2 act W3 ⟨k,s5,s9,Q4,Q5,Rw,Yx,Yy,Yz,YA,YB,YC,hk,rfl,rfl,hF,HO⟩;(repeat(first|co_apply aQ|((first|co_apply bh|co_apply ju|co_apply cx|co_apply cZ|co_apply jF|co_apply aO);try co_then)));(co_apply (aP);intro _ hR;replace hF:=hF.rely hR;clear hR;refine⟨by simp[go_sem],fun K z=>?_⟩;go_simp;refine z _ ?_;clear z K;try walk_nrm);(repeat(first|co_apply aQ|((first|co_apply bh|co_apply ju|co_apply cx|co_apply cZ|co_apply jF|co_apply aO);try co_then)));(co_apply aN (ah L) (t:=(decide ((k:Int)< (Ls.length:Int))));focus(simp[Act.eval]))
 ·intro ht;have hlt:k<Ls.length:=by simpa using ht
  have hx:Ls[k]?=some Ls[k]:=zaz hlt;obtain⟨g,hg,rfl,ck⟩:=hcell.out k _ hx;generalize Ls[k]=kk at hx ck;have yc:IntKind.i64.wrap ((k:Int)+1)=((k+1:Nat):Int):=IntWalk.i64_in _ (by omega);(repeat(first|co_apply aQ|((first|co_apply bh|co_apply ju|co_apply cx|co_apply cZ|co_apply jF|co_apply aO);try co_then)));(co_apply (aP);intro _ hR;replace hF:=hF.rely hR;clear hR;refine⟨by simp[go_sem],fun K z=>?_⟩;go_simp;refine z _ ?_;clear z K;try walk_nrm);(co_apply (aP);intro _ hR;replace hF:=hF.rely hR;clear hR;refine⟨by simp[go_sem],fun K z=>?_⟩;go_simp;refine z _ ?_;clear z K;try walk_nrm);(repeat(first|co_apply aQ|((first|co_apply bh|co_apply ju|co_apply cx|co_apply cZ|co_apply jF|co_apply aO);try co_then)));(co_apply (aP);intro _ hR;replace hF:=hF.rely hR;clear hR;refine⟨by simp[go_sem],fun K z=>?_⟩;go_simp;refine z _ ?_;clear z K;try walk_nrm);(co_apply (aP);intro _ hR;replace hF:=hF.rely hR;clear hR;refine⟨by simp[go_sem],fun K z=>?_⟩;go_simp;refine z _ ?_;clear z K;try walk_nrm);(co_apply (aP);intro _ hR;replace hF:=hF.rely hR;clear hR;refine⟨by simp[go_sem],fun K z=>?_⟩;go_simp;refine z _ ?_;clear z K;try walk_nrm);(co_apply (aP);intro _ hR;replace hF:=hF.rely hR;clear hR;refine⟨by simp[*,go_sem],fun K z=>?_⟩;go_simp;refine z _ ?_;clear z K;try walk_nrm);(co_apply aC rfl (by rfl);intro _ hR K hK;replace hF:=bA.rely hF hR;clear hR;(have hc:=hF.aV ck hg);go_simp;refine hK _ ⟨?_,?_⟩;(focus(refine DX.still _ _ (cr (a:=⟨g,k,none⟩) (.inl hg) fun e he=>?_);have hm:=mem_listed he;simp[go_sem,hc]at hm;exact hm));clear hK K;try walk_nrm);clear hc;(co_apply (aP);intro _ hR;replace hF:=hF.rely hR;clear hR;refine⟨by simp[go_sem],fun K z=>?_⟩;go_simp;refine z _ ?_;clear z K;try walk_nrm);(repeat(first|co_apply aQ|((first|co_apply bh|co_apply ju|co_apply cx|co_apply cZ|co_apply jF|co_apply aO);try co_then)));(co_apply aN (ah L) (t:=(key.toList == kk.toList));focus(simp[Act.eval]))
  ·intro he;have he':key=kk:=Classical.byContradiction fun h=>by rw[sX h]at he;cases he
   have Hr:Hid (dX Ls key=true):=by have:=yd hlt hx he'.symm;rwa [List.take_length]at this
   (repeat(first|co_apply aQ|(co_apply (aP);intro _ hR;replace hF:=hF.rely hR;clear hR;refine⟨by simp[*,go_sem],fun K z=>?_⟩;go_simp;refine z _ ?_;clear z K;try walk_nrm)|((first|co_apply bh|co_apply ju|co_apply cx|co_apply cZ|co_apply jF|co_apply aO);try co_then)));exact .inl ⟨rfl,_,bP (ah L) (resultsC_tmp (by rfl) _),⟨k,rfl,by rw[Hr.out];simp⟩,hF⟩
  ·intro he;have he':¬key=kk:=fun h=>by rw[sY h]at he;cases he
   have Ry:Hid (∀j y,j<k+1->Ls[j]?=some y->y≠key):=by
    intro j y hj hy;by_cases e:j=k
    ·subst e;rw[hx]at hy;cases hy;exact fun e=>he' e.symm
    ·exact HO.out j y (by omega) hy
   clear he';(repeat(first|co_apply aQ|(co_apply (aP);intro _ hR;replace hF:=hF.rely hR;clear hR;refine⟨by simp[*,go_sem],fun K z=>?_⟩;go_simp;refine z _ ?_;clear z K;try walk_nrm)|((first|co_apply bh|co_apply ju|co_apply cx|co_apply cZ|co_apply jF|co_apply aO);try co_then)));try simp only[yc]
   exact⟨8-(k+1),by omega,k+1,_,_,_,_,_,_,_,_,_,_,_,by omega,rfl,rfl,hF,Ry⟩
 ·intro ht;have hge:¬k<Ls.length:=by simpa using ht
  have Hr:Hid (dX Ls key=false):=by have:=yf (L:=Ls) (k:=Ls.length) (key:=key) (fun j y hj=>HO.out j y (by omega));rwa [List.take_length]at this
  (repeat(first|co_apply aQ|(co_apply (aP);intro _ hR;replace hF:=hF.rely hR;clear hR;refine⟨by simp[*,go_sem],fun K z=>?_⟩;go_simp;refine z _ ?_;clear z K;try walk_nrm)|((first|co_apply bh|co_apply ju|co_apply cx|co_apply cZ|co_apply jF|co_apply aO);try co_then)));exact .inl ⟨rfl,_,bP (ah L) (resultsC_tmp (by rfl) _),⟨-1,rfl,by rw[Hr.out];simp⟩,hF⟩
theorem Eu:∃n,∀(key:ByteArray) (a:Option Addr) (Ls:List ByteArray) (cap:Nat) (O:au) (w:World),Ls.length<=8->Hid (∀(k:Nat) (x:ByteArray),Ls[k]?=some x->∃g,L.Fx g/\a=some ⟨g,0,none⟩/\w.cell? ⟨g,k,none⟩=some (.string x))->L.N<=w.heap.size->
 bu prog main J (RX L) (DX L) 170 #[.slice a Ls.length cap,.string key] n O w fun O' v w'=>v=.bool (dX Ls key)/\bA L O w O' w':=by
 obtain⟨ni,hi⟩:=NG (main:=main) (J:=J) (L:=L);co_apply Exists.intro;intro key a Ls cap O w h8 hcell hN;have hF:bA L O w O w:=bA.refl hN;co_apply bz func170 (by rfl) rfl;walk_nrmf ntmps170;obtain⟨W,hW⟩:∃W,W=w:=⟨_,rfl⟩
 obtain⟨O1,hO⟩:∃O1,O1=O:=⟨_,rfl⟩
 rw[<-hW,<-hO]at hF⊢;rw[<-hW]at hcell;clear hW hO;(repeat(first|co_apply aQ|(co_apply (aP);intro _ hR;replace hF:=hF.rely hR;clear hR;refine⟨by simp[*,go_sem],fun K z=>?_⟩;go_simp;refine z _ ?_;clear z K;try walk_nrm)|((first|co_apply bh|co_apply cZ|co_apply aO);try co_then)));co_apply bQ (ah L) rfl (by rfl) rfl (by walk_nrm;exact hi key a Ls cap _ _ h8 (fun k x hx=>by obtain⟨g,hg,e,hc⟩:=hcell.out k x hx;exact⟨g,hg,e,hF.aV hc hg⟩) hF.top);rintro O2 x W2 ⟨⟨i,rfl,hr⟩,hG⟩;replace hF:=hF.trans hG;clear hG;walk_nrm;(repeat(first|co_apply aQ|(co_apply (aP);intro _ hR;replace hF:=hF.rely hR;clear hR;refine⟨by simp[*,go_sem],fun K z=>?_⟩;go_simp;refine z _ ?_;clear z K;try walk_nrm)|((first|co_apply bh|co_apply cZ|co_apply aO);try co_then)));exact .inl ⟨rfl,_,bP (ah L) (resultsC_tmp (by rfl) _),by rw[hr];rfl,hF⟩
theorem K1:∃n,∀(key:ByteArray) (a:Option Addr) (Ls:List ByteArray) (cap:Nat) (O:au) (w:World),Ls.length<=8->Hid (∀(k:Nat) (x:ByteArray),Ls[k]?=some x->∃g,L.Fx g/\a=some ⟨g,0,none⟩/\w.cell? ⟨g,k,none⟩=some (.string x))->L.N<=w.heap.size->
 bu prog main J (RX L) (DX L) 169 #[.slice a Ls.length cap,.string key] n O w fun O' v w'=>v=.bool (dX Ls key)/\bA L O w O' w':=by
 obtain⟨ni,hi⟩:=Eu (main:=main) (J:=J) (L:=L);co_apply Exists.intro;intro key a Ls cap O w h8 hcell hN;have hF:bA L O w O w:=bA.refl hN;co_apply bz func169 (by rfl) rfl;walk_nrmf ntmps169;obtain⟨W,hW⟩:∃W,W=w:=⟨_,rfl⟩
 obtain⟨O1,hO⟩:∃O1,O1=O:=⟨_,rfl⟩
 rw[<-hW,<-hO]at hF⊢;rw[<-hW]at hcell;clear hW hO;(repeat(first|co_apply aQ|(co_apply (aP);intro _ hR;replace hF:=hF.rely hR;clear hR;refine⟨by simp[*,go_sem],fun K z=>?_⟩;go_simp;refine z _ ?_;clear z K;try walk_nrm)|((first|co_apply bh|co_apply cZ|co_apply aO);try co_then)));co_apply bQ (ah L) rfl (by rfl) rfl (by walk_nrm;exact hi key a Ls cap _ _ h8 (fun k x hx=>by obtain⟨g,hg,e,hc⟩:=hcell.out k x hx;exact⟨g,hg,e,hF.aV hc hg⟩) hF.top);rintro O2 x W2 ⟨rfl,hG⟩;replace hF:=hF.trans hG;clear hG;walk_nrm;(repeat(first|co_apply aQ|(co_apply (aP);intro _ hR;replace hF:=hF.rely hR;clear hR;refine⟨by simp[*,go_sem],fun K z=>?_⟩;go_simp;refine z _ ?_;clear z K;try walk_nrm)|((first|co_apply bh|co_apply cZ|co_apply aO);try co_then)));exact .inl ⟨rfl,_,bP (ah L) (resultsC_tmp (by rfl) _),rfl,hF⟩
def Ew(m:Int)(s:ByteArray):Bool:=!(IntKind.u64.wrap ((BitVec.ofInt IntKind.u64.bits m &&& BitVec.ofInt IntKind.u64.bits (wW s)).toNat:Int)== 0)
theorem K2:∃n,∀(key:ByteArray) (m:Int) (O:au) (w:World),key.size<=1000->L.N<=w.heap.size->
 bu prog main J (RX L) (DX L) 172 #[.int .u64 m,.string key] n O w fun O' v w'=>v=.bool (Ew m key)/\bA L O w O' w':=by
 obtain⟨ni,hi⟩:=Rv (main:=main) (J:=J) (L:=L);co_apply Exists.intro;intro key m O w hs hN;have hF:bA L O w O w:=bA.refl hN;co_apply bz func172 (by rfl) rfl;walk_nrmf ntmps172;obtain⟨W,hW⟩:∃W,W=w:=⟨_,rfl⟩
 obtain⟨O1,hO⟩:∃O1,O1=O:=⟨_,rfl⟩
 rw[<-hW,<-hO]at hF⊢;clear hW hO;(repeat(first|co_apply aQ|(co_apply (aP);intro _ hR;replace hF:=hF.rely hR;clear hR;refine⟨by simp[*,go_sem],fun K z=>?_⟩;go_simp;refine z _ ?_;clear z K;try walk_nrm)|((first|co_apply bh|co_apply cZ|co_apply aO);try co_then)));co_apply bQ (ah L) rfl (by rfl) rfl (by walk_nrm;exact hi key _ _ hs hF.top);rintro O2 x W2 ⟨rfl,hG⟩;replace hF:=hF.trans hG;clear hG;rw[show IntKind.u64.wrap (2 ^(lg key.data.toList % 64).toNat)=wW key from rfl];have hand:Op.intBits .and .u64 m (wW key)=pure (.int .u64 (IntKind.u64.wrap ((BitVec.ofInt IntKind.u64.bits m &&& BitVec.ofInt IntKind.u64.bits (wW key)).toNat:Int))):=rfl;have Rz:Ew m key= !(IntKind.u64.wrap ((BitVec.ofInt IntKind.u64.bits m &&& BitVec.ofInt IntKind.u64.bits (wW key)).toNat:Int)== 0):=rfl;generalize wW key=B at hand Rz⊢;generalize IntKind.u64.wrap ((BitVec.ofInt IntKind.u64.bits m &&& BitVec.ofInt IntKind.u64.bits B).toNat:Int)=y at hand Rz;walk_nrm;(co_apply (aP);intro _ hR;replace hF:=hF.rely hR;clear hR;refine⟨by simp[*,go_sem],fun K z=>?_⟩;go_simp;refine z _ ?_;clear z K;try walk_nrm);clear hand;(repeat(first|co_apply aQ|(co_apply (aP);intro _ hR;replace hF:=hF.rely hR;clear hR;refine⟨by simp[*,go_sem],fun K z=>?_⟩;go_simp;refine z _ ?_;clear z K;try walk_nrm)|((first|co_apply bh|co_apply cZ|co_apply aO);try co_then)));exact .inl ⟨rfl,_,bP (ah L) (resultsC_tmp (by rfl) _),by rw[Rz];rfl,hF⟩
end
section
open Go.Maps (Keyed)
variable {main:Bool}{J:Jm}{L:eg}
structure kY(L:eg)(pb kb:Nat)(f:Lit->Option Value)(vl:Int->List KV)(w:World):Prop where
 fc:L.nR ⟨pb,2,none⟩
 fk:L.Fx kb
 cell:w.cell? ⟨pb,2,none⟩=some (.map (some kb))
 map:aK w prog 3 kb f
 row:∀m:Int,-9223372036854775808<=m->m<=9223372036854775807->∃ad cap sv,(f (.int .i64 m)).getD (.agg #[.slice none 0 0,.nilIface])=.agg #[.slice ad (vl m).length cap,sv]/\(vl m).length<=8/\
  ∀(k:Nat) (x:KV),(vl m)[k]?=some x->∃g,L.Fx g/\ad=some ⟨g,0,none⟩/\w.cell? ⟨g,k*2,none⟩=some (.string x.1)/\w.cell? ⟨g,k*2+1,none⟩=some (.string x.2)
theorem kY.rx(h:kY L pb kb f vl w0)(hF:RX L O w0 w):kY L pb kb f vl w:=
 ⟨h.fc,h.fk,hF.cell h.cell h.fc,h.map.of_eq (hF.blk kb h.map.lt (.inr h.fk)),fun m h1 h2=>by obtain⟨ad,cap,sv,e,h8,hr⟩:=h.row m h1 h2;refine⟨ad,cap,sv,e,h8,fun k x hx=>?_⟩;obtain⟨g,hg,ha,c1,c2⟩:=hr k x hx;exact⟨g,hg,ha,hF.aV c1 hg,hF.aV c2 hg⟩⟩
theorem kY.xC{O0:au}(h:kY L pb kb f vl w0)(hF:bA L O0 w0 O w):kY L pb kb f vl w:=h.rx hF.rel
theorem Qm:∃n,∀(pb kb:Nat) (f:Lit->Option Value) (vl:Int->List KV) (m:Int) (key:ByteArray) (O:au) (w:World),L.N<=w.heap.size->kY L pb kb f vl w->-9223372036854775808<=m->m<=9223372036854775807->
 bu prog main J (RX L) (DX L) 115 #[ptr pb,.int .i64 m,.string key] n O w fun O' v w'=>v=.tuple #[.string (valueOf (vl m) key),.bool (aH (vl m) key)]/\bA L O w O' w':=by obtain⟨n,h⟩:=Ta (main:=main) (J:=J) (L:=L);refine⟨n,fun pb kb f vl m key O w hN hP h1 h2=>?_⟩;obtain⟨ad,cap,sv,e,h8,hr⟩:=hP.row m h1 h2;exact h pb kb f m key ad (vl m) cap sv O w hN hP.fc hP.fk hP.cell hP.map h1 h2 e h8 hr
def fC(vl:Int->List KV)(key:ByteArray)(ms:List Int):Int:=ms.foldl (fun g m=>if aH (vl m) key then(if m > g then m else g)else g) 0
theorem Jq{key:ByteArray}{ms:List Int}(h:∀m∈ms,0<=m/\m<=1000):0<=fC vl key ms/\fC vl key ms<=1000:=by
 have:∀(l:List Int) (g:Int),(∀m∈l,0<=m/\m<=1000)->0<=g/\g<=1000->0<=l.foldl (fun g m=>if aH (vl m) key then(if m > g then m else g)else g) g/\l.foldl (fun g m=>if aH (vl m) key then(if m > g then m else g)else g) g<=1000:=by
  intro l;induction l with
  |nil=>exact fun g _ h=>h
  |cons m l ih=>
   intro g hl hg;simp only[List.foldl_cons];refine ih _ (fun x hx=>hl x (by simp[hx])) ?_;have:=hl m (by simp);split
   ·split<;>omega
   ·exact hg
 exact this ms 0 h (by omega)
theorem WW(a b:Int)(w:World)(es:Array Event):(Builtin.max_ #[3,3] 3 #[.int .i64 a,.int .i64 b]).events prog w es=es:=by simp[Builtin.max_,Builtin.max2]
def XS(pb:Nat)(w:World):Prop:=∃c t f,w.heap[pb]?=some (.cells c t f)/\0<c.size
theorem XS.of{o:Nat}(h:w.cell? ⟨pb,o,none⟩=some v):XS pb w:=by
 unfold World.cell? at h;split at h
 ·rename_i c t f hb;refine⟨c,t,f,hb,?_⟩;simp at h;have:=(Array.getElem?_eq_some_iff.1 h).1;omega
 ·cases h
structure Es(main:Bool)(J:Jm)(L:eg)(pb nl:Nat):Prop where
 lock:∀(O:au) (w:World),L.N<=w.heap.size->O.pos=.lk .uI 1->¬O.own pb->XS pb w->bu prog main J (RX L) (DX L) 37 #[.pointer (some ⟨pb,0,none⟩)] nl O w fun O' v w'=>v=.tuple #[]/\O'.pos=.lk .hold 3/\qM L O w O' w'
 unlock:∀(O:au) (w:World),L.N<=w.heap.size->O.pos=.lk .hold 3->¬O.own pb->XS pb w->CallsD prog main J (RX L) (DX L) 38 #[.pointer (some ⟨pb,0,none⟩)] nl O w fun O' w'=>O'.pos=.lk .out 0/\qM L O w O' w'
theorem Jj(nl:Nat):∃n,∀(pb kb:Nat) (f:Lit->Option Value) (vl:Int->List KV) (key:ByteArray) (ms:List Int) (cb:Option Addr) (eN:Nat) (O:au) (w:World),L.N<=w.heap.size->kY L pb kb f vl w->
 ms.length<=8->(∀m∈ms,0<=m/\m<=1000)->Hid (∀(k:Nat) (m:Int),ms[k]?=some m->∃g,L.Fx g/\cb=some ⟨g,0,none⟩/\w.cell? ⟨g,k,none⟩=some (.int .i64 m))->
 Es main J L pb nl->O.pos=.lk .uI 1->¬O.own pb->
 bu prog main J (RX L) (DX L) 81 #[ptr pb,.string key,.slice cb ms.length eN] n O w fun O' v w'=>v=.tuple #[.int .i64 (fC vl key ms),.string (valueOf (vl (fC vl key ms)) key)]/\O'.pos=.lk .out 0/\qM L O w O' w':=by
 obtain⟨nv,hv⟩:=Qm (main:=main) (J:=J) (L:=L);co_apply Exists.intro;intro pb kb f vl key ms cb eN O w hN hP h8 uG hcell hlk hpos hno;have hF:bA L O w O w:=bA.refl hN;unfold ptr;co_apply Jh (dn:=nl) func81 (by rfl) rfl;walk_nrmf ntmps81;obtain⟨W,hW⟩:∃W,W=w:=⟨_,rfl⟩
 obtain⟨O1,hO⟩:∃O1,O1=O:=⟨_,rfl⟩
 rw[<-hW,<-hO]at hF⊢;rw[<-hW]at hP hcell;rw[<-hO]at hpos hno;have hpl:pb<W.heap.size:=za0 W _ hP.cell;clear hW hO;(repeat(first|co_apply aQ|(co_apply (aP);intro _ hR;replace hF:=hF.rely hR;clear hR;refine⟨by simp[*,go_sem],fun K z=>?_⟩;go_simp;refine z _ ?_;clear z K;try walk_nrm)|((first|co_apply bh|co_apply ju|co_apply cx|co_apply cZ|co_apply jF|co_apply aO);try co_then)));co_apply bQ (ah L) rfl (by rfl) rfl (by walk_nrm;exact hlk.lock _ _ hF.top (hF.gh.1.trans hpos) (hF.nP hno hpl) (XS.of (hP.xC hF).cell));rintro O5 x W5 ⟨rfl,aa9,hJ⟩;replace hJ:=hF.Q2.trans hJ;replace hno:=hJ.nP hno hpl;replace hpl:pb<W5.heap.size:=Nat.lt_of_lt_of_le hpl hJ.rel.le;clear hF hpos;have hF:bA L O5 W5 O5 W5:=bA.refl hJ.top;replace hP:=hP.rx hJ.rel;replace hcell:Hid (∀(k:Nat) (m:Int),ms[k]?=some m->∃g,L.Fx g/\cb=some ⟨g,0,none⟩/\W5.cell? ⟨g,k,none⟩=some (.int .i64 m)):=fun k m hk=>by obtain⟨g,hg,e,hc⟩:=hcell.out k m hk;exact⟨g,hg,e,hJ.rel.aV hc hg⟩
 walk_nrm;(repeat(first|co_apply aQ|(co_apply (aP);intro _ hR;replace hF:=hF.rely hR;clear hR;refine⟨by simp[*,go_sem],fun K z=>?_⟩;go_simp;refine z _ ?_;clear z K;try walk_nrm)|((first|co_apply bh|co_apply ju|co_apply cx|co_apply cZ|co_apply jF|co_apply aO);try co_then)));co_apply xY (ah L) rfl (by rfl) rfl;walk_nrm;(repeat(first|co_apply aQ|(co_apply (aP);intro _ hR;replace hF:=hF.rely hR;clear hR;refine⟨by simp[*,go_sem],fun K z=>?_⟩;go_simp;refine z _ ?_;clear z K;try walk_nrm)|((first|co_apply bh|co_apply ju|co_apply cx|co_apply cZ|co_apply jF|co_apply aO);try co_then)));co_apply mL (ah L) (N:=8) (fun j O a w=>∃(k:Nat) (Q4 Q5 Rw s25 s26 s27 s28 s29 s30 s31 s32 s33 s34 s35 s36 s37 s38 s39:Value),k<=ms.length/\j=8-k/\a=⟨#[.pointer (some ⟨pb,0,none⟩),.string key,.slice cb ms.length eN,undef,undef,undef,.int .i64 0,.string ⟨#[]⟩,.int .i64 (fC vl key (ms.take k)),undef,Q4,Q5,Rw,undef,undef,.pointer (some ⟨pb,0,none⟩),.pointer (some ⟨pb,0,none⟩),.pointer (some ⟨pb,0,none⟩),.tuple #[],.pointer (some ⟨pb,0,none⟩),.pointer (some ⟨pb,0,none⟩),.pointer (some ⟨pb,0,none⟩),.slice cb ms.length eN,.int .i64 ms.length,.int .i64 (k:Nat),s25,s26,s27,s28,s29,s30,s31,s32,s33,s34,s35,s36,s37,s38,s39,undef,undef,undef,undef,undef,undef,undef,undef,undef], [dcall 38 #[.pointer (some ⟨pb,0,none⟩)]]⟩/\bA L O5 W5 O w) _
 ·exact⟨0,_,_,_,_,_,_,_,_,_,_,_,_,_,_,_,_,_,_,Nat.zero_le _,rfl,rfl,hF⟩
 clear hF;rintro j O2 act W3 ⟨k,Q4,Q5,Rw,s25,s26,s27,s28,s29,s30,s31,s32,s33,s34,s35,s36,s37,s38,s39,hk,rfl,rfl,hF⟩;have hgb:0<=fC vl key (ms.take k)/\fC vl key (ms.take k)<=1000:=Jq (fun m hm=>uG m (List.mem_of_mem_take hm));(repeat(first|co_apply aQ|((first|co_apply bh|co_apply ju|co_apply cx|co_apply cZ|co_apply jF|co_apply aO);try co_then)));(co_apply (aP);intro _ hR;replace hF:=hF.rely hR;clear hR;refine⟨by simp[go_sem],fun K z=>?_⟩;go_simp;refine z _ ?_;clear z K;try walk_nrm);(repeat(first|co_apply aQ|((first|co_apply bh|co_apply ju|co_apply cx|co_apply cZ|co_apply jF|co_apply aO);try co_then)));(co_apply aN (ah L) (t:=(decide ((k:Int)< (ms.length:Int))));focus(simp[Act.eval]))
 ·intro ht;have hlt:k<ms.length:=by simpa using ht
  have hx:ms[k]?=some ms[k]:=zaz hlt;obtain⟨g,hg,rfl,ck⟩:=hcell.out k _ hx;have hmk:=uG _ (List.getElem_mem hlt);have AL:fC vl key (ms.take (k+1))=if aH (vl ms[k]) key then(if ms[k] > fC vl key (ms.take k)then ms[k]else fC vl key (ms.take k))else fC vl key (ms.take k):=by unfold fC;rw[List.take_succ_eq_append_getElem hlt,List.foldl_append];rfl
  generalize ms[k]=mk at hx ck hmk AL;generalize fC vl key (ms.take k)=gr at AL hgb⊢;(repeat(first|co_apply aQ|((first|co_apply bh|co_apply ju|co_apply cx|co_apply cZ|co_apply jF|co_apply aO);try co_then)));(co_apply (aP);intro _ hR;replace hF:=hF.rely hR;clear hR;refine⟨by simp[*,go_sem],fun K z=>?_⟩;go_simp;refine z _ ?_;clear z K;try walk_nrm);(co_apply aC rfl (by rfl);intro _ hR K hK;replace hF:=bA.rely hF hR;clear hR;(have hc:=hF.aV ck hg);go_simp;refine hK _ ⟨?_,?_⟩;(focus(refine DX.still _ _ (cr (a:=⟨g,k,none⟩) (.inl hg) fun e he=>?_);have hm:=mem_listed he;simp[go_sem,hc]at hm;exact hm));clear hK K;try walk_nrm);clear hc;(co_apply (aP);intro _ hR;replace hF:=hF.rely hR;clear hR;refine⟨by simp[go_sem],fun K z=>?_⟩;go_simp;refine z _ ?_;clear z K;try walk_nrm);(repeat(first|co_apply aQ|((first|co_apply bh|co_apply ju|co_apply cx|co_apply cZ|co_apply jF|co_apply aO);try co_then)));(co_apply (aP);intro _ hR;replace hF:=hF.rely hR;clear hR;refine⟨by simp[go_sem],fun K z=>?_⟩;go_simp;refine z _ ?_;clear z K;try walk_nrm);(co_apply (aP);intro _ hR;replace hF:=hF.rely hR;clear hR;refine⟨by simp[go_sem],fun K z=>?_⟩;go_simp;refine z _ ?_;clear z K;try walk_nrm);(co_apply (aP);intro _ hR;replace hF:=hF.rely hR;clear hR;refine⟨by simp[go_sem],fun K z=>?_⟩;go_simp;refine z _ ?_;clear z K;try walk_nrm);co_apply bQ (ah L) rfl (by rfl) rfl (by walk_nrm;exact hv pb kb f vl mk key _ _ hF.top (hP.xC hF) (by omega) (by omega));rintro O4 x W4 ⟨rfl,Rm⟩;replace hF:=hF.trans Rm;clear Rm;walk_nrm;have yc:IntKind.i64.wrap ((k:Int)+1)=((k+1:Nat):Int):=by rw[IntKind.wrap_i64];omega
  (repeat(first|co_apply aQ|(co_apply (aP);intro _ hR;replace hF:=hF.rely hR;clear hR;refine⟨by simp[*,go_sem],fun K z=>?_⟩;go_simp;refine z _ ?_;clear z K;try walk_nrm)|((first|co_apply bh|co_apply ju|co_apply cx|co_apply cZ|co_apply jF|co_apply aO);try co_then)));(co_apply aN (ah L) (t:=(aH (vl mk) key));focus(simp[Act.eval]))
  ·intro hh;rw[if_pos hh]at AL;(repeat(first|co_apply aQ|((first|co_apply bh|co_apply ju|co_apply cx|co_apply cZ|co_apply jF|co_apply aO);try co_then)));(co_apply (aP);intro _ hR;replace hF:=hF.rely hR;clear hR;refine⟨by simp[go_sem],fun K z=>?_⟩;go_simp;refine z _ ?_;clear z K;try walk_nrm);(co_apply (aP);intro _ hR;replace hF:=hF.rely hR;clear hR;refine⟨by simp[go_sem],fun K z=>?_⟩;go_simp;refine z _ ?_;clear z K;try walk_nrm);(co_apply aC rfl (by rfl);intro _ hR K hK;replace hF:=bA.rely hF hR;clear hR;(skip);go_simp;refine hK _ ⟨?_,?_⟩;(focus(rw[listed_nil (by simp[go_sem,WW])];exact DX.idle _ _));clear hK K;try walk_nrm);(repeat(first|co_apply aQ|(co_apply (aP);intro _ hR;replace hF:=hF.rely hR;clear hR;refine⟨by simp[*,go_sem],fun K z=>?_⟩;go_simp;refine z _ ?_;clear z K;try walk_nrm)|((first|co_apply bh|co_apply ju|co_apply cx|co_apply cZ|co_apply jF|co_apply aO);try co_then)));try simp only[<-AL]
   exact⟨8-(k+1),by omega,k+1,_,_,_,_,_,_,_,_,_,_,_,_,_,_,_,_,_,_,by omega,rfl,rfl,hF⟩
  ·intro hh;rw[if_neg (by rw[hh];exact Bool.false_ne_true)]at AL;(repeat(first|co_apply aQ|(co_apply (aP);intro _ hR;replace hF:=hF.rely hR;clear hR;refine⟨by simp[*,go_sem],fun K z=>?_⟩;go_simp;refine z _ ?_;clear z K;try walk_nrm)|((first|co_apply bh|co_apply ju|co_apply cx|co_apply cZ|co_apply jF|co_apply aO);try co_then)));try simp only[<-AL]
   exact⟨8-(k+1),by omega,k+1,_,_,_,_,_,_,_,_,_,_,_,_,_,_,_,_,_,_,by omega,rfl,rfl,hF⟩
 ·intro ht;have hge:¬k<ms.length:=by simpa using ht
  have tu:ms.take k=ms:=za4 (by omega);rw[tu]at hgb⊢;generalize TU:fC vl key ms=gr at hgb⊢;(repeat(first|co_apply aQ|(co_apply (aP);intro _ hR;replace hF:=hF.rely hR;clear hR;refine⟨by simp[*,go_sem],fun K z=>?_⟩;go_simp;refine z _ ?_;clear z K;try walk_nrm)|((first|co_apply bh|co_apply ju|co_apply cx|co_apply cZ|co_apply jF|co_apply aO);try co_then)));co_apply bQ (ah L) rfl (by rfl) rfl (by walk_nrm;exact hv pb kb f vl gr key _ _ hF.top (hP.xC hF) (by omega) (by omega));rintro O4 x W4 ⟨rfl,Rm⟩;replace hF:=hF.trans Rm;clear Rm;walk_nrm;(repeat(first|co_apply aQ|(co_apply (aP);intro _ hR;replace hF:=hF.rely hR;clear hR;refine⟨by simp[*,go_sem],fun K z=>?_⟩;go_simp;refine z _ ?_;clear z K;try walk_nrm)|((first|co_apply bh|co_apply ju|co_apply cx|co_apply cZ|co_apply jF|co_apply aO);try co_then)));refine .inr (.inl ⟨_,_,_,rfl,rfl,?_⟩);refine(hlk.unlock _ _ hF.top (hF.gh.1.trans aa9) (hF.nP hno hpl) (XS.of (hP.xC hF).cell)).mono (fun O6 W6 h6=>?_) (Nat.le_refl _);exact⟨_,bP (ah L) (resultsC_tmp2 (by rfl) _),rfl,h6.1,(hJ.trans hF.Q2).trans h6.2⟩
end
section
section
variable {P:Program}{main:Bool}{J:Jm}{R:uK}{D:uL}{fn:FuncId}{Q:ew}{O:au}{a:Act}{w:World}{n:Nat}
def Ex(P:Program)(t:TypeId)(v:Value)(name:String)(f:FuncId):Prop:=∀(w:World) (es:Array Event),(method (P.types.size+Made.depth) t v name).run P w=.ok (f,v) w/\(method (P.types.size+Made.depth) t v name).events P w es=es
theorem Ey{name:String}{args:Array Operand}{ats:Array TypeId}{f:FuncId}{t:TypeId}(hop:o.op=.call {callee:=.invoke x name,args,argTypes:=ats})(hx:a.eval x=.iface t v)(hm:Ex P t v name f)
 (hf:P.funcs[f]?=some fn') (hname:(fn'.name == "runtime.NumGoroutine")=false) (hb:fn'.body.isNone=false) (w:World):
 (execOp a.eval o).run P w=.ok (.enter f (#[v]++args.map a.eval)) w/\(execOp a.eval o).events P w #[]=#[]:=by
 have h1:¬fn'.name= "runtime.NumGoroutine" :=by simpa using hname
 have h2:¬fn'.body=none:=fun e=>by rw[e]at hb;cases hb
 have m1:=fun w=>(hm w #[]).1;have m2:=fun w es=>(hm w es).2;have he:(#[Value.iface t v]++args.map a.eval).extract 1 (#[Value.iface t v]++args.map a.eval).size=args.map a.eval:=by apply Array.ext';simp;exact za4 (by simp)
 have h0:(#[Value.iface t v]++args.map a.eval)[0]?=some (.iface t v):=by rw[Array.getElem?_append_left (by simp)];rfl
 unfold execOp;simp only[hop,resolve,hx];generalize (#[Value.iface t v]++args.map a.eval)=X at he h0⊢;simp[invoke,callMethod,h0,he,m1,m2,callFunc,hf,h1,h2]
theorem Ez(T:bY R D){ops:Array Oper}{rest:List Nat}{name:String}{f:FuncId}{args:Array Operand}{ats:Array TypeId}{t:TypeId}{Post:au->Value->World->Prop}
 (ho:ops[i]?=some o) (hw:Region.wanted o (yielded ops a.tmps)=true) (hop:o.op=.call {callee:=.invoke x name,args,argTypes:=ats}) (hx:a.eval x=.iface t v) (hm:Ex P t v name f)
 (hcall:bu P main J R D f (#[v]++args.map a.eval) nf O w Post) (hnext:∀O' v w',Post O' v w'->bG P main J R D fn ops rest n Q O' (a.put o.dst v) w'):bG P main J R D fn ops (i :: rest) (n+nf+Eb) Q O a w:=by
 intro b k cs Stop m hb hk hc;obtain⟨fn',c,n₀,dn,hle,hf,hname,hbody,hwp⟩:=hcall;have jr:∀v,(b.at a (.inRegion ops (i :: rest):: k)).finish v=b.at (a.put o.dst v) (.inRegion ops rest :: k):=fun v=>by rw[Frame.finish_at,ho];rfl
 have e:(m O.fu+n+n₀+dn+5)+1<=m O.fu+(n+nf+Eb):=by unfold Eb;omega
 refine cy.mono ?_ e;have hbn:fn'.body.isNone=false:=by rw[hbody];rfl
 refine cy.step rfl fun w₁ h₁=>?_;obtain⟨hr,hev⟩:=Ey (P:=P) hop hx hm hf hname hbn w₁;rw[stepG_enter ho hw hk hr,enter_at _ hf hbody];have hl:listed P b.fn a o w₁=#[]:=listed_nil hev;rw[hl];refine⟨T.idle _ _,?_⟩;rw[O.dh rfl];refine cy.rely T (cy.body (m:=fun j=>m j+n) T hf hwp fun O' v w' hp=>?_) h₁;rw[jr];exact hnext O' v w' hp b k cs Stop m hb hk hc
end
theorem K5(v:Value):Ex prog 225 v "MayWrite" 169:=fun w es=>⟨by kernel_rfl,by kernel_rfl⟩
theorem K6(v:Value):Ex prog 226 v "MayWrite" 172:=fun w es=>⟨by kernel_rfl,by kernel_rfl⟩
variable {main:Bool}{J:Jm}{L:eg}
inductive rU(L:eg)(w:World):Value->(ByteArray->Bool)->Prop
 |none:rU L w .nilIface (fun _=>true)
 |keys (a:Option Addr) (Ls:List ByteArray) (cap:Nat) (h8:Ls.length<=8) (hc:∀(k:Nat) (x:ByteArray),Ls[k]?=some x->∃g,L.Fx g/\a=some ⟨g,0,Option.none⟩/\w.cell? ⟨g,k,Option.none⟩=some (.string x)):rU L w (.iface 225 (.slice a Ls.length cap)) (dX Ls)
 |mask (m:Int):rU L w (.iface 226 (.int .u64 m)) (Ew m)
theorem TT(w:World)(es:Array Event):(binOp BinOp.eql 142 Value.nilIface Value.nilIface).run prog w=.ok (.bool true) w/\(binOp BinOp.eql 142 Value.nilIface Value.nilIface).events prog w es=es:=by
 have e:binOp BinOp.eql 142 Value.nilIface Value.nilIface=(Op.equalIn (9999+1) 142 .nilIface .nilIface >>= fun b=>pure (.bool b)):=rfl;have hu:=run_underlying (w:=w) underlying142;have he:(underlying 142).events prog w es=es:=by simp[go_sem]
 rw[e,Op.equalIn];simp[hu,he]
theorem YD(t:TypeId)(v:Value)(w:World)(es:Array Event):(binOp BinOp.eql 142 (.iface t v) Value.nilIface).run prog w=.ok (.bool false) w/\(binOp BinOp.eql 142 (.iface t v) Value.nilIface).events prog w es=es:=by
 have e:binOp BinOp.eql 142 (.iface t v) Value.nilIface=(Op.equalIn (9999+1) 142 (.iface t v) .nilIface >>= fun b=>pure (.bool b)):=rfl;have hu:=run_underlying (w:=w) underlying142;have he:(underlying 142).events prog w es=es:=by simp[go_sem]
 rw[e,Op.equalIn];simp[hu,he]
theorem NI:∃n,∀(key:ByteArray) (wn:Int) (hv:Bool) (vl:ByteArray) (O:au) (w:World),L.N<=w.heap.size->
 bu prog main J (RX L) (DX L) 116 #[.agg #[.int .i64 wn,.bool hv,.string vl,.nilIface],.string key] n O w fun O' v w'=>v=.bool true/\bA L O w O' w':=by
 co_apply Exists.intro;intro key wn hv vl O w hN;have hF:bA L O w O w:=bA.refl hN;co_apply bz func116 (by rfl) rfl;walk_nrmf ntmps116;obtain⟨W,hW⟩:∃W,W=w:=⟨_,rfl⟩
 obtain⟨O1,hO⟩:∃O1,O1=O:=⟨_,rfl⟩
 rw[<-hW,<-hO]at hF⊢;clear hW hO;(repeat(first|co_apply aQ|((first|co_apply bh|co_apply cZ|co_apply aO);try co_then)));co_apply bB rfl (by rfl);intro W1 hR K hK;replace hF:=bA.rely hF hR;clear hR;go_simp;refine hK _ _ ⟨?_,?_⟩
 ·rw[listed_nil (by simp[go_sem])];exact DX.alloc _ _ _
 clear hK K;try walk_nrm
 have hr:W.heap.size<=W1.heap.size:=hF.rel.le;have hG:=And.intro (hF.alloc (.cells #[.int .i64 wn,.bool hv,.string vl,.nilIface] 144)) (OB.new O1 W1 (.cells #[.int .i64 wn,.bool hv,.string vl,.nilIface] 144));clear hF;generalize (O1.grow W1 (W1.alloc (.cells #[.int .i64 wn,.bool hv,.string vl,.nilIface] 144)))=O2 at hG⊢;generalize (W1.alloc (.cells #[.int .i64 wn,.bool hv,.string vl,.nilIface] 144))=W2 at hG⊢;generalize W1.heap.size=r at hG hr⊢;have rl:∀{o:Obj} {Wa Wb:World},(bA L O1 W O2 Wa/\OB r o O2 Wa)->RX L O2 Wa Wb->(bA L O1 W O2 Wb/\OB r o O2 Wb):=fun h x=>⟨h.1.rely x,h.2.rely x⟩
 have K0:∀{Wa:World},OB r (.cells #[.int .i64 wn,.bool hv,.string vl,.nilIface] 144) O2 Wa->Wa.cell? ⟨r,3,none⟩=some .nilIface:=fun x=>by simp[World.cell?,x.heap]
 (co_apply (aP);intro _ hR;replace hG:=rl hG hR;clear hR;refine⟨by simp[go_sem],fun K z=>?_⟩;go_simp;refine z _ ?_;clear z K;try walk_nrm);(repeat(first|co_apply aQ|((first|co_apply bh|co_apply cZ|co_apply aO);try co_then)));(co_apply (aP);intro _ hR;replace hG:=rl hG hR;clear hR;refine⟨by simp[go_sem],fun K z=>?_⟩;go_simp;refine z _ ?_;clear z K;try walk_nrm);(co_apply aC rfl (by rfl);intro _ hR K hK;replace hG:=rl hG hR;clear hR;(have hc:=K0 hG.2);go_simp;refine hK _ ⟨?_,?_⟩;(focus(refine DX.still _ _ (cK (b:=false) hG.2.own fun e he=>?_);have hm:=mem_listed he;simp[go_sem,hc]at hm;subst hm;exact⟨_,rfl,rfl⟩));clear hK K;try walk_nrm);clear hc;have en1:=fun w=>(TT w #[]).1;have YE:=fun w es=>(TT w es).2;(co_apply aC rfl (by rfl);intro _ hR K hK;replace hG:=rl hG hR;clear hR;(skip);go_simp;refine hK _ ⟨?_,?_⟩;(focus(rw[listed_nil (by simp[go_sem,YE])];exact DX.idle _ _));clear hK K;try walk_nrm);clear en1 YE;(repeat(first|co_apply aQ|(co_apply (aP);intro _ hR;replace hG:=rl hG hR;clear hR;refine⟨by simp[*,go_sem],fun K z=>?_⟩;go_simp;refine z _ ?_;clear z K;try walk_nrm)|(co_apply (qN);try walk_nrm)|((first|co_apply bh|co_apply cZ|co_apply aO);try co_then)));exact .inl ⟨rfl,_,bP (ah L) (resultsC_tmp (by rfl) _),rfl,hG.1⟩
theorem JR(nf:Nat):∃n,∀(key:ByteArray) (wn:Int) (hv:Bool) (vl:ByteArray) (t:TypeId) (y:Value) (f:FuncId) (bb:Bool) (O:au) (w:World),Ex prog t y "MayWrite" f->L.N<=w.heap.size->
 Hid (∀O2 w2,bA L O w O2 w2->bu prog main J (RX L) (DX L) f #[y,.string key] nf O2 w2 fun O' x w'=>x=.bool bb/\bA L O2 w2 O' w')->
 bu prog main J (RX L) (DX L) 116 #[.agg #[.int .i64 wn,.bool hv,.string vl,(.iface t y)],.string key] n O w fun O' v w'=>v=.bool bb/\bA L O w O' w':=by
 co_apply Exists.intro;intro key wn hv vl t y f bb O w hmt hN uH;have hF:bA L O w O w:=bA.refl hN;co_apply bz func116 (by rfl) rfl;walk_nrmf ntmps116;obtain⟨W,hW⟩:∃W,W=w:=⟨_,rfl⟩
 obtain⟨O1,hO⟩:∃O1,O1=O:=⟨_,rfl⟩
 rw[<-hW,<-hO]at hF uH⊢;clear hW hO;(repeat(first|co_apply aQ|((first|co_apply bh|co_apply cZ|co_apply aO);try co_then)));co_apply bB rfl (by rfl);intro W1 hR K hK;replace hF:=bA.rely hF hR;clear hR;go_simp;refine hK _ _ ⟨?_,?_⟩
 ·rw[listed_nil (by simp[go_sem])];exact DX.alloc _ _ _
 clear hK K;try walk_nrm
 have hr:W.heap.size<=W1.heap.size:=hF.rel.le;have hG:=And.intro (hF.alloc (.cells #[.int .i64 wn,.bool hv,.string vl,(.iface t y)] 144)) (OB.new O1 W1 (.cells #[.int .i64 wn,.bool hv,.string vl,(.iface t y)] 144));clear hF;generalize (O1.grow W1 (W1.alloc (.cells #[.int .i64 wn,.bool hv,.string vl,(.iface t y)] 144)))=O2 at hG⊢;generalize (W1.alloc (.cells #[.int .i64 wn,.bool hv,.string vl,(.iface t y)] 144))=W2 at hG⊢;generalize W1.heap.size=r at hG hr⊢;have rl:∀{o:Obj} {Wa Wb:World},(bA L O1 W O2 Wa/\OB r o O2 Wa)->RX L O2 Wa Wb->(bA L O1 W O2 Wb/\OB r o O2 Wb):=fun h x=>⟨h.1.rely x,h.2.rely x⟩
 have K0:∀{Wa:World},OB r (.cells #[.int .i64 wn,.bool hv,.string vl,(.iface t y)] 144) O2 Wa->Wa.cell? ⟨r,3,none⟩=some (.iface t y):=fun x=>by simp[World.cell?,x.heap]
 (co_apply (aP);intro _ hR;replace hG:=rl hG hR;clear hR;refine⟨by simp[go_sem],fun K z=>?_⟩;go_simp;refine z _ ?_;clear z K;try walk_nrm);(repeat(first|co_apply aQ|((first|co_apply bh|co_apply cZ|co_apply aO);try co_then)));(co_apply (aP);intro _ hR;replace hG:=rl hG hR;clear hR;refine⟨by simp[go_sem],fun K z=>?_⟩;go_simp;refine z _ ?_;clear z K;try walk_nrm);(co_apply aC rfl (by rfl);intro _ hR K hK;replace hG:=rl hG hR;clear hR;(have hc:=K0 hG.2);go_simp;refine hK _ ⟨?_,?_⟩;(focus(refine DX.still _ _ (cK (b:=false) hG.2.own fun e he=>?_);have hm:=mem_listed he;simp[go_sem,hc]at hm;subst hm;exact⟨_,rfl,rfl⟩));clear hK K;try walk_nrm);clear hc;have en1:=fun w=>(YD t y w #[]).1;have YE:=fun w es=>(YD t y w es).2;(co_apply aC rfl (by rfl);intro _ hR K hK;replace hG:=rl hG hR;clear hR;(skip);go_simp;refine hK _ ⟨?_,?_⟩;(focus(rw[listed_nil (by simp[go_sem,YE])];exact DX.idle _ _));clear hK K;try walk_nrm);clear en1 YE;(co_apply (aP);intro _ hR;replace hG:=rl hG hR;clear hR;refine⟨by simp[go_sem],fun K z=>?_⟩;go_simp;refine z _ ?_;clear z K;try walk_nrm);(co_apply (aP);intro _ hR;replace hG:=rl hG hR;clear hR;refine⟨by simp[go_sem],fun K z=>?_⟩;go_simp;refine z _ ?_;clear z K;try walk_nrm);(co_apply aC rfl (by rfl);intro _ hR K hK;replace hG:=rl hG hR;clear hR;(have hc:=K0 hG.2);go_simp;refine hK _ ⟨?_,?_⟩;(focus(refine DX.still _ _ (cK (b:=false) hG.2.own fun e he=>?_);have hm:=mem_listed he;simp[go_sem,hc]at hm;subst hm;exact⟨_,rfl,rfl⟩));clear hK K;try walk_nrm);clear hc;(co_apply (aP);intro _ hR;replace hG:=rl hG hR;clear hR;refine⟨by simp[go_sem],fun K z=>?_⟩;go_simp;refine z _ ?_;clear z K;try walk_nrm);co_apply Ez (ah L) rfl (by rfl) rfl (by rfl) hmt (by walk_nrm;exact uH.out _ _ hG.1);rintro O3 x W3 ⟨rfl,hE⟩;replace hE:=hG.1.trans hE;clear hG uH hmt;walk_nrm;(repeat(first|co_apply aQ|(co_apply (aP);intro _ hR;replace hE:=hE.rely hR;clear hR;refine⟨by simp[*,go_sem],fun K z=>?_⟩;go_simp;refine z _ ?_;clear z K;try walk_nrm)|((first|co_apply bh|co_apply cZ|co_apply aO);try co_then)));exact .inl ⟨rfl,_,bP (ah L) (resultsC_tmp (by rfl) _),rfl,hE⟩
theorem oY{f:FuncId}{args:Array Value}{n n':Nat}{Post:au->Value->World->Prop}(h:bu P main J R D f args n O w Post)(hn:n<=n'):bu P main J R D f args n' O w Post:=by obtain⟨fn,c,n₀,dn,hle,h⟩:=h;exact⟨fn,c,n₀,dn,Nat.le_trans hle hn,h⟩
theorem YF:∃n,∀(key:ByteArray) (wn:Int) (hv:Bool) (vl:ByteArray) (si:Value) (fm:ByteArray->Bool) (O:au) (w:World),rU L w si fm->key.size<=1000->L.N<=w.heap.size->
 bu prog main J (RX L) (DX L) 116 #[.agg #[.int .i64 wn,.bool hv,.string vl,si],.string key] n O w fun O' v w'=>v=.bool (fm key)/\bA L O w O' w':=by
 obtain⟨n0,h0⟩:=NI (main:=main) (J:=J) (L:=L);obtain⟨nk,hk⟩:=K1 (main:=main) (J:=J) (L:=L);obtain⟨nm,hm⟩:=K2 (main:=main) (J:=J) (L:=L);obtain⟨n1,h1⟩:=JR (main:=main) (J:=J) (L:=L) nk;obtain⟨n2,h2⟩:=JR (main:=main) (J:=J) (L:=L) nm;refine⟨n0+n1+n2,fun key wn hv vl si fm O w hS hz hN=>?_⟩;cases hS with
 |none=>exact oY (h0 key wn hv vl O w hN) (by omega)
 |keys a Ls cap h8 hc=>exact oY (h1 key wn hv vl _ _ _ (dX Ls key) O w (K5 _) hN fun O2 w2 hF=>hk key a Ls cap O2 w2 h8 (fun k x hx=>by obtain⟨g,hg,e,hh⟩:=hc k x hx;exact⟨g,hg,e,hF.aV hh hg⟩) hF.top) (by omega)
 |mask m=>exact oY (h2 key wn hv vl _ _ _ (Ew m key) O w (K6 _) hN fun O2 w2 hF=>hm key m O2 w2 hz hF.top) (by omega)
end
section
section
variable {P:Program}{t:TypeId}
theorem Av(hu:P.underlying t=some .string)(s:ByteArray)(y:Value)(w:World)(es:Array Event):(Op.equal t (.string s) y).events P w es=es:=by
 show (Op.equalIn (9999+1) t (.string s) y).events P w es=es;rw[Op.equalIn];rw[Sem.events_bind,run_underlying hu];simp only[Result.evThen_ok,events_underlying];repeat' split
 all_goals first|rfl|simp_all
theorem yg(hu:P.underlying t=some .string)(s:ByteArray)(l:List MapEntry)(i:Nat)(w:World)(es:Array Event):(Instr.findAsking t (.string s) l i).events P w es=es:=by
 induction l generalizing i w es with
 |nil=>rfl
 |cons e l ih=>
  rw[Instr.findAsking,Sem.events_bind,Av hu s];cases (Op.equal t (.string s) e.key).run P w with
  |ok b w'=>cases b<;>simp[ih]
  |halt h w'=>rfl
theorem EA(hu:P.underlying t=some .string)(s:ByteArray)(l:List MapEntry)(w:World)(es:Array Event):(Instr.findKey t (.string s) l).events P w es=es:=by
 rw[Instr.findKey,Sem.events_bind,run_underlying hu];simp only[Result.evThen_ok,events_underlying];split
 ·rfl
 ·exact yg hu s _ _ _ _
theorem CB(hu:P.underlying t=some .string)(s:ByteArray)(b:Bool)(w:World)(es:Array Event):(Instr.checkKey b 10000 t (.string s)).events P w es=es:=by show (Instr.checkKey b (9999+1) t (.string s)).events P w es=es;rw[Instr.checkKey,Sem.events_bind,run_underlying hu];simp only[Result.evThen_ok,events_underlying];rfl
theorem yh(hu:P.underlying t=some .string)(s:ByteArray){mt e:TypeId}(ht:P.underlying mt=some (.map t e))(b:Nat)(w:World)(hb:w.heap[b]?=some (.map en cl)):
 ∀ev∈(Instr.lookup mt (.map (some b)) (.string s) false).events P w #[],ev=⟨.obj b,false,false⟩:=by
 intro ev h;have g1:(getObj b).run P w=.ok (.map en cl) w:=by simp[getObj,Sem.run,hb]
 have g2:(getObj b).events P w #[]=#[⟨.obj b,false,false⟩]:=by simp only[getObj,Sem.events,Sem.runT,hb,Obj.isChan];rfl
 unfold Instr.lookup at h;simp only[Sem.events_bind,run_underlying ht,Result.evThen_ok,events_underlying,g1,g2,Sem.run_pure,Sem.events_pure,CB hu s]at h;cases hc:(Instr.checkKey en.isEmpty 10000 t (.string s)).run P w with
 |halt x w'=>rw[hc]at h;simpa[Result.evThen]using h
 |ok u w1=>
  rw[hc]at h;simp only[Result.evThen_ok,EA hu s]at h;cases hf:(Instr.findKey t (.string s) en.toList).run P w1 with
  |halt x w'=>rw[hf]at h;simpa[Result.evThen,Result.andThen]using h
  |ok r w2=>
   rw[hf]at h;cases r with
   |none=>
    simp only[Result.evThen_ok,Sem.events_bind,events_zeroValue]at h;revert h;cases (zeroValue e).run P w2<;>simp[Result.evThen]
   |some p=>simpa using h
end
section
variable {P:Program}
theorem gL(hb:w.heap[b]?=some (.map en cl))(es:Array Event):(getObj b).run P w=.ok (.map en cl) w/\(getObj b).events P w es=es.push ⟨.obj b,false,false⟩:=
 ⟨by simp[getObj,Sem.run,hb],by simp only[getObj,Sem.events,Sem.runT,hb,Obj.isChan]⟩
theorem iS{seen:Array Nat}(hb:w.heap[b]?=some (.mapIter m s0 seen l))(es:Array Event):(getObj b).run P w=.ok (.mapIter m s0 seen l) w/\(getObj b).events P w es=es.push ⟨.obj b,false,false⟩:=
 ⟨by simp[getObj,Sem.run,hb],by simp only[getObj,Sem.events,Sem.runT,hb,Obj.isChan]⟩
theorem Hh{mt k e:TypeId}(ht:P.underlying mt=some (.map k e))(hb:w.heap[b]?=some (.map en cl)):
 (Instr.range mt (.map (some b))).run P w=.ok (.pointer (some ⟨w.heap.size,0,none⟩)) (w.alloc (.mapIter (some b) cl #[] cl))/\(Instr.range mt (.map (some b))).events P w #[]=#[⟨.obj b,false,false⟩]:=by
 have g1:=(gL (P:=P) hb #[]).1;have g2:=(gL (P:=P) hb #[]).2;unfold Instr.range;constructor
 ·simp[run_underlying ht,g1]
 ·simp[run_underlying ht,g1,g2]
theorem EB{seen:Array Nat}(hb:w.heap[r]?=some (.mapIter m s0 seen l))(m':Option Nat)(s1 l':Nat)(seen':Array Nat)(es:Array Event):(setObj r (.mapIter m' s1 seen' l')).events P w es=es.push ⟨.obj r,true,false⟩/\∃w',(setObj r (.mapIter m' s1 seen' l')).run P w=.ok () w':=
 ⟨by simp[setObj,Sem.events,Sem.runT,hb,Obj.isChan,-Sem.runT_eq],by simp[setObj,Sem.run,hb]⟩
theorem NJ{seen:Array Nat}{ty:TypeId}(hi:w.heap[r]?=some (.mapIter (some b) s0 seen l))(hb:w.heap[b]?=some (.map en cl)):
 ∀ev∈(Instr.next (.pointer (some ⟨r,0,none⟩)) false ty).events P w #[],ev=⟨.obj r,false,false⟩\/ev=⟨.obj b,false,false⟩\/ev=⟨.obj r,true,false⟩:=by
 have g1:=(gL (P:=P) hb #[]).1;have g2:=fun es=>(gL (P:=P) hb es).2;have i1:=(iS (P:=P) hi #[]).1;have i2:=fun es=>(iS (P:=P) hi es).2;intro ev h;unfold Instr.next at h
 simp only[Sem.events_bind,i1,i2,Result.evThen_ok,g1,g2]at h;split at h
 ·rw[Sem.events_bind]at h;have hu:∀(u:Unsupported) (w:World),∃x w',(unsupported u:Sem Unit).run P w=.halt x w':=fun u w=>⟨_,_,rfl⟩
  obtain⟨x,w',e⟩:=hu (.noEntry "instr/Next: every entry that the ranged map held at the last iteration is gone, and it holds new ones") w;rw[e]at h;simp[Result.evThen]at h;rcases h with h|h
  ·exact .inl h
  ·exact .inr (.inl h)
 ·generalize (_:Array (Option MapEntry))++_=C at h;have key:∀(j:Nat) (w':World),w'.heap=w.heap->ev∈(match C[j]? with|some (some e)=>(do setObj r (.mapIter (some b) s0 (seen.push e.born) cl);pure (Value.tuple #[Value.bool true,e.key,e.val]):Sem Value)|some none=>pure (Value.tuple #[Value.bool false])|none=>stuck "Next: no such candidate").events P w' ((#[].push (⟨.obj r,false,false⟩:Event)).push ⟨.obj b,false,false⟩)->ev=⟨.obj r,false,false⟩\/ev=⟨.obj b,false,false⟩\/ev=⟨.obj r,true,false⟩:=by
   intro j w' hw h;have hi':=hi;rw[<-hw]at hi';split at h
   ·rename_i e _;obtain⟨q1,w2,q2⟩:=EB (P:=P) hi' (some b) s0 cl (seen.push e.born) ((#[].push ⟨.obj r,false,false⟩).push ⟨.obj b,false,false⟩);rw[Sem.events_bind,q1,q2]at h;simp[Result.evThen]at h;rcases h with h|h|h
    ·exact .inl h
    ·exact .inr (.inl h)
    ·exact .inr (.inr h)
   ·simp at h;rcases h with h|h
    ·exact .inl h
    ·exact .inr (.inl h)
   ·have hs:(stuck "Next: no such candidate" :Sem Value).events P w' ((#[].push (⟨.obj r,false,false⟩:Event)).push ⟨.obj b,false,false⟩)=((#[].push (⟨.obj r,false,false⟩:Event)).push ⟨.obj b,false,false⟩):=rfl;rw[hs]at h;simp at h;rcases h with h|h
    ·exact .inl h
    ·exact .inr (.inl h)
  rw[Sem.events_bind,events_choose,run_choose]at h;split at h
  ·exact key _ w rfl h
  ·exact key _ {w with drawn:=w.drawn+1} rfl h
theorem K7{seen:Array Nat}(hi:w.heap[r]?=some (.mapIter (some b) s0 seen l))(hb:w.heap[b]?=some (.map en cl)):
 ∀ev∈(Instr.entry (.pointer (some ⟨r,0,none⟩))).events P w #[],ev=⟨.obj r,false,false⟩\/ev=⟨.obj b,false,false⟩:=by
 have g1:=(gL (P:=P) hb #[]).1;have g2:=fun es=>(gL (P:=P) hb es).2;have i1:=(iS (P:=P) hi #[]).1;have i2:=fun es=>(iS (P:=P) hi es).2;intro ev h;unfold Instr.entry at h;simp only[Sem.events_bind,i1,i2,Result.evThen_ok]at h;split at h
 ·rw[Sem.events_bind,g1,g2]at h;simp only[Result.evThen_ok]at h;have hu:∀(u:Unsupported) (w:World),∃x w',(unsupported u:Sem Unit).run P w=.halt x w':=fun u w=>⟨_,_,rfl⟩
  have fin:ev∈((#[].push ⟨.obj r,false,false⟩).push ⟨.obj b,false,false⟩:Array Event)->ev=⟨.obj r,false,false⟩\/ev=⟨.obj b,false,false⟩:=fun h=>by simpa using h
  split at h
  ·rw[Sem.events_bind]at h;obtain⟨x,w',e⟩:=hu (.noEntry "instr/Entry: an insertion since the step") w;rw[e]at h;exact fin h
  ·split at h<;>exact fin h
 ·exact .inl (by simpa using(show ev∈(#[].push ⟨.obj r,false,false⟩:Array Event)from h))
end
end
section
open Go.Maps (Keyed)
variable {main:Bool}{J:Jm}{L:eg}
theorem qM.aV{O0 O:au}{w0 w:World}(h:qM L O0 w0 O w){a:Addr}{v:Value}(hc:w0.cell? a=some v)(hx:L.Fx a.block):w.cell? a=some v:=h.rel.aV hc hx
structure iY(L:eg)(W w:World):Prop where
 le:W.heap.size<=w.heap.size
 blk:∀i,i<W.heap.size->L.Fx i->w.heap[i]?=W.heap[i]?
 live:Ea L.tw L.Wg W->Ea L.tw L.Wg w
theorem iY.of(h:RX L O W w):iY L W w:=⟨h.le,fun i hi hx=>h.blk i hi (.inr hx),h.live⟩
theorem iY.rely{w₁:World}(h:iY L W w)(r:RX L O w w₁):iY L W w₁:=⟨Nat.le_trans h.le r.le,fun i hi hx=>(r.blk i (Nat.lt_of_lt_of_le hi h.le) (.inr hx)).trans (h.blk i hi hx),r.live ∘ h.live⟩
theorem iY.aV(h:iY L w0 w)(hc:w0.cell? a=some v)(hx:L.Fx a.block):w.cell? a=some v:=by have hl:a.block<w0.heap.size:=za0 w0 _ hc;have:=h.blk a.block hl hx;rw[<-hc];unfold World.cell?;rw[this]
theorem vR(h:w.cell? a=some v):∃cs t fr,w.heap[a.block]?=some (.cells cs t fr):=by
 unfold World.cell? at h;split at h
 ·exact⟨_,_,_,by assumption⟩
 ·cases h
theorem iY.OI{w':World}(h:iY L W w)(t:dO r w w')(hr:¬L.Fx r)(hg:L.Wg≠r):iY L W w':=⟨by rw[t.size];exact h.le,fun i hi hx=>(t.other i fun e=>hr (e▸hx)).trans (h.blk i hi hx),fun x=>by obtain⟨st,sm,q⟩:=h.live x;exact⟨st,sm,(t.other _ hg).trans q⟩⟩
theorem Ji(T:bY R D){f:FuncId}{Post:au->Value->World->Prop}(hp:∀O v x y,Post O v x->R O x y->Post O v y)(O:au)(a:Act)(x y:World)
 (h:oF P main J R D dn f fn Post O .normal a x) (r:R O x y):oF P main J R D dn f fn Post O .normal a y:=by
 rcases h with⟨h1,v,h2,h3⟩|⟨d,f',cap,h1,h2,fnd,c,q1,q2,q3,q4⟩|⟨d,h1,h2⟩
 ·exact .inl ⟨h1,v,fun w₁ h₁=>h2 w₁ (T.trans _ _ _ _ r h₁),hp O v x y h3 r⟩
 ·exact .inr (.inl ⟨d,f',cap,h1,h2,fnd,c,q1,q2,q3,lq T q4 r⟩)
 ·exact .inr (.inr ⟨d,h1,fun b todo cs hb w₁ h₁=>h2 b todo cs hb w₁ (T.trans _ _ _ _ r h₁)⟩)
theorem DX.mine{cs:Array Value}{t:TypeId}{fr:Nat×Nat}(hb:w.heap[ab]?=some (.cells cs t fr))(o1 o2 o3:Nat)(v1 v2 v3:Value)(m1:L.Mn ⟨ab,o1,none⟩)(m2:L.Mn ⟨ab,o2,none⟩)(m3:L.Mn ⟨ab,o3,none⟩)(he:∀e∈es,Ec L O e):
 DX L O w (((w.setCell ⟨ab,o1,none⟩ v1).setCell ⟨ab,o2,none⟩ v2).setCell ⟨ab,o3,none⟩ v3) es:=by
 have hT:=((dO.cell ab o1 w v1).trans (dO.cell ab o2 _ v2)).trans (dO.cell ab o3 _ v3);refine⟨hT.tape,hT.os,hT.out,Nat.le_of_eq hT.size.symm,fun i hi hO=>?_,he⟩;by_cases e:i=ab
 ·subst e;refine .inr ⟨cs,((cs.setIfInBounds o1 v1).setIfInBounds o2 v2).setIfInBounds o3 v3,t,fr,hb,by simp[World.setCell,Array.getElem?_modify,hb],by simp,fun j hj=>?_⟩;have n1:o1≠j:=fun e=>hj (e▸m1);have n2:o2≠j:=fun e=>hj (e▸m2);have n3:o3≠j:=fun e=>hj (e▸m3);rw[za3 n3,za3 n2,za3 n1]
 ·exact .inl (hT.other i e)
structure JN(L:eg)(b0 b1 b2 b3 b4 qb pb ab:Nat)(key:ByteArray)(ms:List Int)(cb:Option Addr)(eN N lS i:Nat)(w:World):Prop where
 f0:L.Fx b0
 f1:L.Fx b1
 f2:L.Fx b2
 f3:L.Fx b3
 f4:L.Fx b4
 fq:L.Fx qb
 c0:w.cell? ⟨b0,0,none⟩=some (.pointer (some ⟨qb,0,none⟩))
 c1:w.cell? ⟨b1,0,none⟩=some (.string key)
 c2:w.cell? ⟨b2,0,none⟩=some (.slice cb ms.length eN)
 c3:w.cell? ⟨b3,0,none⟩=some (.slice (some ⟨ab,0,none⟩) N lS)
 c4:w.cell? ⟨b4,0,none⟩=some (.int .i64 (i:Nat))
 cq:w.cell? ⟨qb,0,none⟩=some (.pointer (some ⟨pb,0,none⟩))
theorem Nw(nl:Nat):∃n,∀(b0 b1 b2 b3 b4 qb pb ab kb:Nat) (f:Lit->Option Value) (vl:Int->List KV) (key:ByteArray) (ms:List Int) (cb:Option Addr) (eN N lS i:Nat) (O:au) (w:World),L.N<=w.heap.size->kY L pb kb f vl w->i<N->N<=8->¬L.Fx ab->L.Wg≠ab->(valueOf (vl (fC vl key ms)) key).size<=1000->Hid (∀j,j<3->L.Mn ⟨ab,i*3+j,none⟩/\(∃v,w.cell? ⟨ab,i*3+j,none⟩=some v)/\w.frozen? ⟨ab,i*3+j,none⟩=false)->
 JN L b0 b1 b2 b3 b4 qb pb ab key ms cb eN N lS i w->
 ms.length<=8->(∀m∈ms,0<=m/\m<=1000)->Hid (∀(k:Nat) (m:Int),ms[k]?=some m->∃g,L.Fx g/\cb=some ⟨g,0,none⟩/\w.cell? ⟨g,k,none⟩=some (.int .i64 m))->
 Es main J L pb nl->O.pos=.lk .uI 1->¬O.own pb->
 bu prog main J (RX L) (DX L) 80 #[.pointer (some ⟨b0,0,none⟩),.pointer (some ⟨b1,0,none⟩),.pointer (some ⟨b2,0,none⟩),.pointer (some ⟨b3,0,none⟩),.pointer (some ⟨b4,0,none⟩)] n O w fun O' v w'=>(O'.pos=.lk .out 0/\iY L w w')/\v=.tuple #[]/\w'.cell? ⟨ab,i*3,none⟩=some (.string key)/\w'.cell? ⟨ab,i*3+1,none⟩=some (.int .i64 (fC vl key ms))/\w'.cell? ⟨ab,i*3+2,none⟩=some (.string (valueOf (vl (fC vl key ms)) key)):=by
 obtain⟨ng,TU⟩:=Jj (main:=main) (J:=J) (L:=L) nl;obtain⟨na,han⟩:=vQ (main:=main) (J:=J) (L:=L);co_apply Exists.intro;intro b0 b1 b2 b3 b4 qb pb ab kb f vl key ms cb eN N lS i O w hN hP GQ UY hnf uF hvs hmn hB h8 uG hcell hlk hpos hno;have hF:qM L O w O w:=qM.refl hN;co_apply bz func80 (by rfl) rfl;walk_nrmf ntmps80;obtain⟨W,hW⟩:∃W,W=w:=⟨_,rfl⟩
 obtain⟨O1,hO⟩:∃O1,O1=O:=⟨_,rfl⟩
 rw[<-hW,<-hO]at hF⊢;rw[<-hW]at hP hcell hB hN hmn;rw[<-hO]at hpos hno;clear hW hO;(repeat(first|(co_apply bh;try co_then)));co_apply gp (ah L) DX.draw (c:=ng+Eb) (O0:=O1) (S:=iY L W) (by unfold Eb;omega) (by first|kernel_rfl|rfl);intro W1 hR;replace hF:=(hF.rely hR).rely (RX.draw _ _);clear hR;simp only[List.size_toArray,List.length_cons,List.length_nil,Nat.reduceAdd,Nat.zero_add];co_applyP Q6 (fun _ _ _ _ hx r=>iY.rely hx r) (fun _ _ _ _ h r=>lq (ah L) h r) hF.own (iY.of hF.rel);intro hb;(co_applyP BB hb (i:=0) rfl (by kernel_rfl) (by rfl) (fun _ _ hO hw=>?b4);(case b4=>((have hc:=iY.aV hw hB.c0 hB.f0);refine⟨fun K hK=>?_,?_⟩;(focus(go_simp;exact hK));(refine DX.still _ _ (cr (a:=⟨b0,0,none⟩) (.inl hB.f0) fun e he=>?_);have hm:=mem_listed he;simp[go_sem,hc]at hm;exact hm)));try walk_nrm);(co_applyP qu hb (i:=1) rfl (by kernel_rfl) (by rfl) (fun _ hw=>?b5);(case b5=>(refine⟨by simp[go_sem],fun K hK=>?_⟩;go_simp;exact hK));try walk_nrm);(co_applyP qu hb (i:=2) rfl (by kernel_rfl) (by rfl) (fun _ hw=>?b6);(case b6=>(refine⟨by simp[go_sem],fun K hK=>?_⟩;go_simp;exact hK));try walk_nrm);(co_applyP BB hb (i:=3) rfl (by kernel_rfl) (by rfl) (fun _ _ hO hw=>?b7);(case b7=>((have hc:=iY.aV hw hB.cq hB.fq);refine⟨fun K hK=>?_,?_⟩;(focus(go_simp;exact hK));(refine DX.still _ _ (cr (a:=⟨qb,0,none⟩) (.inl hB.fq) fun e he=>?_);have hm:=mem_listed he;simp[go_sem,hc]at hm;exact hm)));try walk_nrm);(co_applyP BB hb (i:=4) rfl (by kernel_rfl) (by rfl) (fun _ _ hO hw=>?b8);(case b8=>((have hc:=iY.aV hw hB.c1 hB.f1);refine⟨fun K hK=>?_,?_⟩;(focus(go_simp;exact hK));(refine DX.still _ _ (cr (a:=⟨b1,0,none⟩) (.inl hB.f1) fun e he=>?_);have hm:=mem_listed he;simp[go_sem,hc]at hm;exact hm)));try walk_nrm);(co_applyP BB hb (i:=5) rfl (by kernel_rfl) (by rfl) (fun _ _ hO hw=>?b9);(case b9=>((have hc:=iY.aV hw hB.c2 hB.f2);refine⟨fun K hK=>?_,?_⟩;(focus(go_simp;exact hK));(refine DX.still _ _ (cr (a:=⟨b2,0,none⟩) (.inl hB.f2) fun e he=>?_);have hm:=mem_listed he;simp[go_sem,hc]at hm;exact hm)));try walk_nrm);refine jR (rs:= [6]) (by kernel_rfl) (by simp) fun i hi=>?_;obtain rfl:i=6:=by simpa using hi
 refine .inr ⟨81,_,_,ng,_,Nat.le_refl _,rfl,by walk_nrm;exact TU pb kb f vl key ms cb eN _ _ hF.top (hP.rx hF.rel) h8 uG (fun k m hk=>by obtain⟨g,hg,e,hc⟩:=hcell.out k m hk;exact⟨g,hg,e,hF.aV hc hg⟩) hlk hpos hno,?_⟩;rintro O2 x W2 ⟨rfl,NV,hF2⟩;replace hF:=hF.trans hF2;clear hF2;refine⟨⟨hF.own,iY.of hF.rel⟩,?_⟩;walk_nrm;co_applyP Q6 (fun _ _ _ _ hx r=>iY.rely hx r) (fun _ _ _ _ h r=>lq (ah L) h r) hF.own (iY.of hF.rel);intro hb;(co_applyP qu hb (i:=7) rfl (by kernel_rfl) (by rfl) (fun _ hw=>?Vf);(case Vf=>(refine⟨by simp[go_sem],fun K hK=>?_⟩;go_simp;exact hK));try walk_nrm);(co_applyP qu hb (i:=8) rfl (by kernel_rfl) (by rfl) (fun _ hw=>?Vg);(case Vg=>(refine⟨by simp[go_sem],fun K hK=>?_⟩;go_simp;exact hK));try walk_nrm);(co_applyP qu hb (i:=9) rfl (by kernel_rfl) (by rfl) (fun _ hw=>?Vh);(case Vh=>(refine⟨by simp[go_sem],fun K hK=>?_⟩;go_simp;exact hK));try walk_nrm);(co_applyP qu hb (i:=10) rfl (by kernel_rfl) (by rfl) (fun _ hw=>?Vi);(case Vi=>(refine⟨by simp[go_sem],fun K hK=>?_⟩;go_simp;exact hK));try walk_nrm);(co_applyP qu hb (i:=11) rfl (by kernel_rfl) (by rfl) (fun _ hw=>?Vj);(case Vj=>(refine⟨by simp[go_sem],fun K hK=>?_⟩;go_simp;exact hK));try walk_nrm);refine kR (by kernel_rfl) ?_ _;co_then;have hQR:=Ji (main:=main) (P:=prog) (J:=J) (ah L) (dn:=0) (f:=80) (fn:=Tryz.f80) (Post:=fun O' v w'=>(O'.pos=.lk .out 0/\iY L W w')/\v=.tuple #[]/\w'.cell? ⟨ab,i*3,none⟩=some (.string key)/\w'.cell? ⟨ab,i*3+1,none⟩=some (.int .i64 (fC vl key ms))/\w'.cell? ⟨ab,i*3+2,none⟩=some (.string (valueOf (vl (fC vl key ms)) key)))
  (fun _ _ x y h r=>⟨⟨h.1.1,h.1.2.rely r⟩,h.2.1,(r.mn _ (hmn.out 0 (by omega)).1).1.trans h.2.2.1,(r.mn _ (hmn.out 1 (by omega)).1).1.trans h.2.2.2.1,(r.mn _ (hmn.out 2 (by omega)).1).1.trans h.2.2.2.2⟩)
 co_apply gp (ah L) DX.draw (c:=na+Eb) (O0:=O1) (S:=iY L W) (by unfold Eb;omega) (by first|kernel_rfl|rfl);intro W3 hR;replace hF:=(hF.rely hR).rely (RX.draw _ _);clear hR;simp only[List.size_toArray,List.length_cons,List.length_nil,Nat.reduceAdd,Nat.zero_add];co_applyP Q6 (fun _ _ _ _ hx r=>iY.rely hx r) hQR hF.own (iY.of hF.rel);intro hb;(co_applyP BB hb (i:=0) rfl (by kernel_rfl) (by rfl) (fun _ _ hO hw=>?b16);(case b16=>((have hc:=iY.aV hw hB.c3 hB.f3);refine⟨fun K hK=>?_,?_⟩;(focus(go_simp;exact hK));(refine DX.still _ _ (cr (a:=⟨b3,0,none⟩) (.inl hB.f3) fun e he=>?_);have hm:=mem_listed he;simp[go_sem,hc]at hm;exact hm)));try walk_nrm);(co_applyP BB hb (i:=1) rfl (by kernel_rfl) (by rfl) (fun _ _ hO hw=>?b17);(case b17=>((have hc:=iY.aV hw hB.c4 hB.f4);refine⟨fun K hK=>?_,?_⟩;(focus(go_simp;exact hK));(refine DX.still _ _ (cr (a:=⟨b4,0,none⟩) (.inl hB.f4) fun e he=>?_);have hm:=mem_listed he;simp[go_sem,hc]at hm;exact hm)));try walk_nrm);(co_applyP BB hb (i:=2) rfl (by kernel_rfl) (by rfl) (fun _ _ hO hw=>?b18);(case b18=>((have hc:=iY.aV hw hB.c1 hB.f1);refine⟨fun K hK=>?_,?_⟩;(focus(go_simp;exact hK));(refine DX.still _ _ (cr (a:=⟨b1,0,none⟩) (.inl hB.f1) fun e he=>?_);have hm:=mem_listed he;simp[go_sem,hc]at hm;exact hm)));try walk_nrm);(co_applyP qu hb (i:=3) rfl (by kernel_rfl) (by rfl) (fun _ hw=>?b19);(case b19=>(refine⟨by simp[go_sem],fun K hK=>?_⟩;go_simp;exact hK));try walk_nrm);(co_applyP qu hb (i:=4) rfl (by kernel_rfl) (by rfl) (fun _ hw=>?b20);(case b20=>(refine⟨by simp[go_sem],fun K hK=>?_⟩;go_simp;exact hK));try walk_nrm);refine jR (rs:= [5]) (by kernel_rfl) (by simp) fun i hi=>?_;obtain rfl:i=5:=by simpa using hi
 refine .inr ⟨78,_,_,na,_,Nat.le_refl _,rfl,by walk_nrm;exact han key (fC vl key ms) _ _ _ hvs hF.top,?_⟩;rintro O3 x W4 ⟨rfl,hF2⟩;have aa1:=hF2.gh.1.trans NV;replace hF:=hF.trans hF2.Q2;clear hF2;refine⟨⟨hF.own,iY.of hF.rel⟩,?_⟩;walk_nrm;co_applyP Q6 (fun _ _ _ _ hx r=>iY.rely hx r) hQR hF.own (iY.of hF.rel);intro hb;(co_applyP qu hb (i:=6) rfl (by kernel_rfl) (by rfl) (fun _ hw=>?b21);(case b21=>(refine⟨by simp[*,go_sem],fun K hK=>?_⟩;go_simp;exact hK));try walk_nrm);refine jR (rs:= [7]) (by kernel_rfl) (by simp) fun i hi=>?_;obtain rfl:i=7:=by simpa using hi
 refine .inl fun W5 h5=>?_;replace hF:=hF.rely h5;obtain⟨m0,⟨v0,q0⟩,z0⟩:=hmn.out 0 (by omega);obtain⟨m1,⟨v1,q1⟩,z1⟩:=hmn.out 1 (by omega);obtain⟨m2,⟨v2,q2⟩,z2⟩:=hmn.out 2 (by omega);simp only[Nat.add_zero]at m0 q0 z0;replace q0:=(hF.rel.mn _ m0).1.trans q0;replace z0:=(hF.rel.mn _ m0).2.trans z0;replace q1:=(hF.rel.mn _ m1).1.trans q1;replace z1:=(hF.rel.mn _ m1).2.trans z1;replace q2:=(hF.rel.mn _ m2).1.trans q2;replace z2:=(hF.rel.mn _ m2).2.trans z2;go_simp;try(unfold stored;go_simp)
 obtain⟨cs,t,fr,hbk⟩:=vR q0;have hT:=((dO.cell ab (i*3) W5 (.string key)).trans (dO.cell ab (i*3+1) _ (.int .i64 (fC vl key ms)))).trans (dO.cell ab (i*3+2) _ (.string (valueOf (vl (fC vl key ms)) key)));refine⟨DX.mine hbk _ _ _ _ _ _ m0 m1 m2 fun e he=>?_,⟨fun j hj=>.inl (hF.own j hj),(iY.of hF.rel).OI hT hnf uF⟩,?_⟩
 ·have hm:=mem_listed he;have E0:=fun es=>lp (P:=prog) (v:=.string key) q0 z0 rfl es;have p2:((W5.setCell ⟨ab,i*3,none⟩ (.string key)).setCell ⟨ab,i*3+1,none⟩ (.int .i64 (fC vl key ms))).cell? ⟨ab,i*3+2,none⟩=some v2:=by rw[za1 _ _ _ _ (by simp),za1 _ _ _ _ (by simp)];exact q2
  have r2:((W5.setCell ⟨ab,i*3,none⟩ (.string key)).setCell ⟨ab,i*3+1,none⟩ (.int .i64 (fC vl key ms))).frozen? ⟨ab,i*3+2,none⟩=false:=by rw[World.frozen?_setCell,World.frozen?_setCell];exact z2
  have E2:=fun es=>lp (P:=prog) (v:=.string (valueOf (vl (fC vl key ms)) key)) p2 r2 rfl es;simp[go_sem, *]at hm;rcases hm with rfl|rfl|rfl
  ·exact⟨rfl,.inl ⟨_,rfl,.inr (.inl m0)⟩⟩
  ·exact⟨rfl,.inl ⟨_,rfl,.inr (.inl m1)⟩⟩
  ·exact⟨rfl,.inl ⟨_,rfl,.inr (.inl m2)⟩⟩
 ·refine kR (by kernel_rfl) ?_ _;have p1:(W5.setCell ⟨ab,i*3,none⟩ (.string key)).cell? ⟨ab,i*3+1,none⟩=some v1:=by rw[za1 _ _ _ _ (by simp)];exact q1
  have p2:((W5.setCell ⟨ab,i*3,none⟩ (.string key)).setCell ⟨ab,i*3+1,none⟩ (.int .i64 (fC vl key ms))).cell? ⟨ab,i*3+2,none⟩=some v2:=by rw[za1 _ _ _ _ (by simp),za1 _ _ _ _ (by simp)];exact q2
  refine .inl ⟨rfl,_,bP (ah L) (resultsC_none (by rfl) _),⟨aa1,(iY.of hF.rel).OI hT hnf uF⟩,rfl,?_,?_,?_⟩
  ·rw[za1 _ _ _ _ (by simp),za1 _ _ _ _ (by simp)];exact za2 _ _ _ q0
  ·rw[za1 _ _ _ _ (by simp)];exact za2 _ _ _ p1
  ·exact za2 _ _ _ p2
end
end Go.Proofs.YteoahlieielcdaaGreat
