import Derived.Test.YteoahlieielcdaaGreatX4
import Derived.Test.YteoahlieielcdaaGreatPrF2
set_option linter.all false
set_option maxHeartbeats 4000000
set_option maxRecDepth 100000
open Option renaming some->Y,none->F,getD_some->aa0
open Bool renaming false->E,true->Z6
open Exists renaming intro->aa1
open Go.World renaming cell?->ad3,frozen?_setCell->ar3
open Go.Region renaming wanted->ac3
open BitVec renaming ofInt->ad0
open Go renaming execOp->ad6,run_underlying->ah1,yielded->ai5,run_convert_to_unsafe->ap2,events_underlying->aq4
open Go.Conc renaming mem_listed->ad5,listed_nil->ai1,resultsC_tmp->am8,events_convert_to_unsafe->an5,resultsC_none->ap3,stepG_mark0->av5,resultsC_tmp2->bh1
open Go.Sem renaming events_bind->ag9,run->ak0,run_bind->ba9,events->bb9,run_pure->bf2,events_pure->bf3
open Go.Act renaming eval->ah6
open Go.Result renaming evThen_ok->ai0,andThen->aj7,evThen->at1
open Go.Value renaming nilIface->an3,iface->bg1
open Nat renaming zero_le->ak8,zero_add->am9,reduceAdd->at3,add_zero->au3
open Go.Instr renaming entry->aq1,checkKey->aq5,lookup->aq7,findKey->au5,findAsking->av3
open Go.Op renaming equalIn->ar5
open Go.BinOp renaming eql->bd8
open Go.Obj renaming isChan->be1
namespace Go.Proofs.YteoahlieielcdaaGreat
open Go.Proofs.Tryz
abbrev zbe:=@Nat.le_refl
abbrev zbf:=@List.getElem?_eq_getElem
abbrev zbg:=@World.block_lt_of_cell?
abbrev zbh:=@World.cell?_setCell_other
abbrev zbi:=@World.cell?_setCell_same
abbrev zbj:=@Array.getElem?_setIfInBounds_ne
abbrev zbk:=@List.take_of_length_le
variable{P:aB}{w w0 w₁ w' W:af}{a:aA}{x:aD}{v:aj}{en:Array MapEntry}{cl r pb kb i nf n b s0 l cnt dn ab:Nat}{O:aL}{es:Array aC}{f:Lit->Option aj}{vl:Int->List KV}{o:Oper}{fn' fn:Func}{D:DataW aj}{m:Option Nat}
section
open Go Go.Conc Go.RowKit Go.MuLone
variable {main:Bool}{J:Jm}{L:eI}
def Vf:∃n,∀(s:ah) (O:aL) (w:af),s.size<=1000->L.N<=w.heap.size->
 bG prog main J (RX L) (DX L) 85 #[.string s] n O w λO' v w'=>v=.string s/\bJ L O w O' w':=by obtain⟨nc,hc⟩:=Nz (main:=main) (J:=J) (L:=L);co_apply aa1;intro s O w hs hN;have hF:bJ L O w O w:=bJ.refl hN;co_apply bH func85 Ym rfl;walk_nrmf ntmps85;generalize hW:w=W at hF⊢;generalize hO:O=O1 at hF⊢;co_apply (yJ);intro _ hF;co_apply bX (aF L) rfl Ym rfl (by walk_nrm;exact hc s _ _ hs hF.top);rintro O' v w' ⟨rfl,Xw⟩;replace Xw:=hF.trans Xw;walk_nrm;(repeat(first|co_apply BJ|(co_apply (vu);intro _ hR;replace Xw:=Xw.rely hR;clear hR;refine⟨by simp[*,go_sem],λK z=>?_⟩;go_simp;refine z _ ?_;clear z K;try walk_nrm)|((first|co_apply yK|co_apply yL|co_apply yc);try co_then)));exact .inl ⟨rfl,_,bW (aF L) (am8 Ym _),rfl,by subst hW;subst hO;exact Xw⟩
def D3(w:af)(a:aA)(n i:Nat)(acc:Array aj)(es:Array aC)(hc:∀j,j<n->∃u,w.cell? (a.add (i+j))=Y u):
 ∀ev∈(loadCellsFrom a i n acc).events P w es,ev∈es\/∃ad,ev=⟨.cell ad,E,E⟩/\ad.block=a.block:=by
 induction n generalizing i acc es with
 |zero=>exact λev h=>.inl (by simpa[loadCellsFrom]using h)
 |succ n ih=>
  intro ev h;obtain⟨u,hu⟩:=hc 0 I;simp only[au3]at hu;simp only[loadCellsFrom,ag9,run_load,hu,ai0,events_load]at h;rcases ih (i+1) _ _ (λj hj=>by have:=hc (j+1) I;rwa [show i+(j+1)=i+1+j by omega]at this) ev h with h|h
  ·rcases Array.mem_push.1 h with h|rfl
   ·exact .inl h
   ·exact .inr ⟨_,rfl,by unfold Addr.add;split<;>rfl⟩
  ·exact .inr h
def J5(w:af)(a:aA)(ty:az)(s:Nat)(d:TypeDesc)(hu:P.underlying ty=Y d)(hd:(match d with|.struct _|.array _ _=>Z6|_=>E)=Z6)(hi:(P.info? ty).map (·.size)=Y s)
 (hc:∀j,j<s->∃u,w.cell? (a.add j)=Y u):∀ev∈(loadVar ty a).events P w #[],∃ad,ev=⟨.cell ad,E,E⟩/\ad.block=a.block:=by
 intro ev h;have hia:(isAgg ty).run P w=.ok Z6 w:=by unfold isAgg;rw[ba9,ah1 hu];cases d<;>first|rfl|cases hd
 obtain⟨i,hq,hs⟩:=Option.map_eq_some_iff.1 hi;have hsz:(sizeOf ty).run P w=.ok s w:=by simp[sizeOf,typeInfo,hq,hs]
 have key:=D3 (P:=P) w a s 0 #[] #[] (λj hj=>by rw[am9];exact hc j hj);simp only[loadVar,ag9,hia,ai0,events_isAgg,if_true,hsz,events_sizeOf,bf3,loadCells]at h;cases hr:(loadCellsFrom a 0 s #[]).run P w<;>rw[hr]at h<;>simp only[at1]at h<;>exact(key ev h).elim (λx=>by simp at x) id
def lA{x:aj}(hc:w.cell? a=Y x)(hf:w.frozen? a=E)(h1:v.oneCell'=Z6)(es:Array aC):(store a v).events P w es=es.push ⟨.cell a,Z6,E⟩:=by rw[events_store P w es a v .plain h1,hc];simp only[hf,Bool.false_eq_true,if_false];rfl
def ep.cell(r o:Nat)(w:af)(v:aj):ep r w (w.setCell ⟨r,o,F⟩ v):=⟨rfl,rfl,rfl,by simp[World.setCell],λi hi=>by simp[World.setCell,Array.getElem?_modify,Ne.symm hi]⟩
def ep.trans{r:Nat}{a b c:af}(h:ep r a b)(h':ep r b c):ep r a c:=⟨h'.tape.trans h.tape,h'.os.trans h.os,h'.out.trans h.out,h'.size.trans h.size,λi hi=>(h'.other i hi).trans (h.other i hi)⟩
def wI:∃n,∀(k:ah) (c:Int) (v:ah) (O:aL) (w:af),v.size<=1000->L.N<=w.heap.size->
 bG prog main J (RX L) (DX L) 78 #[.string k,.int .i64 c,.string v] n O w λO' x w'=>x=.agg #[.string k,.int .i64 c,.string v]/\bJ L O w O' w':=by
 obtain⟨nc,hc⟩:=Vf (main:=main) (J:=J) (L:=L);co_apply aa1;intro k c v O w hs hN;have hF:bJ L O w O w:=bJ.refl hN;co_apply bH func78 Ym rfl;walk_nrmf ntmps78;generalize hW:w=W at hF⊢;generalize hO:O=O1 at hF⊢;(first|co_apply yK|co_apply yL|co_apply yc);co_apply BJ;co_apply bM rfl Ym;intro W1 hR K hK;replace hF:=bJ.rely hF hR;clear hR;go_simp;refine hK _ _ ⟨?_,?_⟩
 ·rw[ai1 YU];exact DX.alloc _ _ _
 clear hK K;try walk_nrm
 have hr:w.heap.size<=W1.heap.size:=by rw[hW];exact hF.rel.le
 have hG:bJ L O1 W (O1.grow W1 (W1.alloc (.cells #[.string ⟨#[]⟩,.int .i64 0,.string ⟨#[]⟩] 62))) (W1.alloc (.cells #[.string ⟨#[]⟩,.int .i64 0,.string ⟨#[]⟩] 62))/\OB W1.heap.size (.cells #[.string ⟨#[]⟩,.int .i64 0,.string ⟨#[]⟩] 62) (O1.grow W1 (W1.alloc (.cells #[.string ⟨#[]⟩,.int .i64 0,.string ⟨#[]⟩] 62))) (W1.alloc (.cells #[.string ⟨#[]⟩,.int .i64 0,.string ⟨#[]⟩] 62)):=⟨hF.alloc _,OB.new _ _ _⟩
 clear hF;generalize (O1.grow W1 (W1.alloc (.cells #[.string ⟨#[]⟩,.int .i64 0,.string ⟨#[]⟩] 62)))=O2 at hG⊢;generalize (W1.alloc (.cells #[.string ⟨#[]⟩,.int .i64 0,.string ⟨#[]⟩] 62))=W2 at hG⊢;generalize W1.heap.size=r at hG hr⊢;have rl:∀{O2:aL} {o:Obj} {Wa Wb:af},(bJ L O1 W O2 Wa/\OB r o O2 Wa)->RX L O2 Wa Wb->(bJ L O1 W O2 Wb/\OB r o O2 Wb):=λh x=>⟨h.1.rely x,h.2.rely x⟩
 (first|co_apply yK|co_apply yL|co_apply yc);co_then;(first|co_apply yK|co_apply yL|co_apply yc);co_apply BJ;co_apply (oZ);intro _ hG;co_apply (oZ);intro _ hG;co_apply (oZ);intro _ hG;co_apply bX (aF L) rfl Ym rfl (by walk_nrm;exact hc v _ _ hs hG.1.top);rintro O3 x W3 ⟨rfl,KW⟩;have hH:bJ L O1 W O3 W3/\OB r (.cells #[.string ⟨#[]⟩,.int .i64 0,.string ⟨#[]⟩] 62) O3 W3:=⟨hG.1.trans KW,hG.2.ya KW⟩
 clear hG KW;walk_nrm;(co_apply (vu);intro _ hR;replace hH:=rl hH hR;clear hR;refine⟨YU,λK z=>?_⟩;go_simp;refine z _ ?_;clear z K;try walk_nrm);co_apply bM rfl Ym;intro W4 hR K hK;replace hH:=rl hH hR;clear hR;have hA:aT W4 r #[.string ⟨#[]⟩,.int .i64 0,.string ⟨#[]⟩] 62:=hH.2.heap;have t0:=hA.cell (o:=0) (v:=.string ⟨#[]⟩) rfl;have t1:=hA.cell (o:=1) (v:=.int .i64 0) rfl;have t2:=hA.cell (o:=2) (v:=.string ⟨#[]⟩) rfl;have g0:=hA.frozen 0;have g1:=hA.frozen 1;have g2:=hA.frozen 2;go_simp;try(unfold stored;go_simp)
 refine hK _ _ ⟨?_,?_⟩
 ·refine DX.own hH.2.own (((ep.cell r 0 W4 _).trans (ep.cell r 1 _ _)).trans (ep.cell r 2 _ _)) (cW (b:=Z6) hH.2.own λe he=>?_);have hm:=ad5 he;have E0:=λes=>lA (P:=prog) (v:=.string k) t0 g0 rfl es;have hA2:=(hA.set 0 (.string k)).set 1 (.int .i64 c);have E2:=λes=>lA (P:=prog) (v:=.string v) (hA2.cell (o:=2) (v:=.string ⟨#[]⟩) rfl) (hA2.frozen 2) rfl es;simp[go_sem, *]at hm;rcases hm with rfl|rfl|rfl<;>exact⟨_,rfl,rfl⟩
 clear hK K;have Eu:aT (((W4.setCell ⟨r,0,F⟩ (.string k)).setCell ⟨r,1,F⟩ (.int .i64 c)).setCell ⟨r,2,F⟩ (.string v)) r #[.string k,.int .i64 c,.string v] 62:=by simpa using((hA.set 0 (.string k)).set 1 (.int .i64 c)).set 2 (.string v)
 have hT:=((ep.cell r 0 W4 (.string k)).trans (ep.cell r 1 _ (.int .i64 c))).trans (ep.cell r 2 _ (.string v));have hE:bJ L O1 W O3 (((W4.setCell ⟨r,0,F⟩ (.string k)).setCell ⟨r,1,F⟩ (.int .i64 c)).setCell ⟨r,2,F⟩ (.string v))/\OB r (.cells #[.string k,.int .i64 c,.string v] 62) O3 (((W4.setCell ⟨r,0,F⟩ (.string k)).setCell ⟨r,1,F⟩ (.int .i64 c)).setCell ⟨r,2,F⟩ (.string v)):=
  ⟨hT.ya hH.1 (by rw[<-hW];exact hr),hH.2.own,Eu⟩
 rw[O3.dG hT.size];clear hH hA Eu t0 t1 t2 g0 g1 g2 hT;generalize (((W4.setCell ⟨r,0,F⟩ (.string k)).setCell ⟨r,1,F⟩ (.int .i64 c)).setCell ⟨r,2,F⟩ (.string v))=W5 at hE⊢;try walk_nrm
 (repeat(first|co_apply BJ|(co_apply (vu);intro _ hR;replace hE:=rl hE hR;clear hR;refine⟨by simp[*,go_sem],λK z=>?_⟩;go_simp;refine z _ ?_;clear z K;try walk_nrm)|((first|co_apply yK|co_apply yL|co_apply yc);try co_then)));refine .inl ⟨rfl,_,?_,rfl,by subst hW;subst hO;exact hE.1⟩;intro W7 h7;have h8:=rl hE h7;have hB:aT W7 r #[.string k,.int .i64 c,.string v] 62:=h8.2.heap;refine⟨results_cell_row rfl _ _ r _ _ (0,0) _ rfl hB underlying62 rfl Dr,DX.still _ _ (cW (b:=E) h8.2.own λe he=>?_)⟩;have hm:=mem_seen he;have hm2:e∈(loadVar 62 ⟨r,0,F⟩).events prog W7 #[]:=by have hfr:(f78).results=#[.cell 6 62]:=rfl;have hrv:=run_loadVar_row (P:=prog) W7 r 62 62 _ (0,0) _ hB underlying62 rfl Dr;simpa[results,hfr,asAddr,hrv]using hm
 exact J5 (P:=prog) W7 ⟨r,0,F⟩ 62 3 _ underlying62 rfl Dr (λj hj=>by
  have:j=0\/j=1\/j=2:=I
  rcases this with rfl|rfl|rfl
  ·exact⟨_,hB.cell (o:=0) rfl⟩
  ·exact⟨_,hB.cell (o:=1) rfl⟩
  ·exact⟨_,hB.cell (o:=2) rfl⟩) e hm2
end
section
open Go Go.Conc Go.RowKit Go.MuLone
section
variable {P:aB}{t:az}{q:IntKind}
def D4(hu:P.underlying t=Y (.int q))(k:IntKind)(n:Int)(y:aj)(w:af)(es:Array aC):(Op.equal t (.int k n) y).events P w es=es:=by
 show (ar5 (9999+1) t (.int k n) y).events P w es=es;rw[ar5];rw[ag9,ah1 hu];simp only[ai0,aq4];repeat' split
 all_goals first|rfl|simp_all
def BA(hu:P.underlying t=Y (.int q))(k:IntKind)(n:Int)(l:List MapEntry)(i:Nat)(w:af)(es:Array aC):(av3 t (.int k n) l i).events P w es=es:=by
 induction l generalizing i w es with
 |nil=>rfl
 |cons e l ih=>
  rw[av3,ag9,D4 hu k n];cases (Op.equal t (.int k n) e.key).run P w with
  |ok b w'=>cases b<;>simp[ih]
  |halt h w'=>rfl
def J6(hu:P.underlying t=Y (.int q))(k:IntKind)(n:Int)(l:List MapEntry)(w:af)(es:Array aC):(au5 t (.int k n) l).events P w es=es:=by
 rw[au5,ag9,ah1 hu];simp only[ai0,aq4];split
 ·rfl
 ·exact BA hu k n _ _ _ _
def Gz(hu:P.underlying t=Y (.int q))(k:IntKind)(n:Int)(b:Bool)(w:af)(es:Array aC):(aq5 b 10000 t (.int k n)).events P w es=es:=by show (aq5 b (9999+1) t (.int k n)).events P w es=es;rw[aq5,ag9,ah1 hu];simp only[ai0,aq4];rfl
def NA(hu:P.underlying t=Y (.int q))(k:IntKind)(n:Int){mt e:az}(ht:P.underlying mt=Y (.map t e))(b:Nat)(w:af)(hb:w.heap[b]?=Y (.map en cl)):
 ∀ev∈(aq7 mt (.map (Y b)) (.int k n) E).events P w #[],ev=⟨.obj b,E,E⟩:=by
 intro ev h;have g1:(getObj b).run P w=.ok (.map en cl) w:=by simp[getObj,ak0,hb]
 have g2:(getObj b).events P w #[]=#[⟨.obj b,E,E⟩]:=by simp only[getObj,bb9,Sem.runT,hb,be1];rfl
 unfold aq7 at h;simp only[ag9,ah1 ht,ai0,aq4,g1,g2,bf2,bf3,Gz hu k n]at h;cases hc:(aq5 en.isEmpty 10000 t (.int k n)).run P w with
 |halt x w'=>rw[hc]at h;simpa[at1]using h
 |ok u w1=>
  rw[hc]at h;simp only[ai0,J6 hu k n]at h;cases hf:(au5 t (.int k n) en.toList).run P w1 with
  |halt x w'=>rw[hf]at h;simpa[at1,aj7]using h
  |ok r w2=>
   rw[hf]at h;cases r with
   |none=>
    simp only[ai0,ag9,events_zeroValue]at h;revert h;cases (zeroValue e).run P w2<;>simp[at1]
   |some p=>simpa using h
end
end
section
open Go Go.Conc Go.RowKit Go.MuLone
open Go.Maps (Keyed)
variable {main:Bool}{J:Jm}{L:eI}
def RX.cell{O:aL}{w0 w:af}(h:RX L O w0 w){a:aA}{v:aj}(hc:w0.cell? a=Y v)(hx:L.og a):w.cell? a=Y v:=(h.Hw a hx).trans hc
def RX.bg(h:RX L O w0 w)(hc:w0.cell? a=Y v)(hx:L.Fx a.block):w.cell? a=Y v:=by have hl:a.block<w0.heap.size:=zbg w0 _ hc;have:=h.blk a.block hl (.inr hx);rw[<-hc];unfold ad3;rw[this]
def bJ.cell{O0 O:aL}{w0 w:af}(h:bJ L O0 w0 O w){a:aA}{v:aj}(hc:w0.cell? a=Y v)(hx:L.og a):w.cell? a=Y v:=h.rel.cell hc hx
def bJ.bg{O0 O:aL}{w0 w:af}(h:bJ L O0 w0 O w){a:aA}{v:aj}(hc:w0.cell? a=Y v)(hx:L.Fx a.block):w.cell? a=Y v:=h.rel.bg hc hx
def cL(h:L.Fx a.block\/L.og a)(he:∀e∈es,e=⟨.cell a,E,E⟩):∀e∈es,Es L O e:=by intro e hm;rw[he e hm];exact⟨rfl,.inl ⟨a,rfl,.inr (.inr ⟨h,rfl⟩)⟩⟩
def HP{g:Nat}(h:L.Fx g)(he:∀e∈es,∃ad,e=⟨.cell ad,E,E⟩/\ad.block=g):∀e∈es,Es L O e:=by intro e hm;obtain⟨ad,rfl,hb⟩:=he e hm;exact⟨rfl,.inl ⟨ad,rfl,.inr (.inr ⟨.inl (hb▸h),rfl⟩)⟩⟩
def Vg(h:L.Fx r)(he:∀e∈es,e=⟨.obj r,E,E⟩):∀e∈es,Es L O e:=by intro e hm;rw[he e hm];exact⟨rfl,.inr ⟨r,rfl,.inr ⟨h,rfl⟩⟩⟩
def GA(x y:aj)(w:af)(es:Array aC):(Instr.field 214 (.agg #[x,y]) 0).events prog w es=es:=by simp[Instr.field,asAgg,ah1 underlying214,part]
def Vh:∃n,∀(pb kb:Nat) (f:Lit->Option aj) (m:Int) (key:ah) (ad:Option aA) (Ls:List KV) (cap:Nat) (sv:aj) (O:aL) (w:af),L.N<=w.heap.size->
 L.og ⟨pb,2,F⟩->L.Fx kb->w.cell? ⟨pb,2,F⟩=Y (.map (Y kb))->aS w prog 3 kb f->-9223372036854775808<=m->m<=9223372036854775807->
 (f (.int .i64 m)).getD (.agg #[.slice F 0 0,.nilIface])=.agg #[.slice ad Ls.length cap,sv]->Ls.length<=8->
 Hid (∀(k:Nat) (x:KV),Ls[k]?=Y x->∃g,L.Fx g/\ad=Y ⟨g,0,F⟩/\w.cell? ⟨g,k*2,F⟩=Y (.string x.1)/\w.cell? ⟨g,k*2+1,F⟩=Y (.string x.2))->
 bG prog main J (RX L) (DX L) 115 #[ptr pb,.int .i64 m,.string key] n O w λO' v w'=>v=.tuple #[.string (valueOf Ls key),.bool (aN Ls key)]/\bJ L O w O' w':=by
 co_apply aa1;intro pb kb f m key ad Ls cap sv O w hN x1 x2 c1 hM h1 h2 hf h8 hcell;have hF:bJ L O w O w:=bJ.refl hN;have hfi:=zF (.slice ad Ls.length cap) sv;obtain⟨fv,aP⟩:∃fv,f (.int .i64 m)=fv:=⟨_,rfl⟩
 rw[aP]at hf;unfold ptr;co_apply bH func115 Ym rfl;walk_nrmf ntmps115;obtain⟨W,hW⟩:∃W,W=w:=⟨_,rfl⟩
 obtain⟨O1,hO⟩:∃O1,O1=O:=⟨_,rfl⟩
 rw[<-hW,<-hO]at hF⊢;co_apply (iw);co_apply (kJ);intro _ hF;co_apply (kJ);intro _ hF;co_apply (iw);co_apply (kJ);intro _ hF;co_apply (kJ);intro _ hF;co_apply (kJ);intro _ hF;(co_apply aO rfl Ym;intro _ hR K hK;replace hF:=bJ.rely hF hR;clear hR;(have hc:=hF.cell (hW▸c1) x1);go_simp;refine hK _ ⟨?_,?_⟩;(focus(refine DX.still _ _ (cL (.inr x1) λe he=>?_);have hm:=ad5 he;simp[go_sem,hc]at hm;exact hm));clear hK K;try walk_nrm);clear hc;co_apply (kJ);intro _ hF;co_apply aO rfl Ym;intro W2 hR K hK;replace hF:=bJ.rely hF hR;clear hR;have xL:aS W2 prog 3 kb f:=hM.of_eq (by have:=hF.rel.blk kb (by rw[hW];exact hM.lt) (.inr x2);rw[this,hW]);have hlk:=xL.look eV underlying199 (nD W2) (ap1 h1 h2);rw[aP,hf]at hlk;go_simp;refine hK _ ⟨?_,?_⟩
 ·obtain⟨nn,DD,⟨en,cl,hb,_⟩,_⟩:=xL;refine DX.still _ _ (Vg x2 λe he=>?_);have hm:=ad5 he;have key:=NA (P:=prog) underlying3 .i64 m underlying199 kb W2 hb e;simp[go_sem]at hm;exact key hm
 clear hK K hlk xL;try walk_nrm
 (co_apply aO rfl Ym;intro _ hR K hK;replace hF:=bJ.rely hF hR;clear hR;(skip);go_simp;refine hK _ ⟨?_,?_⟩;(focus(rw[ai1 (by simp[go_sem,GA])];exact DX.idle _ _));clear hK K;try walk_nrm);co_apply (kJ);intro _ hF;co_apply (kJ);intro _ hF;co_apply (iw);co_apply mY (aF L) (N:=8) (λj O a w=>∃(k:Nat) (s9 s19 s20 s21 s22 s23 s24 s25 s26 s27 s28:aj),k<=Ls.length/\j=8-k/\a=⟨#[.pointer (Y ⟨pb,0,F⟩),.int .i64 m,.string key,undef,undef,undef,.string ⟨#[]⟩,.bool E,undef,s9,.pointer (Y ⟨pb,0,F⟩),.pointer (Y ⟨pb,0,F⟩),.pointer (Y ⟨pb,2,F⟩),.map (Y kb),.int .i64 m,.agg #[.slice ad Ls.length cap,sv],.slice ad Ls.length cap,.int .i64 Ls.length,.int .i64 k,s19,s20,s21,s22,s23,s24,s25,s26,s27,s28], []⟩/\bJ L O1 W O w/\Hid (∀j y,j<k->Ls[j]?=Y y->y.1≠key)) _
 ·exact⟨0,_,_,_,_,_,_,_,_,_,_,_,ak8 _,rfl,rfl,hF,λj y hj=>I⟩
 clear hF;rintro j O2 act W3 ⟨k,s9,s19,s20,s21,s22,s23,s24,s25,s26,s27,s28,hk,rfl,rfl,hF,HO⟩;co_apply (iw);co_apply (kJ);intro _ hF;co_apply (iw);(co_apply aW (aF L) (t:=(decide ((k:Int)< (Ls.length:Int))));focus(simp[ah6]))
 ·intro ht;have hlt:k<Ls.length:=by simpa using ht
  have hx:Ls[k]?=Y Ls[k]:=zbf hlt;obtain⟨g,hg,rfl,ck,cv⟩:=hcell.out k _ hx;have H1:Hid (aN Ls key=Z6->valueOf Ls key=Ls[k].2->True):=λ_ _=>trivial;generalize Ls[k]=x at hx ck cv H1;obtain⟨kk,vv⟩:=x;simp only at ck cv;have rlv:∀{O:aL} {Wa Wb:af},(bJ L O1 W O Wa/\Wa.cell? ⟨g,k*2,F⟩=Y (.string kk)/\Wa.cell? ⟨g,k*2+1,F⟩=Y (.string vv))->RX L O Wa Wb->(bJ L O1 W O Wb/\Wb.cell? ⟨g,k*2,F⟩=Y (.string kk)/\Wb.cell? ⟨g,k*2+1,F⟩=Y (.string vv)):=
   λh x=>⟨h.1.rely x,(h.1.rely x).bg (hW▸ck) hg,(h.1.rely x).bg (hW▸cv) hg⟩
  have hG:=And.intro hF (And.intro (hF.bg (hW▸ck) hg) (hF.bg (hW▸cv) hg));clear hF H1;co_apply (iw);(co_apply (vu);intro _ hR;replace hG:=rlv hG hR;clear hR;refine⟨by simp[*,go_sem],λK z=>?_⟩;go_simp;refine z _ ?_;clear z K;try walk_nrm);co_apply aO rfl Ym;intro W4 hR K hK;replace hG:=rlv hG hR;clear hR;have q1:=hG.2.1;have q2:=hG.2.2;go_simp;refine hK _ ⟨?_,?_⟩
  ·refine DX.still _ _ (HP hg λe he=>?_);have hm:=ad5 he;simp[go_sem, *]at hm;rcases hm with rfl|rfl<;>exact⟨_,rfl,rfl⟩
  clear hK K q1 q2;try walk_nrm
  co_apply bM rfl Ym;intro W5 hR K hK;replace hG:=rlv hG hR;clear hR;go_simp;refine hK _ _ ⟨?_,?_⟩
  ·rw[ai1 YU];exact DX.alloc _ _ _
  clear hK K;try walk_nrm
  have hr:W.heap.size<=W5.heap.size:=hG.1.rel.le;have hH:bJ L O1 W (O2.grow W5 (W5.alloc (.cells #[.string ⟨#[]⟩,.string ⟨#[]⟩] 70))) (W5.alloc (.cells #[.string ⟨#[]⟩,.string ⟨#[]⟩] 70))/\OB W5.heap.size (.cells #[.string ⟨#[]⟩,.string ⟨#[]⟩] 70) (O2.grow W5 (W5.alloc (.cells #[.string ⟨#[]⟩,.string ⟨#[]⟩] 70))) (W5.alloc (.cells #[.string ⟨#[]⟩,.string ⟨#[]⟩] 70)):=⟨hG.1.alloc _,OB.new _ _ _⟩
  clear hG rlv;generalize (O2.grow W5 (W5.alloc (.cells #[.string ⟨#[]⟩,.string ⟨#[]⟩] 70)))=O3 at hH⊢;generalize (W5.alloc (.cells #[.string ⟨#[]⟩,.string ⟨#[]⟩] 70))=W6 at hH⊢;generalize W5.heap.size=r at hH hr⊢;have rl:∀{o:Obj} {Wa Wb:af},(bJ L O1 W O3 Wa/\OB r o O3 Wa)->RX L O3 Wa Wb->(bJ L O1 W O3 Wb/\OB r o O3 Wb):=λh x=>⟨h.1.rely x,h.2.rely x⟩
  co_apply bM rfl Ym;intro W7 hR K hK;replace hH:=rl hH hR;clear hR;have hA:aT W7 r #[.string ⟨#[]⟩,.string ⟨#[]⟩] 70:=hH.2.heap;have t0:=hA.cell (o:=0) (v:=.string ⟨#[]⟩) rfl;have t1:=hA.cell (o:=1) (v:=.string ⟨#[]⟩) rfl;have g0:=hA.frozen 0;have g1:=hA.frozen 1;go_simp;try(unfold stored;go_simp)
  refine hK _ _ ⟨?_,?_⟩
  ·refine DX.own hH.2.own ((ep.cell r 0 W7 _).trans (ep.cell r 1 _ _)) (cW (b:=Z6) hH.2.own λe he=>?_);have hm:=ad5 he;have E0:=λes=>lA (P:=prog) (v:=.string kk) t0 g0 rfl es;have hA2:=hA.set 0 (.string kk);have E2:=λes=>lA (P:=prog) (v:=.string vv) (hA2.cell (o:=1) (v:=.string ⟨#[]⟩) rfl) (hA2.frozen 1) rfl es;simp[go_sem, *]at hm;rcases hm with rfl|rfl<;>exact⟨_,rfl,rfl⟩
  clear hK K;have Eu:aT ((W7.setCell ⟨r,0,F⟩ (.string kk)).setCell ⟨r,1,F⟩ (.string vv)) r #[.string kk,.string vv] 70:=by simpa using(hA.set 0 (.string kk)).set 1 (.string vv)
  have hT:=(ep.cell r 0 W7 (.string kk)).trans (ep.cell r 1 _ (.string vv));have hE:bJ L O1 W O3 ((W7.setCell ⟨r,0,F⟩ (.string kk)).setCell ⟨r,1,F⟩ (.string vv))/\OB r (.cells #[.string kk,.string vv] 70) O3 ((W7.setCell ⟨r,0,F⟩ (.string kk)).setCell ⟨r,1,F⟩ (.string vv)):=⟨hT.ya hH.1 hr,hH.2.own,Eu⟩
  rw[O3.dG hT.size];clear hH hA Eu t0 t1 g0 g1 hT;generalize ((W7.setCell ⟨r,0,F⟩ (.string kk)).setCell ⟨r,1,F⟩ (.string vv))=W8 at hE⊢;try walk_nrm
  co_apply (iw);(co_apply (vu);intro _ hR;replace hE:=rl hE hR;clear hR;refine⟨YU,λK z=>?_⟩;go_simp;refine z _ ?_;clear z K;try walk_nrm);(co_apply aO rfl Ym;intro _ hR K hK;replace hE:=rl hE hR;clear hR;(have hB:aT _ r #[.string kk,.string vv] 70:=hE.2.heap;have hc:=hB.cell (o:=0) (v:=.string kk) rfl);go_simp;refine hK _ ⟨?_,?_⟩;(focus(refine DX.still _ _ (cW (b:=E) hE.2.own λe he=>?_);have hm:=ad5 he;simp[go_sem,hc]at hm;exact⟨_,hm,rfl⟩));clear hK K;try walk_nrm);clear hc hB;(co_apply (vu);intro _ hR;replace hE:=rl hE hR;clear hR;refine⟨YU,λK z=>?_⟩;go_simp;refine z _ ?_;clear z K;try walk_nrm);(co_apply (vu);intro _ hR;replace hE:=rl hE hR;clear hR;refine⟨YU,λK z=>?_⟩;go_simp;refine z _ ?_;clear z K;try walk_nrm);co_apply (iw);(co_apply aW (aF L) (t:=(kk.toList == key.toList));focus(simp[ah6]))
  ·intro he;have he':kk=key:=Classical.byContradiction λh=>by rw[kQ h]at he;cases he
   have Hr:Hid (valueOf Ls key=vv/\aN Ls key=Z6):=vL hx he' HO.out;co_apply (iw);(co_apply (vu);intro _ hR;replace hE:=rl hE hR;clear hR;refine⟨YU,λK z=>?_⟩;go_simp;refine z _ ?_;clear z K;try walk_nrm);(co_apply aO rfl Ym;intro _ hR K hK;replace hE:=rl hE hR;clear hR;(have hB:aT _ r #[.string kk,.string vv] 70:=hE.2.heap;have hc:=hB.cell (o:=1) (v:=.string vv) rfl);go_simp;refine hK _ ⟨?_,?_⟩;(focus(refine DX.still _ _ (cW (b:=E) hE.2.own λe he=>?_);have hm:=ad5 he;simp[go_sem,hc]at hm;exact⟨_,hm,rfl⟩));clear hK K;try walk_nrm);clear hc hB;(repeat(first|co_apply BJ|(co_apply (vu);intro _ hR;replace hE:=rl hE hR;clear hR;refine⟨by simp[*,go_sem],λK z=>?_⟩;go_simp;refine z _ ?_;clear z K;try walk_nrm)|((first|co_apply yK|co_apply Ty|co_apply GY|co_apply yL|co_apply Tz|co_apply yc);try co_then)));exact .inl ⟨rfl,_,bW (aF L) (bh1 Ym _),by rw[Hr.out.1,Hr.out.2];rfl,hE.1⟩
  ·intro he;have he':¬kk=key:=λh=>by rw[fj h]at he;cases he
   have yO:Hid (∀j y,j<k+1->Ls[j]?=Y y->y.1≠key):=by
    intro j y hj hy;by_cases e:j=k
    ·subst e;rw[hx]at hy;cases hy;exact he'
    ·exact HO.out j y I hy
   have AR:IntKind.i64.wrap ((k:Int)+1)=((k+1:Nat):Int):=by rw[IntKind.wrap_i64];omega
   (repeat(first|co_apply BJ|(co_apply (vu);intro _ hR;replace hE:=rl hE hR;clear hR;refine⟨by simp[*,go_sem],λK z=>?_⟩;go_simp;refine z _ ?_;clear z K;try walk_nrm)|((first|co_apply yK|co_apply Ty|co_apply GY|co_apply yL|co_apply Tz|co_apply yc);try co_then)));try simp only[AR]
   exact⟨8-(k+1),I,k+1,_,_,_,_,_,_,_,_,_,_,_,I,rfl,rfl,hE.1,yO⟩
 ·intro ht;have hge:¬k<Ls.length:=by simpa using ht
  have Hr:Hid (valueOf Ls key=ByteArray.empty/\aN Ls key=E):=qT (λj x hj=>HO.out j x I);co_apply (yJ);intro _ hF;exact .inl ⟨rfl,_,bW (aF L) (bh1 Ym _),by rw[Hr.out.1,Hr.out.2];rfl,hF⟩
end
section
open Go Go.Conc Go.RowKit Go.MuLone
variable {main:Bool}{J:Jm}{L:eI}
def DX.LN(O:aL)(w:af)(o:Obj):DX L O w (w.drew.alloc o) #[]:=by have h:=DX.alloc (L:=L) O w.drew o;exact⟨h.tape,h.os,h.out,h.le,h.blk,h.ev⟩
def sC(w:af)(src dst e:az)(s:ah)(hs:P.underlying src=Y .string)(hd:P.underlying dst=Y (.slice e))(he:P.underlying e=Y (.int .u8))(es:Array aC):(convert src dst (.string s)).events P w es=es:=by
 simp only[convert,ag9,ah1 hs,ah1 hd,ah1 he,ai0,Conv.stringToBytes];have hsh:∀(C:Array aj),(w.alloc (.cells C e)).shape? w.heap.size=Y (e,C.size):=λC=>by unfold World.shape?;rw[OZ]
 simp[newRow,markStringish,go_sem,hsh]
@[go_sem] theorem aaM (x:Int) (w:af) (es:Array aC):(convert 5 151 (.int .u8 x)).events prog w es=es:=by simp[convert,ah1 underlying5,ah1 underlying151,Conv.intToInt]
def Tx:∃n,∀(s:ah) (O:aL) (w:af),s.size<=1000->L.N<=w.heap.size->
 bG prog main J (RX L) (DX L) 150 #[.string s] n O w λO' v w'=>v=.int .u64 (IntKind.u64.wrap (2 ^(j7 s.data.toList % 64).toNat))/\bJ L O w O' w':=by
 co_apply aa1;intro s O w hs hN;have hF:bJ L O w O w:=bJ.refl hN;have hcv:=λW=>run_bytes_of_string (P:=prog) W 9 116 5 s underlying9 underlying116 underlying5;have hce:=λW es=>sC (P:=prog) W 9 116 5 s underlying9 underlying116 underlying5 es;co_apply bH func150 Ym rfl;walk_nrmf ntmps150;generalize hW:w=W at hF⊢;generalize hO:O=O1 at hF⊢;co_apply (yJ);intro _ hF;co_apply bM rfl Ym;intro W1 hR K hK;replace hF:=bJ.rely hF hR;clear hR;have Xp:=hcv W1;generalize grownCap W1 s.size 0 _=cap at Xp;generalize hM:bytesRow s cap=M at Xp;clear hcv;go_simp;refine hK _ _ ⟨?_,?_⟩
 ·rw[ai1 (by simp[go_sem,hce])];exact DX.LN _ _ _
 clear hK K Xp;try walk_nrm
 have hr:W.heap.size<=W1.heap.size:=hF.rel.le;have hG:bJ L O1 W (O1.grow W1 (W1.alloc (.cells M 5 (M.size,M.size+1))).drew) (W1.alloc (.cells M 5 (M.size,M.size+1))).drew/\OB W1.heap.size (.cells M 5 (M.size,M.size+1)) (O1.grow W1 (W1.alloc (.cells M 5 (M.size,M.size+1))).drew) (W1.alloc (.cells M 5 (M.size,M.size+1))).drew:=⟨(hF.alloc _).rely (RX.draw _ _),(OB.new _ _ _).rely (RX.draw (L:=L) _ _)⟩
 clear hF;generalize (O1.grow W1 (W1.alloc (.cells M 5 (M.size,M.size+1))).drew)=O2 at hG⊢;generalize (W1.alloc (.cells M 5 (M.size,M.size+1))).drew=W2 at hG⊢;generalize W1.heap.size=r at hG hr⊢;have hMc:Hid (∀(k:Nat) (hk:k<s.size),M[k]?=Y (.int .u8 (s[k].toNat:Int))):=λk hk=>by rw[<-hM];exact bytesRow_at s cap k hk
 have rl:∀{o:Obj} {Wa Wb:af},(bJ L O1 W O2 Wa/\OB r o O2 Wa)->RX L O2 Wa Wb->(bJ L O1 W O2 Wb/\OB r o O2 Wb):=λh x=>⟨h.1.rely x,h.2.rely x⟩
 clear hM hce;(repeat(first|co_apply BJ|co_apply (oZ);intro _ hG|((first|co_apply yK|co_apply Ty|co_apply GY|co_apply yL|co_apply Tz|co_apply yc);try co_then)));co_apply mY (aF L) (N:=1000) (λj O a w=>∃(k:Nat) (s5 VS SP TA s13 s14 s15 s16 s17 s18:aj),k<=s.size/\j=1000-k/\a=⟨#[.string s,undef,.int .u64 0,.int .u64 (j7 (s.data.toList.take k)),undef,s5,.string s,.slice (Y ⟨r,0,F⟩) s.size cap,.int .i64 s.size,.int .i64 k,VS,SP,TA,s13,s14,s15,s16,s17,s18,undef,undef,undef], []⟩/\O=O2/\(bJ L O1 W O2 w/\OB r (.cells M 5 (M.size,M.size+1)) O2 w)) _
 ·exact⟨0,_,_,_,_,_,_,_,_,_,_,ak8 _,rfl,rfl,rfl,hG⟩
 clear hG;rintro j O3 act W3 ⟨k,s5,VS,SP,TA,s13,s14,s15,s16,s17,s18,hk,rfl,rfl,rfl,hG⟩;co_apply (iw);co_apply (oZ);intro _ hG;co_apply (iw);(co_apply aW (aF L) (t:=(decide ((k:Int)< (s.size:Int))));focus(simp[ah6]))
 ·intro ht;have hlt:k<s.size:=by simpa using ht
  have hx:=hMc.out k hlt;have hn:Hid (j7 (s.data.toList.take (k+1))=IntKind.u64.wrap (IntKind.u64.wrap (j7 (s.data.toList.take k)*31)+(s[k].toNat:Int))):=by rw[vr s k hlt];exact yM _ _
  have hb:=s[k].toNat_lt;obtain⟨h,hh,hh1⟩:=yN (s.data.toList.take k);rw[hh]at hn⊢;clear hh;generalize s[k]=c at hx hb hn;have LO:∀{Wa:af},OB r (.cells M 5 (M.size,M.size+1)) O3 Wa->Wa.cell? ⟨r,k,F⟩=Y (.int .u8 (c.toNat:Int)):=λx=>by simp only[ad3,x.heap];simpa using hx
  co_apply (iw);co_apply (oZ);intro _ hG;(co_apply aO rfl Ym;intro _ hR K hK;replace hG:=rl hG hR;clear hR;(have hc:=LO hG.2);go_simp;refine hK _ ⟨?_,?_⟩;(focus(refine DX.still _ _ (cW (b:=E) hG.2.own λe he=>?_);have hm:=ad5 he;simp[go_sem,hc]at hm;subst hm;exact⟨_,rfl,rfl⟩));clear hK K;try walk_nrm);clear hc;(repeat(first|co_apply BJ|co_apply (oZ);intro _ hG|((first|co_apply yK|co_apply Ty|co_apply GY|co_apply yL|co_apply Tz|co_apply yc);try co_then)));have hwk:IntKind.i64.wrap ((k:Int)+1)=((k+1:Nat):Int):=IntWalk.i64_in _ I;have Zx:IntKind.u64.wrap (c.toNat:Int)=(c.toNat:Int):=by rw[IntKind.wrap_u64];omega
  rw[hwk,Zx,<-hn.out];exact⟨1000-(k+1),I,k+1,_,_,_,_,_,_,_,_,_,_,I,rfl,rfl,Z5,hG⟩
 ·intro ht;have hlt:¬k<s.size:=by simpa using ht
  obtain rfl:k=s.size:=I
  have he:s.data.toList.take s.size=s.data.toList:=zbk (by rw[Lib.size_eq];exact zbe _);rw[he];clear he;obtain⟨h,hh,hh1⟩:=yN s.data.toList;rw[hh];clear hh ht hlt;have h64:(h:Int).tmod 64=((h:Int)% 64):=Int.tmod_eq_emod_of_nonneg I;have TB:Op.shift .shl .u64 1 .u64 ((h:Int)% 64)=pure (.int .u64 (IntKind.u64.wrap (2 ^((h:Int)% 64).toNat))):=by rw[shift_shl .u64 .u64 1 _ I (by have:IntKind.u64.bits=64:=rfl;rw[this];omega),Int.one_mul]
  generalize IntKind.u64.wrap (2 ^((h:Int)% 64).toNat)=B at TB⊢;generalize (h:Int)% 64=y at h64 TB;co_apply (iw);co_apply (oZ);intro _ hG;co_apply (oZ);intro _ hG;co_apply (oZ);intro _ hG;co_apply (oZ);intro _ hG;co_apply (iw);exact .inl ⟨rfl,_,bW (aF L) (am8 Ym _),rfl,by subst hW;subst hO;exact hG.1⟩
def O7:∃n,∀(key:ah) (a:Option aA) (Ls:List ah) (cap:Nat) (O:aL) (w:af),Ls.length<=8->Hid (∀(k:Nat) (x:ah),Ls[k]?=Y x->∃g,L.Fx g/\a=Y ⟨g,0,F⟩/\w.cell? ⟨g,k,F⟩=Y (.string x))->L.N<=w.heap.size->
 bG prog main J (RX L) (DX L) 171 #[.slice a Ls.length cap,.string key] n O w λO' v w'=>(∃i:Int,v=.int .i64 i/\fN Ls key=decide (0<=i))/\bJ L O w O' w':=by
 co_apply aa1;intro key a Ls cap O w h8 hcell hN;have hF:bJ L O w O w:=bJ.refl hN;co_apply bH func171 Ym rfl;walk_nrmf ntmps171;obtain⟨W,hW⟩:∃W,W=w:=⟨_,rfl⟩
 obtain⟨O1,hO⟩:∃O1,O1=O:=⟨_,rfl⟩
 rw[<-hW,<-hO]at hF⊢;rw[<-hW]at hcell;clear hW hO;co_apply (yJ);intro _ hF;co_apply mY (aF L) (N:=8) (λj O a' w=>∃(k:Nat) (s5 s9 VS SP TA s13 s14 s15 s16 s17 s18:aj),k<=Ls.length/\j=8-k/\a'=⟨#[.slice a Ls.length cap,.string key,undef,undef,.int .i64 0,s5,.slice a Ls.length cap,.int .i64 Ls.length,.int .i64 k,s9,VS,SP,TA,s13,s14,s15,s16,s17,s18], []⟩/\bJ L O1 W O w/\Hid (∀j y,j<k->Ls[j]?=Y y->y≠key)) _
 ·exact⟨0,_,_,_,_,_,_,_,_,_,_,_,ak8 _,rfl,rfl,hF,λj y hj=>I⟩
 clear hF;rintro j O2 act W3 ⟨k,s5,s9,VS,SP,TA,s13,s14,s15,s16,s17,s18,hk,rfl,rfl,hF,HO⟩;co_apply (iw);co_apply (kJ);intro _ hF;co_apply (iw);(co_apply aW (aF L) (t:=(decide ((k:Int)< (Ls.length:Int))));focus(simp[ah6]))
 ·intro ht;have hlt:k<Ls.length:=by simpa using ht
  have hx:Ls[k]?=Y Ls[k]:=zbf hlt;obtain⟨g,hg,rfl,ck⟩:=hcell.out k _ hx;generalize Ls[k]=kk at hx ck;have AR:IntKind.i64.wrap ((k:Int)+1)=((k+1:Nat):Int):=IntWalk.i64_in _ I;co_apply (iw);co_apply (kJ);intro _ hF;co_apply (kJ);intro _ hF;co_apply (iw);co_apply (kJ);intro _ hF;co_apply (kJ);intro _ hF;co_apply (kJ);intro _ hF;co_apply (kJ);intro _ hF;(co_apply aO rfl Ym;intro _ hR K hK;replace hF:=bJ.rely hF hR;clear hR;(have hc:=hF.bg ck hg);go_simp;refine hK _ ⟨?_,?_⟩;(focus(refine DX.still _ _ (cL (a:=⟨g,k,F⟩) (.inl hg) λe he=>?_);have hm:=ad5 he;simp[go_sem,hc]at hm;exact hm));clear hK K;try walk_nrm);clear hc;co_apply (kJ);intro _ hF;co_apply (iw);(co_apply aW (aF L) (t:=(key.toList == kk.toList));focus(simp[ah6]))
  ·intro he;have he':key=kk:=Classical.byContradiction λh=>by rw[kQ h]at he;cases he
   have Hr:Hid (fN Ls key=Z6):=by have:=sD hlt hx he'.symm;rwa [List.take_length]at this
   co_apply (yJ);intro _ hF;exact .inl ⟨rfl,_,bW (aF L) (am8 Ym _),⟨k,rfl,by rw[Hr.out];simp⟩,hF⟩
  ·intro he;have he':¬key=kk:=λh=>by rw[fj h]at he;cases he
   have yO:Hid (∀j y,j<k+1->Ls[j]?=Y y->y≠key):=by
    intro j y hj hy;by_cases e:j=k
    ·subst e;rw[hx]at hy;cases hy;exact λe=>he' e.symm
    ·exact HO.out j y I hy
   clear he';co_apply (yJ);intro _ hF;try simp only[AR]
   exact⟨8-(k+1),I,k+1,_,_,_,_,_,_,_,_,_,_,_,I,rfl,rfl,hF,yO⟩
 ·intro ht;have hge:¬k<Ls.length:=by simpa using ht
  have Hr:Hid (fN Ls key=E):=by have:=sE (L:=Ls) (k:=Ls.length) (key:=key) (λj y hj=>HO.out j y I);rwa [List.take_length]at this
  co_apply (yJ);intro _ hF;exact .inl ⟨rfl,_,bW (aF L) (am8 Ym _),⟨-1,rfl,by rw[Hr.out];simp⟩,hF⟩
def EO:∃n,∀(key:ah) (a:Option aA) (Ls:List ah) (cap:Nat) (O:aL) (w:af),Ls.length<=8->Hid (∀(k:Nat) (x:ah),Ls[k]?=Y x->∃g,L.Fx g/\a=Y ⟨g,0,F⟩/\w.cell? ⟨g,k,F⟩=Y (.string x))->L.N<=w.heap.size->
 bG prog main J (RX L) (DX L) 170 #[.slice a Ls.length cap,.string key] n O w λO' v w'=>v=.bool (fN Ls key)/\bJ L O w O' w':=by
 obtain⟨ni,hi⟩:=O7 (main:=main) (J:=J) (L:=L);co_apply aa1;intro key a Ls cap O w h8 hcell hN;have hF:bJ L O w O w:=bJ.refl hN;co_apply bH func170 Ym rfl;walk_nrmf ntmps170;obtain⟨W,hW⟩:∃W,W=w:=⟨_,rfl⟩
 obtain⟨O1,hO⟩:∃O1,O1=O:=⟨_,rfl⟩
 rw[<-hW,<-hO]at hF⊢;rw[<-hW]at hcell;clear hW hO;co_apply (yJ);intro _ hF;co_apply bX (aF L) rfl Ym rfl (by walk_nrm;exact hi key a Ls cap _ _ h8 (λk x hx=>by obtain⟨g,hg,e,hc⟩:=hcell.out k x hx;exact⟨g,hg,e,hF.bg hc hg⟩) hF.top);rintro O2 x W2 ⟨⟨i,rfl,hr⟩,hG⟩;replace hF:=hF.trans hG;clear hG;walk_nrm;co_apply (yJ);intro _ hF;exact .inl ⟨rfl,_,bW (aF L) (am8 Ym _),by rw[hr];rfl,hF⟩
def LP:∃n,∀(key:ah) (a:Option aA) (Ls:List ah) (cap:Nat) (O:aL) (w:af),Ls.length<=8->Hid (∀(k:Nat) (x:ah),Ls[k]?=Y x->∃g,L.Fx g/\a=Y ⟨g,0,F⟩/\w.cell? ⟨g,k,F⟩=Y (.string x))->L.N<=w.heap.size->
 bG prog main J (RX L) (DX L) 169 #[.slice a Ls.length cap,.string key] n O w λO' v w'=>v=.bool (fN Ls key)/\bJ L O w O' w':=by
 obtain⟨ni,hi⟩:=EO (main:=main) (J:=J) (L:=L);co_apply aa1;intro key a Ls cap O w h8 hcell hN;have hF:bJ L O w O w:=bJ.refl hN;co_apply bH func169 Ym rfl;walk_nrmf ntmps169;obtain⟨W,hW⟩:∃W,W=w:=⟨_,rfl⟩
 obtain⟨O1,hO⟩:∃O1,O1=O:=⟨_,rfl⟩
 rw[<-hW,<-hO]at hF⊢;rw[<-hW]at hcell;clear hW hO;co_apply (yJ);intro _ hF;co_apply bX (aF L) rfl Ym rfl (by walk_nrm;exact hi key a Ls cap _ _ h8 (λk x hx=>by obtain⟨g,hg,e,hc⟩:=hcell.out k x hx;exact⟨g,hg,e,hF.bg hc hg⟩) hF.top);rintro O2 x W2 ⟨rfl,hG⟩;replace hF:=hF.trans hG;clear hG;walk_nrm;co_apply (yJ);intro _ hF;exact .inl ⟨rfl,_,bW (aF L) (am8 Ym _),rfl,hF⟩
def wE(m:Int)(s:ah):Bool:=!(IntKind.u64.wrap ((ad0 IntKind.u64.bits m &&& ad0 IntKind.u64.bits (jH s)).toNat:Int)== 0)
def LQ:∃n,∀(key:ah) (m:Int) (O:aL) (w:af),key.size<=1000->L.N<=w.heap.size->
 bG prog main J (RX L) (DX L) 172 #[.int .u64 m,.string key] n O w λO' v w'=>v=.bool (wE m key)/\bJ L O w O' w':=by
 obtain⟨ni,hi⟩:=Tx (main:=main) (J:=J) (L:=L);co_apply aa1;intro key m O w hs hN;have hF:bJ L O w O w:=bJ.refl hN;co_apply bH func172 Ym rfl;walk_nrmf ntmps172;obtain⟨W,hW⟩:∃W,W=w:=⟨_,rfl⟩
 obtain⟨O1,hO⟩:∃O1,O1=O:=⟨_,rfl⟩
 rw[<-hW,<-hO]at hF⊢;clear hW hO;co_apply (yJ);intro _ hF;co_apply bX (aF L) rfl Ym rfl (by walk_nrm;exact hi key _ _ hs hF.top);rintro O2 x W2 ⟨rfl,hG⟩;replace hF:=hF.trans hG;clear hG;rw[show IntKind.u64.wrap (2 ^(j7 key.data.toList % 64).toNat)=jH key from rfl];have hand:Op.intBits .and .u64 m (jH key)=pure (.int .u64 (IntKind.u64.wrap ((ad0 IntKind.u64.bits m &&& ad0 IntKind.u64.bits (jH key)).toNat:Int))):=rfl;have Zy:wE m key= !(IntKind.u64.wrap ((ad0 IntKind.u64.bits m &&& ad0 IntKind.u64.bits (jH key)).toNat:Int)== 0):=rfl;generalize jH key=B at hand Zy⊢;generalize IntKind.u64.wrap ((ad0 IntKind.u64.bits m &&& ad0 IntKind.u64.bits B).toNat:Int)=y at hand Zy;walk_nrm;co_apply (kJ);intro _ hF;clear hand;co_apply (yJ);intro _ hF;exact .inl ⟨rfl,_,bW (aF L) (am8 Ym _),by rw[Zy];rfl,hF⟩
end
section
open Go Go.Conc Go.RowKit Go.MuLone
open Go.Maps (Keyed)
variable {main:Bool}{J:Jm}{L:eI}
structure lq(L:eI)(pb kb:Nat)(f:Lit->Option aj)(vl:Int->List KV)(w:af):Prop where
 fc:L.og ⟨pb,2,F⟩
 fk:L.Fx kb
 cell:w.cell? ⟨pb,2,F⟩=Y (.map (Y kb))
 map:aS w prog 3 kb f
 row:∀m:Int,-9223372036854775808<=m->m<=9223372036854775807->∃ad cap sv,(f (.int .i64 m)).getD (.agg #[.slice F 0 0,.nilIface])=.agg #[.slice ad (vl m).length cap,sv]/\(vl m).length<=8/\
  ∀(k:Nat) (x:KV),(vl m)[k]?=Y x->∃g,L.Fx g/\ad=Y ⟨g,0,F⟩/\w.cell? ⟨g,k*2,F⟩=Y (.string x.1)/\w.cell? ⟨g,k*2+1,F⟩=Y (.string x.2)
def lq.rx(h:lq L pb kb f vl w0)(hF:RX L O w0 w):lq L pb kb f vl w:=
 ⟨h.fc,h.fk,hF.cell h.cell h.fc,h.map.of_eq (hF.blk kb h.map.lt (.inr h.fk)),λm h1 h2=>by obtain⟨ad,cap,sv,e,h8,hr⟩:=h.row m h1 h2;refine⟨ad,cap,sv,e,h8,λk x hx=>?_⟩;obtain⟨g,hg,ha,c1,c2⟩:=hr k x hx;exact⟨g,hg,ha,hF.bg c1 hg,hF.bg c2 hg⟩⟩
def lq.ya{O0:aL}(h:lq L pb kb f vl w0)(hF:bJ L O0 w0 O w):lq L pb kb f vl w:=h.rx hF.rel
def R9:∃n,∀(pb kb:Nat) (f:Lit->Option aj) (vl:Int->List KV) (m:Int) (key:ah) (O:aL) (w:af),L.N<=w.heap.size->lq L pb kb f vl w->-9223372036854775808<=m->m<=9223372036854775807->
 bG prog main J (RX L) (DX L) 115 #[ptr pb,.int .i64 m,.string key] n O w λO' v w'=>v=.tuple #[.string (valueOf (vl m) key),.bool (aN (vl m) key)]/\bJ L O w O' w':=by obtain⟨n,h⟩:=Vh (main:=main) (J:=J) (L:=L);refine⟨n,λpb kb f vl m key O w hN hP h1 h2=>?_⟩;obtain⟨ad,cap,sv,e,h8,hr⟩:=hP.row m h1 h2;exact h pb kb f m key ad (vl m) cap sv O w hN hP.fc hP.fk hP.cell hP.map h1 h2 e h8 hr
def fI(vl:Int->List KV)(key:ah)(ms:List Int):Int:=ms.foldl (λg m=>if aN (vl m) key then(if m > g then m else g)else g) 0
def J7{key:ah}{ms:List Int}(h:∀m∈ms,0<=m/\m<=1000):0<=fI vl key ms/\fI vl key ms<=1000:=by
 have:∀(l:List Int) (g:Int),(∀m∈l,0<=m/\m<=1000)->0<=g/\g<=1000->0<=l.foldl (λg m=>if aN (vl m) key then(if m > g then m else g)else g) g/\l.foldl (λg m=>if aN (vl m) key then(if m > g then m else g)else g) g<=1000:=by
  intro l;induction l with
  |nil=>exact λg _ h=>h
  |cons m l ih=>
   intro g hl hg;simp only[List.foldl_cons];refine ih _ (λx hx=>hl x (by simp[hx])) ?_;have:=hl m XI;split
   ·split<;>omega
   ·exact hg
 exact this ms 0 h I
def Zb(a b:Int)(w:af)(es:Array aC):(Builtin.max_ #[3,3] 3 #[.int .i64 a,.int .i64 b]).events prog w es=es:=by simp[Builtin.max_,Builtin.max2]
def Z1(pb:Nat)(w:af):Prop:=∃c t f,w.heap[pb]?=Y (.cells c t f)/\0<c.size
def Z1.of{o:Nat}(h:w.cell? ⟨pb,o,F⟩=Y v):Z1 pb w:=by
 unfold ad3 at h;split at h
 ·rename_i c t f hb;refine⟨c,t,f,hb,?_⟩;simp at h;have:=(Array.getElem?_eq_some_iff.1 h).1;omega
 ·cases h
structure EM(main:Bool)(J:Jm)(L:eI)(pb nl:Nat):Prop where
 lock:∀(O:aL) (w:af),L.N<=w.heap.size->O.pos=.lk .vk 1->¬O.own pb->Z1 pb w->bG prog main J (RX L) (DX L) 37 #[.pointer (Y ⟨pb,0,F⟩)] nl O w λO' v w'=>v=.tuple #[]/\O'.pos=.lk .hold 3/\rA L O w O' w'
 unlock:∀(O:aL) (w:af),L.N<=w.heap.size->O.pos=.lk .hold 3->¬O.own pb->Z1 pb w->CallsD prog main J (RX L) (DX L) 38 #[.pointer (Y ⟨pb,0,F⟩)] nl O w λO' w'=>O'.pos=.lk .out 0/\rA L O w O' w'
def J1(nl:Nat):∃n,∀(pb kb:Nat) (f:Lit->Option aj) (vl:Int->List KV) (key:ah) (ms:List Int) (cb:Option aA) (gX:Nat) (O:aL) (w:af),L.N<=w.heap.size->lq L pb kb f vl w->
 ms.length<=8->(∀m∈ms,0<=m/\m<=1000)->Hid (∀(k:Nat) (m:Int),ms[k]?=Y m->∃g,L.Fx g/\cb=Y ⟨g,0,F⟩/\w.cell? ⟨g,k,F⟩=Y (.int .i64 m))->
 EM main J L pb nl->O.pos=.lk .vk 1->¬O.own pb->
 bG prog main J (RX L) (DX L) 81 #[ptr pb,.string key,.slice cb ms.length gX] n O w λO' v w'=>v=.tuple #[.int .i64 (fI vl key ms),.string (valueOf (vl (fI vl key ms)) key)]/\O'.pos=.lk .out 0/\rA L O w O' w':=by
 obtain⟨nv,hv⟩:=R9 (main:=main) (J:=J) (L:=L);co_apply aa1;intro pb kb f vl key ms cb gX O w hN hP h8 ve hcell hlk hpos hno;have hF:bJ L O w O w:=bJ.refl hN;unfold ptr;co_apply JZ (dn:=nl) func81 Ym rfl;walk_nrmf ntmps81;obtain⟨W,hW⟩:∃W,W=w:=⟨_,rfl⟩
 obtain⟨O1,hO⟩:∃O1,O1=O:=⟨_,rfl⟩
 rw[<-hW,<-hO]at hF⊢;rw[<-hW]at hP hcell;rw[<-hO]at hpos hno;have hpl:pb<W.heap.size:=zbg W _ hP.cell;clear hW hO;co_apply (yJ);intro _ hF;co_apply bX (aF L) rfl Ym rfl (by walk_nrm;exact hlk.lock _ _ hF.top (hF.gh.1.trans hpos) (hF.oc hno hpl) (Z1.of (hP.ya hF).cell));rintro O5 x W5 ⟨rfl,adp,hJ⟩;replace hJ:=hF.SN.trans hJ;replace hno:=hJ.oc hno hpl;replace hpl:pb<W5.heap.size:=Nat.lt_of_lt_of_le hpl hJ.rel.le;clear hF hpos;have hF:bJ L O5 W5 O5 W5:=bJ.refl hJ.top;replace hP:=hP.rx hJ.rel;replace hcell:Hid (∀(k:Nat) (m:Int),ms[k]?=Y m->∃g,L.Fx g/\cb=Y ⟨g,0,F⟩/\W5.cell? ⟨g,k,F⟩=Y (.int .i64 m)):=λk m hk=>by obtain⟨g,hg,e,hc⟩:=hcell.out k m hk;exact⟨g,hg,e,hJ.rel.bg hc hg⟩
 walk_nrm;co_apply (yJ);intro _ hF;co_apply yG (aF L) rfl Ym rfl;walk_nrm;co_apply (yJ);intro _ hF;co_apply mY (aF L) (N:=8) (λj O a w=>∃(k:Nat) (VS SP TA s25 s26 s27 s28 s29 s30 s31 s32 s33 s34 s35 s36 s37 s38 s39:aj),k<=ms.length/\j=8-k/\a=⟨#[.pointer (Y ⟨pb,0,F⟩),.string key,.slice cb ms.length gX,undef,undef,undef,.int .i64 0,.string ⟨#[]⟩,.int .i64 (fI vl key (ms.take k)),undef,VS,SP,TA,undef,undef,.pointer (Y ⟨pb,0,F⟩),.pointer (Y ⟨pb,0,F⟩),.pointer (Y ⟨pb,0,F⟩),.tuple #[],.pointer (Y ⟨pb,0,F⟩),.pointer (Y ⟨pb,0,F⟩),.pointer (Y ⟨pb,0,F⟩),.slice cb ms.length gX,.int .i64 ms.length,.int .i64 (k:Nat),s25,s26,s27,s28,s29,s30,s31,s32,s33,s34,s35,s36,s37,s38,s39,undef,undef,undef,undef,undef,undef,undef,undef,undef], [dcall 38 #[.pointer (Y ⟨pb,0,F⟩)]]⟩/\bJ L O5 W5 O w) _
 ·exact⟨0,_,_,_,_,_,_,_,_,_,_,_,_,_,_,_,_,_,_,ak8 _,rfl,rfl,hF⟩
 clear hF;rintro j O2 act W3 ⟨k,VS,SP,TA,s25,s26,s27,s28,s29,s30,s31,s32,s33,s34,s35,s36,s37,s38,s39,hk,rfl,rfl,hF⟩;have hgb:0<=fI vl key (ms.take k)/\fI vl key (ms.take k)<=1000:=J7 (λm hm=>ve m (List.mem_of_mem_take hm));co_apply (iw);co_apply (kJ);intro _ hF;co_apply (iw);(co_apply aW (aF L) (t:=(decide ((k:Int)< (ms.length:Int))));focus(simp[ah6]))
 ·intro ht;have hlt:k<ms.length:=by simpa using ht
  have hx:ms[k]?=Y ms[k]:=zbf hlt;obtain⟨g,hg,rfl,ck⟩:=hcell.out k _ hx;have hmk:=ve _ (List.getElem_mem hlt);have zv:fI vl key (ms.take (k+1))=if aN (vl ms[k]) key then(if ms[k] > fI vl key (ms.take k)then ms[k]else fI vl key (ms.take k))else fI vl key (ms.take k):=by unfold fI;rw[List.take_succ_eq_append_getElem hlt,List.foldl_append];rfl
  generalize ms[k]=mk at hx ck hmk zv;generalize fI vl key (ms.take k)=gr at zv hgb⊢;co_apply (iw);co_apply (kJ);intro _ hF;(co_apply aO rfl Ym;intro _ hR K hK;replace hF:=bJ.rely hF hR;clear hR;(have hc:=hF.bg ck hg);go_simp;refine hK _ ⟨?_,?_⟩;(focus(refine DX.still _ _ (cL (a:=⟨g,k,F⟩) (.inl hg) λe he=>?_);have hm:=ad5 he;simp[go_sem,hc]at hm;exact hm));clear hK K;try walk_nrm);clear hc;co_apply (kJ);intro _ hF;co_apply (iw);co_apply (kJ);intro _ hF;co_apply (kJ);intro _ hF;co_apply (kJ);intro _ hF;co_apply bX (aF L) rfl Ym rfl (by walk_nrm;exact hv pb kb f vl mk key _ _ hF.top (hP.ya hF) I I);rintro O4 x W4 ⟨rfl,S9⟩;replace hF:=hF.trans S9;clear S9;walk_nrm;have AR:IntKind.i64.wrap ((k:Int)+1)=((k+1:Nat):Int):=by rw[IntKind.wrap_i64];omega
  co_apply (yJ);intro _ hF;(co_apply aW (aF L) (t:=(aN (vl mk) key));focus(simp[ah6]))
  ·intro hh;rw[if_pos hh]at zv;co_apply (iw);co_apply (kJ);intro _ hF;co_apply (kJ);intro _ hF;(co_apply aO rfl Ym;intro _ hR K hK;replace hF:=bJ.rely hF hR;clear hR;(skip);go_simp;refine hK _ ⟨?_,?_⟩;(focus(rw[ai1 (by simp[go_sem,Zb])];exact DX.idle _ _));clear hK K;try walk_nrm);co_apply (yJ);intro _ hF;try simp only[<-zv]
   exact⟨8-(k+1),I,k+1,_,_,_,_,_,_,_,_,_,_,_,_,_,_,_,_,_,_,I,rfl,rfl,hF⟩
  ·intro hh;rw[if_neg (by rw[hh];exact Bool.false_ne_true)]at zv;co_apply (yJ);intro _ hF;try simp only[<-zv]
   exact⟨8-(k+1),I,k+1,_,_,_,_,_,_,_,_,_,_,_,_,_,_,_,_,_,_,I,rfl,rfl,hF⟩
 ·intro ht;have hge:¬k<ms.length:=by simpa using ht
  have wN:ms.take k=ms:=zbk I;rw[wN]at hgb⊢;generalize VU:fI vl key ms=gr at hgb⊢;co_apply (yJ);intro _ hF;co_apply bX (aF L) rfl Ym rfl (by walk_nrm;exact hv pb kb f vl gr key _ _ hF.top (hP.ya hF) I I);rintro O4 x W4 ⟨rfl,S9⟩;replace hF:=hF.trans S9;clear S9;walk_nrm;co_apply (yJ);intro _ hF;refine .inr (.inl ⟨_,_,_,rfl,rfl,?_⟩);refine(hlk.unlock _ _ hF.top (hF.gh.1.trans adp) (hF.oc hno hpl) (Z1.of (hP.ya hF).cell)).mono (λO6 W6 h6=>?_) (zbe _);exact⟨_,bW (aF L) (bh1 Ym _),rfl,h6.1,(hJ.trans hF.SN).trans h6.2⟩
end
section
open Go Go.Conc Go.RowKit Go.MuLone
section
variable {P:aB}{main:Bool}{J:Jm}{R:vn}{D:vo}{fn:ay}{Q:eK}{O:aL}{a:Act}{w:af}{n:Nat}
def EP(P:aB)(t:az)(v:aj)(name:String)(f:ay):Prop:=∀(w:af) (es:Array aC),(method (P.types.size+Made.depth) t v name).run P w=.ok (f,v) w/\(method (P.types.size+Made.depth) t v name).events P w es=es
def EQ{name:String}{args:Array aD}{ats:Array az}{f:ay}{t:az}(hop:o.op=.call {callee:=.invoke x name,args,argTypes:=ats})(hx:a.eval x=.iface t v)(hm:EP P t v name f)
 (hf:P.funcs[f]?=Y fn') (hname:(fn'.name == "runtime.NumGoroutine")=E) (hb:fn'.body.isNone=E) (w:af):
 (ad6 a.eval o).run P w=.ok (.enter f (#[v]++args.map a.eval)) w/\(ad6 a.eval o).events P w #[]=#[]:=by
 have h1:¬fn'.name= "runtime.NumGoroutine" :=by simpa using hname
 have h2:¬fn'.body=F:=λe=>by rw[e]at hb;cases hb
 have m1:=λw=>(hm w #[]).1;have m2:=λw es=>(hm w es).2;have he:(#[bg1 t v]++args.map a.eval).extract 1 (#[bg1 t v]++args.map a.eval).size=args.map a.eval:=by apply Array.ext';simp;exact zbk XI
 have h0:(#[bg1 t v]++args.map a.eval)[0]?=Y (.iface t v):=by rw[Array.getElem?_append_left XI];rfl
 unfold ad6;simp only[hop,resolve,hx];generalize (#[bg1 t v]++args.map a.eval)=X at he h0⊢;simp[invoke,callMethod,h0,he,m1,m2,callFunc,hf,h1,h2]
def ER(T:cy R D){ops:Array Oper}{rest:List Nat}{name:String}{f:ay}{args:Array aD}{ats:Array az}{t:az}{Post:aL->aj->af->Prop}
 (ho:ops[i]?=Y o) (hw:ac3 o (ai5 ops a.tmps)=Z6) (hop:o.op=.call {callee:=.invoke x name,args,argTypes:=ats}) (hx:a.eval x=.iface t v) (hm:EP P t v name f)
 (hcall:bG P main J R D f (#[v]++args.map a.eval) nf O w Post) (hnext:∀O' v w',Post O' v w'->bQ P main J R D fn ops rest n Q O' (a.put o.dst v) w'):bQ P main J R D fn ops (i :: rest) (n+nf+Er) Q O a w:=by
 intro b k cs Stop m hb hk hc;obtain⟨fn',c,n₀,dn,hle,hf,hname,hbody,hwp⟩:=hcall;have iu:∀v,(b.at a (.inRegion ops (i :: rest):: k)).finish v=b.at (a.put o.dst v) (.inRegion ops rest :: k):=λv=>by rw[Frame.finish_at,ho];rfl
 have e:(m O.fu+n+n₀+dn+5)+1<=m O.fu+(n+nf+Er):=by unfold Er;omega
 refine cN.mono ?_ e;have hbn:fn'.body.isNone=E:=by rw[hbody];rfl
 refine cN.step rfl λw₁ h₁=>?_;obtain⟨hr,hev⟩:=EQ (P:=P) hop hx hm hf hname hbn w₁;rw[stepG_enter ho hw hk hr,enter_at _ hf hbody];have hl:listed P b.fn a o w₁=#[]:=ai1 hev;rw[hl];refine⟨T.idle _ _,?_⟩;rw[O.dG rfl];refine cN.rely T (cN.body (m:=λj=>m j+n) T hf hwp λO' v w' hp=>?_) h₁;rw[iu];exact hnext O' v w' hp b k cs Stop m hb hk hc
end
def LV(v:aj):EP prog 225 v "MayWrite" 169:=λw es=>⟨Yl,Yl⟩
def LX(v:aj):EP prog 226 v "MayWrite" 172:=λw es=>⟨Yl,Yl⟩
variable {main:Bool}{J:Jm}{L:eI}
inductive sH(L:eI)(w:af):aj->(ah->Bool)->Prop
 |none:sH L w .nilIface (λ_=>Z6)
 |keys (a:Option aA) (Ls:List ah) (cap:Nat) (h8:Ls.length<=8) (hc:∀(k:Nat) (x:ah),Ls[k]?=Y x->∃g,L.Fx g/\a=Y ⟨g,0,Option.none⟩/\w.cell? ⟨g,k,Option.none⟩=Y (.string x)):sH L w (.iface 225 (.slice a Ls.length cap)) (fN Ls)
 |mask (m:Int):sH L w (.iface 226 (.int .u64 m)) (wE m)
def VT(w:af)(es:Array aC):(binOp bd8 142 an3 an3).run prog w=.ok (.bool Z6) w/\(binOp bd8 142 an3 an3).events prog w es=es:=by
 have e:binOp bd8 142 an3 an3=(ar5 (9999+1) 142 .nilIface .nilIface >>= λb=>pure (.bool b)):=rfl;have hu:=ah1 (w:=w) underlying142;have he:(underlying 142).events prog w es=es:=YU
 rw[e,ar5];simp[hu,he]
def aaT(t:az)(v:aj)(w:af)(es:Array aC):(binOp bd8 142 (.iface t v) an3).run prog w=.ok (.bool E) w/\(binOp bd8 142 (.iface t v) an3).events prog w es=es:=by
 have e:binOp bd8 142 (.iface t v) an3=(ar5 (9999+1) 142 (.iface t v) .nilIface >>= λb=>pure (.bool b)):=rfl;have hu:=ah1 (w:=w) underlying142;have he:(underlying 142).events prog w es=es:=YU
 rw[e,ar5];simp[hu,he]
def O9:∃n,∀(key:ah) (wn:Int) (hv:Bool) (vl:ah) (O:aL) (w:af),L.N<=w.heap.size->
 bG prog main J (RX L) (DX L) 116 #[.agg #[.int .i64 wn,.bool hv,.string vl,.nilIface],.string key] n O w λO' v w'=>v=.bool Z6/\bJ L O w O' w':=by
 co_apply aa1;intro key wn hv vl O w hN;have hF:bJ L O w O w:=bJ.refl hN;co_apply bH func116 Ym rfl;walk_nrmf ntmps116;obtain⟨W,hW⟩:∃W,W=w:=⟨_,rfl⟩
 obtain⟨O1,hO⟩:∃O1,O1=O:=⟨_,rfl⟩
 rw[<-hW,<-hO]at hF⊢;clear hW hO;co_apply (iw);co_apply bM rfl Ym;intro W1 hR K hK;replace hF:=bJ.rely hF hR;clear hR;go_simp;refine hK _ _ ⟨?_,?_⟩
 ·rw[ai1 YU];exact DX.alloc _ _ _
 clear hK K;try walk_nrm
 have hr:W.heap.size<=W1.heap.size:=hF.rel.le;have hG:=And.intro (hF.alloc (.cells #[.int .i64 wn,.bool hv,.string vl,.nilIface] 144)) (OB.new O1 W1 (.cells #[.int .i64 wn,.bool hv,.string vl,.nilIface] 144));clear hF;generalize (O1.grow W1 (W1.alloc (.cells #[.int .i64 wn,.bool hv,.string vl,.nilIface] 144)))=O2 at hG⊢;generalize (W1.alloc (.cells #[.int .i64 wn,.bool hv,.string vl,.nilIface] 144))=W2 at hG⊢;generalize W1.heap.size=r at hG hr⊢;have rl:∀{o:Obj} {Wa Wb:af},(bJ L O1 W O2 Wa/\OB r o O2 Wa)->RX L O2 Wa Wb->(bJ L O1 W O2 Wb/\OB r o O2 Wb):=λh x=>⟨h.1.rely x,h.2.rely x⟩
 have LO:∀{Wa:af},OB r (.cells #[.int .i64 wn,.bool hv,.string vl,.nilIface] 144) O2 Wa->Wa.cell? ⟨r,3,F⟩=Y .nilIface:=λx=>by simp[ad3,x.heap]
 co_apply (oZ);intro _ hG;co_apply (iw);co_apply (oZ);intro _ hG;(co_apply aO rfl Ym;intro _ hR K hK;replace hG:=rl hG hR;clear hR;(have hc:=LO hG.2);go_simp;refine hK _ ⟨?_,?_⟩;(focus(refine DX.still _ _ (cW (b:=E) hG.2.own λe he=>?_);have hm:=ad5 he;simp[go_sem,hc]at hm;subst hm;exact⟨_,rfl,rfl⟩));clear hK K;try walk_nrm);clear hc;have en1:=λw=>(VT w #[]).1;have en2:=λw es=>(VT w es).2;(co_apply aO rfl Ym;intro _ hR K hK;replace hG:=rl hG hR;clear hR;(skip);go_simp;refine hK _ ⟨?_,?_⟩;(focus(rw[ai1 (by simp[go_sem,en2])];exact DX.idle _ _));clear hK K;try walk_nrm);clear en1 en2;(repeat(first|co_apply BJ|co_apply (oZ);intro _ hG|(co_apply (TE);try walk_nrm)|((first|co_apply yK|co_apply yL|co_apply yc);try co_then)));exact .inl ⟨rfl,_,bW (aF L) (am8 Ym _),rfl,hG.1⟩
def KD(nf:Nat):∃n,∀(key:ah) (wn:Int) (hv:Bool) (vl:ah) (t:az) (y:aj) (f:ay) (bb:Bool) (O:aL) (w:af),EP prog t y "MayWrite" f->L.N<=w.heap.size->
 Hid (∀O2 w2,bJ L O w O2 w2->bG prog main J (RX L) (DX L) f #[y,.string key] nf O2 w2 λO' x w'=>x=.bool bb/\bJ L O2 w2 O' w')->
 bG prog main J (RX L) (DX L) 116 #[.agg #[.int .i64 wn,.bool hv,.string vl,(.iface t y)],.string key] n O w λO' v w'=>v=.bool bb/\bJ L O w O' w':=by
 co_apply aa1;intro key wn hv vl t y f bb O w hmt hN qO;have hF:bJ L O w O w:=bJ.refl hN;co_apply bH func116 Ym rfl;walk_nrmf ntmps116;obtain⟨W,hW⟩:∃W,W=w:=⟨_,rfl⟩
 obtain⟨O1,hO⟩:∃O1,O1=O:=⟨_,rfl⟩
 rw[<-hW,<-hO]at hF qO⊢;clear hW hO;co_apply (iw);co_apply bM rfl Ym;intro W1 hR K hK;replace hF:=bJ.rely hF hR;clear hR;go_simp;refine hK _ _ ⟨?_,?_⟩
 ·rw[ai1 YU];exact DX.alloc _ _ _
 clear hK K;try walk_nrm
 have hr:W.heap.size<=W1.heap.size:=hF.rel.le;have hG:=And.intro (hF.alloc (.cells #[.int .i64 wn,.bool hv,.string vl,(.iface t y)] 144)) (OB.new O1 W1 (.cells #[.int .i64 wn,.bool hv,.string vl,(.iface t y)] 144));clear hF;generalize (O1.grow W1 (W1.alloc (.cells #[.int .i64 wn,.bool hv,.string vl,(.iface t y)] 144)))=O2 at hG⊢;generalize (W1.alloc (.cells #[.int .i64 wn,.bool hv,.string vl,(.iface t y)] 144))=W2 at hG⊢;generalize W1.heap.size=r at hG hr⊢;have rl:∀{o:Obj} {Wa Wb:af},(bJ L O1 W O2 Wa/\OB r o O2 Wa)->RX L O2 Wa Wb->(bJ L O1 W O2 Wb/\OB r o O2 Wb):=λh x=>⟨h.1.rely x,h.2.rely x⟩
 have LO:∀{Wa:af},OB r (.cells #[.int .i64 wn,.bool hv,.string vl,(.iface t y)] 144) O2 Wa->Wa.cell? ⟨r,3,F⟩=Y (.iface t y):=λx=>by simp[ad3,x.heap]
 co_apply (oZ);intro _ hG;co_apply (iw);co_apply (oZ);intro _ hG;(co_apply aO rfl Ym;intro _ hR K hK;replace hG:=rl hG hR;clear hR;(have hc:=LO hG.2);go_simp;refine hK _ ⟨?_,?_⟩;(focus(refine DX.still _ _ (cW (b:=E) hG.2.own λe he=>?_);have hm:=ad5 he;simp[go_sem,hc]at hm;subst hm;exact⟨_,rfl,rfl⟩));clear hK K;try walk_nrm);clear hc;have en1:=λw=>(aaT t y w #[]).1;have en2:=λw es=>(aaT t y w es).2;(co_apply aO rfl Ym;intro _ hR K hK;replace hG:=rl hG hR;clear hR;(skip);go_simp;refine hK _ ⟨?_,?_⟩;(focus(rw[ai1 (by simp[go_sem,en2])];exact DX.idle _ _));clear hK K;try walk_nrm);clear en1 en2;co_apply (oZ);intro _ hG;co_apply (oZ);intro _ hG;(co_apply aO rfl Ym;intro _ hR K hK;replace hG:=rl hG hR;clear hR;(have hc:=LO hG.2);go_simp;refine hK _ ⟨?_,?_⟩;(focus(refine DX.still _ _ (cW (b:=E) hG.2.own λe he=>?_);have hm:=ad5 he;simp[go_sem,hc]at hm;subst hm;exact⟨_,rfl,rfl⟩));clear hK K;try walk_nrm);clear hc;co_apply (oZ);intro _ hG;co_apply ER (aF L) rfl Ym rfl Ym hmt (by walk_nrm;exact qO.out _ _ hG.1);rintro O3 x W3 ⟨rfl,hE⟩;replace hE:=hG.1.trans hE;clear hG qO hmt;walk_nrm;(repeat(first|co_apply BJ|(co_apply (vu);intro _ hR;replace hE:=hE.rely hR;clear hR;refine⟨by simp[*,go_sem],λK z=>?_⟩;go_simp;refine z _ ?_;clear z K;try walk_nrm)|((first|co_apply yK|co_apply yL|co_apply yc);try co_then)));exact .inl ⟨rfl,_,bW (aF L) (am8 Ym _),rfl,hE⟩
def pM{R:vn}{D:vo}{f:ay}{args:Array aj}{n':Nat}{Post:aL->aj->af->Prop}(h:bG P main J R D f args n O w Post)(hn:n<=n'):bG P main J R D f args n' O w Post:=by obtain⟨fn,c,n₀,dn,hle,h⟩:=h;exact⟨fn,c,n₀,dn,Nat.le_trans hle hn,h⟩
def aaV:∃n,∀(key:ah) (wn:Int) (hv:Bool) (vl:ah) (si:aj) (fm:ah->Bool) (O:aL) (w:af),sH L w si fm->key.size<=1000->L.N<=w.heap.size->
 bG prog main J (RX L) (DX L) 116 #[.agg #[.int .i64 wn,.bool hv,.string vl,si],.string key] n O w λO' v w'=>v=.bool (fm key)/\bJ L O w O' w':=by
 obtain⟨n0,h0⟩:=O9 (main:=main) (J:=J) (L:=L);obtain⟨nk,hk⟩:=LP (main:=main) (J:=J) (L:=L);obtain⟨nm,hm⟩:=LQ (main:=main) (J:=J) (L:=L);obtain⟨n1,h1⟩:=KD (main:=main) (J:=J) (L:=L) nk;obtain⟨n2,h2⟩:=KD (main:=main) (J:=J) (L:=L) nm;refine⟨n0+n1+n2,λkey wn hv vl si fm O w hS hz hN=>?_⟩;cases hS with
 |none=>exact pM (h0 key wn hv vl O w hN) I
 |keys a Ls cap h8 hc=>exact pM (h1 key wn hv vl _ _ _ (fN Ls key) O w (LV _) hN λO2 w2 hF=>hk key a Ls cap O2 w2 h8 (λk x hx=>by obtain⟨g,hg,e,hh⟩:=hc k x hx;exact⟨g,hg,e,hF.bg hh hg⟩) hF.top) I
 |mask m=>exact pM (h2 key wn hv vl _ _ _ (wE m key) O w (LX _) hN λO2 w2 hF=>hm key m O2 w2 hz hF.top) I
end
section
open Go Go.Conc Go.ConcM Go.RowKit
variable {main:Bool}{L:eI}{pb:Nat}
def afL:∃n,∀(O1:aL) (W:af) (Kf:Nat) (t:Int) (sv aw:Bool) (it:Nat) (old:Wd) (O:aL) (a:Act) (w:af) (Q:eK) (b:Bool),nV a pb t sv aw it old->a.tmps[41]?=Y (.bool b)->dK L O1 W pb Kf (.rd (aw || b) sv (it+1) (decide (t≠0))) 0 O w->
 cZ prog main (jo prog main pb) (RX L) (DX L) 111 (cB (cA (cT (cB (cA dL))))) n (bn (λO' a' w'=>∃aw',nV a' pb t sv aw' it old/\dK L O1 W pb Kf (.rd aw' sv (it+1) (decide (t≠0))) 0 O' w') Q) O a w:=by
 co_apply aa1;intro O1 W Kf t sv aw it old O a w Q b hl h41 hS;dsimp only[rC,dL,bU,cA,cB,cI,cT,cE,f111,aa0];(obtain⟨hd,hsz,g0,g2,g3,g4,g5,g6⟩:=hl;obtain⟨fv,hT,aP⟩:=CP hd hsz;subst hT;simp only[aP 0 _ g0,aP 2 _ g2,aP 3 _ g3,aP 4 _ g4,aP 5 _ g5,aP 6 _ g6,aP 41 _ h41];clear hd hsz aP g0 g2 g3 g4 g5 g6 h41);co_apply fJ (b=Z6)
 ·intro h;subst h;simp only[Bool.or_true]at hS;co_apply (eG);intro _ hS;exact⟨Z6,⟨rfl,rfl,rfl,rfl,rfl,rfl,rfl,rfl⟩,hS⟩
 ·intro h;obtain rfl:b=E:=by simpa using h
  simp only[Bool.or_false]at hS;co_apply (jO);exact⟨aw,⟨rfl,rfl,rfl,rfl,rfl,rfl,rfl,rfl⟩,hS⟩
def Pt:∃n,∀(O1:aL) (W:af) (O:aL) (a:Act) (w:af) (Q:eK),0<O.fu->Xt L O1 W pb O.fu O a w->
 Hid (∀O' a' w',O'.fu<O.fu->Xt L O1 W pb O'.fu O' a' w'->Q O' .normal a' w')->Hid (∀O' a' w',a'.defers= []->a'.tmps.size=139->a'.tmps[0]?=Y (.pointer (Y ⟨pb,0,F⟩))->dK L O1 W pb O.fu .hold 5 O' w'->Q O' (.exit 0) a' w')->
 cZ prog main (jo prog main pb) (RX L) (DX L) 111 (.block 1 dL) n Q O a w:=by
 obtain⟨n1,h1⟩:=afl (main:=main) (L:=L) (pb:=pb);obtain⟨n2,h2⟩:=afm (main:=main) (L:=L) (pb:=pb);obtain⟨n3,h3⟩:=afo (main:=main) (L:=L) (pb:=pb);obtain⟨n7,h7⟩:=afL (main:=main) (L:=L) (pb:=pb);obtain⟨n11,h11⟩:=abh (main:=main) (L:=L) (pb:=pb);obtain⟨n12,h12⟩:=abi (main:=main) (L:=L) (pb:=pb);obtain⟨n14,Xo⟩:=abk (main:=main) (L:=L) (pb:=pb);obtain⟨n16,h16⟩:=abl (main:=main) (L:=L) (pb:=pb);obtain⟨n18,h18⟩:=abm (main:=main) (L:=L) (pb:=pb);obtain⟨n22,h22⟩:=abr (main:=main) (L:=L) (pb:=pb);obtain⟨n23,h23⟩:=abt (main:=main) (L:=L) (pb:=pb);obtain⟨n24,h24⟩:=abu (main:=main) (L:=L) (pb:=pb);obtain⟨n25,h25⟩:=abv (main:=main) (L:=L) (pb:=pb);obtain⟨n27,h27⟩:=abx (main:=main) (L:=L) (pb:=pb);obtain⟨n28,h28⟩:=aby (main:=main) (L:=L) (pb:=pb);obtain⟨n29,h29⟩:=abz (main:=main) (L:=L) (pb:=pb);obtain⟨n30,h30⟩:=abA (main:=main) (L:=L) (pb:=pb);obtain⟨n37,h37⟩:=abB (main:=main) (L:=L) (pb:=pb);obtain⟨n39,h39⟩:=abC (main:=main) (L:=L) (pb:=pb);co_apply aa1;intro O1 W O a w Q hfu hI hN hX;have XJ:∀(Kf:Nat) (O':aL) (a':Act) (w':af),Kf<O.fu->Xt L O1 W pb Kf O' a' w'->O'.fu<O.fu/\Xt L O1 W pb O'.fu O' a' w':=by rintro Kf O' a' w' hK ⟨t,sv,aw,it,old,q1,q2,q3,q4⟩;exact⟨by have:=q4.fu;omega,t,sv,aw,it,old,q1,q2,q3,q4.fr,q4.ok,q4.pos,q4.no,zbe _,q4.sh⟩
 obtain⟨t,sv,aw,it,old,hl,hc,hit,hS⟩:=hI;co_apply fP (aF L);co_apply aM (aF L) (x:=cA dL) (y:=cB dL) (λO' a' w'=>nV a' pb t sv aw it old/\dK L O1 W pb O.fu (.sG old aw sv it (decide (t≠0))) 0 O' w')
 ·co_apply aM (aF L) (x:=cA (cA dL)) (y:=cB (cA dL)) _
  ·exact h1 O1 W O.fu t sv aw it old O a w _ hl hc hS
  ·rintro O' a' w' ⟨hl,b,Xl,hb⟩;have e20:a'.eval (.tmp 20)=.bool b:=by simp[ah6,Xl]
   co_apply aW (aF L) (t:=b) (x:=cT (cB (cA dL))) (y:=.skip) e20
   ·intro Ob;obtain⟨hlt,hol,hos,hS⟩:it<4/\old.l=Z6/\old.s=E/\dK L O1 W pb (O.fu-1) (spT old aw sv it (decide (t≠0))) 0 O' w':=by
     rcases hb with⟨e,_⟩|⟨_,h⟩
     ·rw[Ob]at e;cases e
     ·exact h
    co_apply aM (aF L) (x:=cA (cT (cB (cA dL)))) (y:=cB (cT (cB (cA dL)))) (λO' a' w'=>∃aw',nV a' pb t sv aw' it old/\dK L O1 W pb (O.fu-1) (.rd aw' sv (it+1) (decide (t≠0))) 0 O' w')
    ·co_apply aM (aF L) (x:=cA (cA (cT (cB (cA dL))))) (y:=cB (cA (cT (cB (cA dL))))) _
     ·exact h2 O1 W (O.fu-1) t sv aw it old O' a' w' _ hl hc hS
     ·rintro O' a' w' ⟨hl,b,h41,hS⟩;exact h7 O1 W (O.fu-1) t sv aw it old O' a' w' _ b hl h41 hS
    ·rintro O' a' w' ⟨aw',hl,hS⟩;exact h3 O1 W (O.fu-1) t sv aw' it old O' a' w' _ hl hlt hS (λO' a' w' h=>by have:=XJ _ _ _ _ I h;exact hN.out _ _ _ this.1 this.2)
   ·intro XF;co_apply jr (aF L);rcases hb with⟨_,h⟩|⟨e,_⟩
    ·exact⟨hl,h⟩
    ·rw[XF]at e;cases e
 ·rintro O' a' w' ⟨hl,hS⟩;co_apply aM (aF L) (x:=cA (cB dL)) (y:=cB (cB dL)) _;focus exact h11 O1 W O.fu t sv aw it old O' a' w' _ hl hc hS
  rintro O' a' w' ⟨hl,g7,hS⟩;co_apply aM (aF L) (x:=cA (cB (cB dL))) (y:=cB (cB (cB dL))) _;focus exact h12 O1 W O.fu t sv aw it old O' a' w' _ hl g7 hc hS
  rintro O' a' w' ⟨hl,g7,hS⟩;co_apply aM (aF L) (x:=cA (cB (cB (cB dL)))) (y:=cB (cB (cB (cB dL)))) _;focus exact Xo O1 W O.fu t sv aw it old O' a' w' _ hl g7 hc hS
  rintro O' a' w' ⟨hl,g7,hS⟩;co_apply aM (aF L) (x:=cA (cB (cB (cB (cB dL))))) (y:=cB (cB (cB (cB (cB dL))))) _;focus exact h16 O1 W O.fu t sv aw it old O' a' w' _ hl g7 hc hS
  rintro O' a' w' ⟨hl,g7,hS⟩;co_apply aM (aF L) (x:=cA (cB (cB (cB (cB (cB dL)))))) (y:=cB (cB (cB (cB (cB (cB dL)))))) _;focus exact h18 O1 W O.fu t sv aw it old O' a' w' _ hl g7 hc hS
  rintro O' a' w' ⟨hl,g7,hS⟩;co_apply aM (aF L) (x:=cA (cB (cB (cB (cB (cB (cB dL))))))) (y:=cB (cB (cB (cB (cB (cB (cB dL))))))) _;focus exact h22 O1 W O.fu t sv aw it old O' a' w' _ hl g7 hc hS
  rintro O' a' w' ⟨hl,b,h80,hb⟩;have e80:a'.eval (.tmp 80)=.bool b:=by simp[ah6,h80]
  co_apply aW (aF L) (t:=b) (x:=rC) (y:=cE (cB (cB (cB (cB (cB (cB (cB dL)))))))) e80
  ·intro Ob;replace hS:dK L O1 W pb (O.fu-1) (tZ old sv (decide (t≠0))) (gW (tZ old sv (decide (t≠0)))) O' w':=by
    rcases hb with⟨_,h⟩|⟨e,_⟩
    ·exact h
    ·rw[Ob]at e;cases e
   have hX':∀O' a' w',a'.defers= []->a'.tmps.size=139->a'.tmps[0]?=Y (.pointer (Y ⟨pb,0,F⟩))->dK L O1 W pb (O.fu-1) .hold 5 O' w'->ju 1 Q O' (.exit 0) a' w':=λO' a' w' q1 q2 q3 q4=>hX.out O' a' w' q1 q2 q3 (q4.weak I);co_apply aM (aF L) (x:=cA rC) (y:=cB rC) _;focus exact h23 O1 W (O.fu-1) t sv aw it old O' a' w' _ hl hc hS hX'
   rintro O' a' w' ⟨hl,hS⟩;co_apply aM (aF L) (x:=cA (cB rC)) (y:=cB (cB rC)) _;focus exact h24 O1 W (O.fu-1) t sv aw it old O' a' w' _ hl hS
   rintro O' a' w' ⟨hl,hS⟩;co_apply aM (aF L) (x:=cA (cB (cB rC))) (y:=cB (cB (cB rC))) _;focus exact h25 O1 W (O.fu-1) t sv aw it old O' a' w' _ hl hS
   rintro O' a' w' ⟨t',hl,hS⟩;co_apply aM (aF L) (x:=cA (cB (cB (cB rC)))) (y:=cB (cB (cB (cB rC)))) _;focus exact h27 O1 W (O.fu-1) t' sv aw it old O' a' w' _ hl hS
   rintro O' a' w' ⟨hl,hS⟩;co_apply aM (aF L) (x:=cA (cB (cB (cB (cB rC))))) (y:=cB (cB (cB (cB (cB rC))))) _;focus exact h28 O1 W (O.fu-1) t' sv aw it old O' a' w' _ hl hS
   rintro O' a' w' ⟨sv',hl,hS⟩;co_apply aM (aF L) (x:=cA (cB (cB (cB (cB (cB rC)))))) (y:=cB (cB (cB (cB (cB (cB rC)))))) _;focus exact h29 O1 W (O.fu-1) t' sv' aw it old O' a' w' _ hl hS
   rintro O' a' w' ⟨x,xC,hx3,hl,hS⟩;co_apply aM (aF L) (x:=cA (cB (cB (cB (cB (cB (cB rC))))))) (y:=cB (cB (cB (cB (cB (cB (cB rC))))))) _;focus exact h30 O1 W (O.fu-1) t' sv' aw it x O' a' w' _ hl xC hx3 (hS.weak I) hX'
   rintro O' a' w' ⟨hl,hS⟩;refine h37 O1 W (O.fu-1) t' sv' aw it x O' a' w' _ hl hS ?_;intro O' a' w' hl hS;have:=XJ (O.fu-1) O' a' w' I ⟨t',sv',Z6,0,x,hl,xC,I,hS⟩;exact hN.out _ _ _ this.1 this.2
  ·intro XF;replace hS:dK L O1 W pb (O.fu-1) (.rd aw sv it (decide (t≠0))) 0 O' w':=by
    rcases hb with⟨e,_⟩|⟨_,h⟩
    ·rw[XF]at e;cases e
    ·exact h
   refine h39 O1 W (O.fu-1) t sv aw it old O' a' w' _ hl hS ?_;intro O' a' w' x xC hl hS;have:=XJ (O.fu-1-1) O' a' w' I ⟨t,sv,aw,it,x,hl,xC,hit,hS⟩;exact hN.out _ _ _ this.1 this.2
def XK:∃n,∀(O1:aL) (W:af) (k:Nat) (O:aL) (a:Act) (w:af) (Q:eK),a.defers= []->a.tmps.size=139->a.tmps[0]?=Y (.pointer (Y ⟨pb,0,F⟩))->dK L O1 W pb k .hold 5 O w->Hid (∀O' a' w',a'.defers= []->dK L O1 W pb k .hold 3 O' w'->Q O' .normal a' w')->
 cZ prog main (jo prog main pb) (RX L) (DX L) 111 (cB (cB (cB (cB (cB (cB bU)))))) n Q O a w:=by co_apply aa1;intro O1 W k O a w Q hd hsz g0 hS hQ;obtain⟨fv,hT,aP⟩:=CP hd hsz;subst hT;simp only[aP 0 _ g0];clear hd hsz aP g0;dsimp only[bU,cA,cB,cI,cT,cE,f111,aa0];co_apply (jO);co_apply j9 (n:=0) hS.pos (T':=.hold) (m':=4) (λx v=>by simp[gE]) XI (λ_ _ _ _ hk _=>av5 .enable XI rfl Ym hk rfl func109 Yl Yl Yl Yl) (bk_en pb) rfl;intro W1 hR;replace hS:=(hS.rely hR).jump (T':=.hold) (m':=4) (bA.refl pb W1);generalize aL.jump _ _ _=O2 at hS⊢;clear hR;walk_nrm;co_apply (eG);intro _ hS;(co_apply aO rfl Ym;intro _ hR K hK;replace hS:=dK.rely hS hR;clear hR;(obtain⟨cv,hcv⟩:=hS.cell;have Xk:=ap2 (P:=prog) (src:=204) (dst:=208) underlying204 underlying208 Tryz.bD.room_tIMutex hcv;have hce:=λes=>an5 (P:=prog) (src:=204) (dst:=208) underlying204 underlying208 Tryz.bD.room_tIMutex hcv es);go_simp;refine hK _ ⟨?_,?_⟩;(focus(rw[ai1 (by simp[go_sem,hce])];exact DX.idle _ _));clear hK K;try walk_nrm);co_apply j9 (n:=0) hS.pos (T':=.hold) (m':=3) (λx v=>by simp[gE]) XI (λ_ _ _ _ hk _=>stepG_markAt .acquire XI rfl Ym hk rfl func110 Yl Yl Yl Yl (ad:=⟨pb,0,F⟩) (by first|(walk_nrm;done)|simp[ah6])) (OM pb) rfl;intro W1 hR;replace hS:=(hS.rely hR).jump (T':=.hold) (m':=3) (bA.refl pb W1);generalize aL.jump _ _ _=O2 at hS⊢;clear hR;walk_nrm;co_apply (jO);exact hQ.out _ _ _ rfl (hS.weak I)
def Ia:∃n,∀(O1:aL) (W:af) (k:Nat) (O:aL) (w:af),dK L O1 W pb k (.rd E E 0 E) 0 O w->
 bG prog main (jo prog main pb) (RX L) (DX L) 111 #[.pointer (Y ⟨pb,0,F⟩)] n O w λO' v w'=>v=.tuple #[]/\dK L O1 W pb k .hold 3 O' w':=by
 obtain⟨nr,hr⟩:=Pt (main:=main) (L:=L) (pb:=pb);obtain⟨ne,he⟩:=XK (main:=main) (L:=L) (pb:=pb);co_apply aa1;intro O1 W k O w hS;co_apply bH func111 Ym rfl;walk_nrmf ntmps111;change cZ prog main (jo prog main pb) (RX L) (DX L) 111 bU _ _ _ _ _;co_apply aM (aF L) (x:=cA bU) (y:=cB bU) (λO' a' w'=>a'=⟨#[.pointer (Y ⟨pb,0,F⟩),undef,.int .i64 0,undef,undef,undef,undef,undef,undef,undef,undef,undef,undef,undef,undef,undef,undef,undef,undef,undef,undef,undef,undef,undef,undef,undef,undef,undef,undef,undef,undef,undef,undef,undef,undef,undef,undef,undef,undef,undef,undef,undef,undef,undef,undef,undef,undef,undef,undef,undef,undef,undef,undef,undef,undef,undef,undef,undef,undef,undef,undef,undef,undef,undef,undef,undef,undef,undef,undef,undef,undef,undef,undef,undef,undef,undef,undef,undef,undef,undef,undef,undef,undef,undef,undef,undef,undef,undef,undef,undef,undef,undef,undef,undef,undef,undef,undef,undef,undef,undef,undef,undef,undef,undef,undef,undef,undef,undef,undef,undef,undef,undef,undef,undef,undef,undef,undef,undef,undef,undef,undef,undef,undef,undef,undef,undef,undef,undef,undef,undef,undef,undef,undef,undef,undef,undef,undef,undef,undef], []⟩/\dK L O1 W pb k (.rd E E 0 E) 0 O' w')
 ·dsimp only[bU,cA,cB,f111,aa0];co_apply (eG);intro _ hS;exact⟨Z5,hS⟩
 rintro O a w ⟨rfl,hS⟩;co_apply aM (aF L) (x:=cA (cB bU)) (y:=cB (cB bU)) (λO' a' w'=>a'=⟨#[.pointer (Y ⟨pb,0,F⟩),undef,.int .i64 0,.bool E,undef,undef,undef,undef,undef,undef,undef,undef,undef,undef,undef,undef,undef,undef,undef,undef,undef,undef,undef,undef,undef,undef,undef,undef,undef,undef,undef,undef,undef,undef,undef,undef,undef,undef,undef,undef,undef,undef,undef,undef,undef,undef,undef,undef,undef,undef,undef,undef,undef,undef,undef,undef,undef,undef,undef,undef,undef,undef,undef,undef,undef,undef,undef,undef,undef,undef,undef,undef,undef,undef,undef,undef,undef,undef,undef,undef,undef,undef,undef,undef,undef,undef,undef,undef,undef,undef,undef,undef,undef,undef,undef,undef,undef,undef,undef,undef,undef,undef,undef,undef,undef,undef,undef,undef,undef,undef,undef,undef,undef,undef,undef,undef,undef,undef,undef,undef,undef,undef,undef,undef,undef,undef,undef,undef,undef,undef,undef,undef,undef,undef,undef,undef,undef,undef,undef], []⟩/\dK L O1 W pb k (.rd E E 0 E) 0 O' w')
 ·dsimp only[bU,cA,cB,f111,aa0];co_apply (eG);intro _ hS;exact⟨Z5,hS⟩
 rintro O a w ⟨rfl,hS⟩;co_apply aM (aF L) (x:=cA (cB (cB bU))) (y:=cB (cB (cB bU))) (λO' a' w'=>a'=⟨#[.pointer (Y ⟨pb,0,F⟩),undef,.int .i64 0,.bool E,.bool E,undef,undef,undef,undef,undef,undef,undef,undef,undef,undef,undef,undef,undef,undef,undef,undef,undef,undef,undef,undef,undef,undef,undef,undef,undef,undef,undef,undef,undef,undef,undef,undef,undef,undef,undef,undef,undef,undef,undef,undef,undef,undef,undef,undef,undef,undef,undef,undef,undef,undef,undef,undef,undef,undef,undef,undef,undef,undef,undef,undef,undef,undef,undef,undef,undef,undef,undef,undef,undef,undef,undef,undef,undef,undef,undef,undef,undef,undef,undef,undef,undef,undef,undef,undef,undef,undef,undef,undef,undef,undef,undef,undef,undef,undef,undef,undef,undef,undef,undef,undef,undef,undef,undef,undef,undef,undef,undef,undef,undef,undef,undef,undef,undef,undef,undef,undef,undef,undef,undef,undef,undef,undef,undef,undef,undef,undef,undef,undef,undef,undef,undef,undef,undef,undef], []⟩/\dK L O1 W pb k (.rd E E 0 E) 0 O' w')
 ·dsimp only[bU,cA,cB,f111,aa0];co_apply (eG);intro _ hS;exact⟨Z5,hS⟩
 rintro O a w ⟨rfl,hS⟩;co_apply aM (aF L) (x:=cA (cB (cB (cB bU)))) (y:=cB (cB (cB (cB bU)))) (λO' a' w'=>a'=⟨#[.pointer (Y ⟨pb,0,F⟩),undef,.int .i64 0,.bool E,.bool E,.int .i64 0,undef,undef,undef,undef,undef,undef,undef,undef,undef,undef,undef,undef,undef,undef,undef,undef,undef,undef,undef,undef,undef,undef,undef,undef,undef,undef,undef,undef,undef,undef,undef,undef,undef,undef,undef,undef,undef,undef,undef,undef,undef,undef,undef,undef,undef,undef,undef,undef,undef,undef,undef,undef,undef,undef,undef,undef,undef,undef,undef,undef,undef,undef,undef,undef,undef,undef,undef,undef,undef,undef,undef,undef,undef,undef,undef,undef,undef,undef,undef,undef,undef,undef,undef,undef,undef,undef,undef,undef,undef,undef,undef,undef,undef,undef,undef,undef,undef,undef,undef,undef,undef,undef,undef,undef,undef,undef,undef,undef,undef,undef,undef,undef,undef,undef,undef,undef,undef,undef,undef,undef,undef,undef,undef,undef,undef,undef,undef,undef,undef,undef,undef,undef,undef], []⟩/\dK L O1 W pb k (.rd E E 0 E) 0 O' w')
 ·dsimp only[bU,cA,cB,f111,aa0];co_apply (eG);intro _ hS;exact⟨Z5,hS⟩
 rintro O a w ⟨rfl,hS⟩;co_apply aM (aF L) (x:=cA (cB (cB (cB (cB bU))))) (y:=cB (cB (cB (cB (cB bU))))) (λO' a' w'=>O'.fu<=k/\Xt L O1 W pb O'.fu O' a' w')
 ·dsimp only[bU,cA,cB,f111,aa0];co_apply (eG);intro _ hS;co_apply CS (n:=0) hS rfl Ym (λ_ _ hx=>run_eq_of (by intro K hK;go_simp;exact hK)) (λ_ _ hx=>gJ (ad:=⟨pb,0,F⟩) Ym (by simp[go_sem,hx]));intro O2 W1 x hx gN;walk_nrm;co_apply (Zw);intro _ gN;exact⟨by have:=gN.fu;omega,0,E,E,0,x,⟨rfl,rfl,rfl,rfl,rfl,rfl,rfl,rfl⟩,hx,I,gN.fr,gN.ok,gN.pos,gN.no,zbe _,gN.sh⟩
 rintro O a w ⟨hk,hI⟩;co_apply aM (aF L) (x:=.block 0 (.loop (.block 1 dL))) (y:=cB (cB (cB (cB (cB (cB bU)))))) (λO' a' w'=>a'.defers= []/\a'.tmps.size=139/\a'.tmps[0]?=Y (.pointer (Y ⟨pb,0,F⟩))/\dK L O1 W pb k .hold 5 O' w')
 ·co_apply fP (aF L);co_apply vq (aF L) (λO a w=>O.fu<=k/\Xt L O1 W pb O.fu O a w) nr
  ·exact⟨hk,hI⟩
  rintro O a w ⟨hk,hI⟩ hfu;refine hr O1 W O a w _ hfu hI ?_ ?_
  ·exact λO' a' w' h1 h2=>⟨h1,I,h2⟩
  ·exact λO' a' w' q1 q2 q3 q4=>⟨q1,q2,q3,q4.weak hk⟩
 rintro O a w ⟨q1,q2,q3,hS⟩;refine he O1 W k O a w _ q1 q2 q3 hS ?_;exact λO' a' w' hd h=>.inl ⟨hd,_,bW (aF L) (ap3 Ym _),rfl,h⟩
def TK:∃n,∀(O1:aL) (W:af) (k:Nat) (O:aL) (w:af),dK L O1 W pb k .vk 1 O w->
 bG prog main (jo prog main pb) (RX L) (DX L) 70 #[.pointer (Y ⟨pb,0,F⟩)] n O w λO' v w'=>v=.tuple #[]/\dK L O1 W pb k .hold 3 O' w':=by
 obtain⟨ns,hs⟩:=Ia (main:=main) (L:=L) (pb:=pb);co_apply aa1;intro O1 W k O w hS;co_apply bH func70 Ym rfl;walk_nrmf ntmps70;co_apply aM (aF L) (λO' a' w'=>a'=⟨#[.pointer (Y ⟨pb,0,F⟩),undef,.tuple #[],undef,undef,undef,undef,undef,undef,undef,undef,undef,undef], []⟩/\dK L O1 W pb k .vk 0 O' w')
 ·co_apply (jO);co_apply j9 (n:=0) hS.pos (T':=.vk) (m':=0) (λx v=>by simp[gE]) XI (λ_ _ _ _ hk _=>av5 .disable XI rfl Ym hk rfl func107 Yl Yl Yl Yl) (bk_dis pb) rfl;intro W1 hR;replace hS:=(hS.rely hR).jump (T':=.vk) (m':=0) (bA.refl pb W1);generalize aL.jump _ _ _=O2 at hS⊢;clear hR;walk_nrm;co_apply (jO);exact⟨Z5,hS.weak I⟩
 rintro O a w ⟨rfl,hS⟩;co_apply aM (aF L) (λO' a' w'=>∃v3 v4 v5 v6,a'=⟨#[.pointer (Y ⟨pb,0,F⟩),undef,.tuple #[],v3,v4,v5,v6,undef,undef,undef,undef,undef,undef], []⟩/\dK L O1 W pb k (.rd E E 0 E) 0 O' w')
 ·co_apply aM (aF L) (λO' a' w'=>∃v3 v4 v5,∃b:Bool,a'=⟨#[.pointer (Y ⟨pb,0,F⟩),undef,.tuple #[],v3,v4,v5,.bool b,undef,undef,undef,undef,undef,undef], []⟩/\(b=Z6/\dK L O1 W pb k .hold 5 O' w'\/b=E/\dK L O1 W pb k (.rd E E 0 E) 0 O' w'))
  ·co_apply (eG);intro _ hS;co_apply tQ (n:=0) (old:=⟨E,E,E,0⟩) (nw:=⟨Z6,E,E,0⟩) (T1:=.hold) (T2:=.rd E E 0 E) hS.pos XI rfl rfl Ym rfl func108 Yl Yl Yl Yl Ym Ym Ym (λv _=>by simp[gE,iq,gW]) (λx v hx _=>by simp[gE,iq,gW,hx]) rfl rfl
   ·intro W1 hR v hM _;replace hS:=(hS.rely hR).jump (T':=.hold) (m':=5) (bA.set pb W1 0 (.int .i32 ((⟨Z6,E,E,0⟩:Wd).val:Nat)) I);simp only[gW];generalize aL.jump _ _ _=O2 at hS⊢;clear hR hM;generalize W1.setCell _ _=W2 at hS⊢;walk_nrm;co_apply (jO);exact⟨_,_,_,Z6,rfl,.inl ⟨rfl,hS.weak I⟩⟩
   ·intro W1 hR x v hx hM _;replace hS:=(hS.rely hR).jump (T':=.rd E E 0 E) (m':=0) (bA.refl pb W1);simp only[gW];generalize aL.jump _ _ _=O2 at hS⊢;clear hR hM hx;walk_nrm;co_apply (jO);exact⟨_,_,_,E,rfl,.inr ⟨rfl,hS.weak I⟩⟩
  ·rintro O a w ⟨v3,v4,v5,b,rfl,hb⟩;co_apply aW (aF L) (t:=b) (by simp[ah6])
   ·intro h;subst h;replace hS:=hb.elim (λh=>h.2) (λh=>by cases h.1);clear hb;co_apply (jO);co_apply j9 (n:=0) hS.pos (T':=.hold) (m':=4) (λx v=>by simp[gE]) XI (λ_ _ _ _ hk _=>av5 .enable XI rfl Ym hk rfl func109 Yl Yl Yl Yl) (bk_en pb) rfl;intro W1 hR;replace hS:=(hS.rely hR).jump (T':=.hold) (m':=4) (bA.refl pb W1);generalize aL.jump _ _ _=O2 at hS⊢;clear hR;walk_nrm;co_apply (eG);intro _ hS;(co_apply aO rfl Ym;intro _ hR K hK;replace hS:=dK.rely hS hR;clear hR;(obtain⟨cv,hcv⟩:=hS.cell;have Xk:=ap2 (P:=prog) (src:=204) (dst:=208) underlying204 underlying208 Tryz.bD.room_tIMutex hcv;have hce:=λes=>an5 (P:=prog) (src:=204) (dst:=208) underlying204 underlying208 Tryz.bD.room_tIMutex hcv es);go_simp;refine hK _ ⟨?_,?_⟩;(focus(rw[ai1 (by simp[go_sem,hce])];exact DX.idle _ _));clear hK K;try walk_nrm);co_apply j9 (n:=0) hS.pos (T':=.hold) (m':=3) (λx v=>by simp[gE]) XI (λ_ _ _ _ hk _=>stepG_markAt .acquire XI rfl Ym hk rfl func110 Yl Yl Yl Yl (ad:=⟨pb,0,F⟩) (by first|(walk_nrm;done)|simp[ah6])) (OM pb) rfl;intro W1 hR;replace hS:=(hS.rely hR).jump (T':=.hold) (m':=3) (bA.refl pb W1);generalize aL.jump _ _ _=O2 at hS⊢;clear hR;walk_nrm;co_apply (jO);exact .inl ⟨rfl,_,bW (aF L) (ap3 Ym _),rfl,hS.weak I⟩
   ·intro h;subst h;replace hS:=hb.elim (λh=>by cases h.1) (λh=>h.2);clear hb;co_apply (jO);exact⟨_,_,_,_,rfl,hS⟩
 rintro O a w ⟨v3,v4,v5,v6,rfl,hS⟩;co_apply (eG);intro _ hS;co_apply bX (aF L) rfl Ym rfl (by walk_nrm;exact hs O1 W k _ _ hS);rintro O2 x W2 ⟨rfl,gN⟩;walk_nrm;co_apply (jO);exact .inl ⟨rfl,_,bW (aF L) (ap3 Ym _),rfl,gN⟩
def XL:∃n,∀(O1:aL) (W:af) (k:Nat) (O:aL) (w:af),dK L O1 W pb k .vk 1 O w->
 bG prog main (jo prog main pb) (RX L) (DX L) 37 #[.pointer (Y ⟨pb,0,F⟩)] n O w λO' v w'=>v=.tuple #[]/\dK L O1 W pb k .hold 3 O' w':=by obtain⟨ns,hs⟩:=TK (main:=main) (L:=L) (pb:=pb);co_apply aa1;intro O1 W k O w hS;co_apply bH func37 Ym rfl;walk_nrmf ntmps37;co_apply (eG);intro _ hS;co_apply bX (aF L) rfl Ym rfl (by walk_nrm;exact hs O1 W k _ _ hS);rintro O2 x W2 ⟨rfl,gN⟩;walk_nrm;co_apply (jO);exact .inl ⟨rfl,_,bW (aF L) (ap3 Ym _),rfl,gN⟩
end
section
open Go Go.Conc Go.RowKit Go.MuLone
section
variable {P:aB}{t:az}
def AV(hu:P.underlying t=Y .string)(s:ah)(y:aj)(w:af)(es:Array aC):(Op.equal t (.string s) y).events P w es=es:=by
 show (ar5 (9999+1) t (.string s) y).events P w es=es;rw[ar5];rw[ag9,ah1 hu];simp only[ai0,aq4];repeat' split
 all_goals first|rfl|simp_all
def yP(hu:P.underlying t=Y .string)(s:ah)(l:List MapEntry)(i:Nat)(w:af)(es:Array aC):(av3 t (.string s) l i).events P w es=es:=by
 induction l generalizing i w es with
 |nil=>rfl
 |cons e l ih=>
  rw[av3,ag9,AV hu s];cases (Op.equal t (.string s) e.key).run P w with
  |ok b w'=>cases b<;>simp[ih]
  |halt h w'=>rfl
def ES(hu:P.underlying t=Y .string)(s:ah)(l:List MapEntry)(w:af)(es:Array aC):(au5 t (.string s) l).events P w es=es:=by
 rw[au5,ag9,ah1 hu];simp only[ai0,aq4];split
 ·rfl
 ·exact yP hu s _ _ _ _
def CQ(hu:P.underlying t=Y .string)(s:ah)(b:Bool)(w:af)(es:Array aC):(aq5 b 10000 t (.string s)).events P w es=es:=by show (aq5 b (9999+1) t (.string s)).events P w es=es;rw[aq5,ag9,ah1 hu];simp only[ai0,aq4];rfl
def yQ(hu:P.underlying t=Y .string)(s:ah){mt e:az}(ht:P.underlying mt=Y (.map t e))(b:Nat)(w:af)(hb:w.heap[b]?=Y (.map en cl)):
 ∀ev∈(aq7 mt (.map (Y b)) (.string s) E).events P w #[],ev=⟨.obj b,E,E⟩:=by
 intro ev h;have g1:(getObj b).run P w=.ok (.map en cl) w:=by simp[getObj,ak0,hb]
 have g2:(getObj b).events P w #[]=#[⟨.obj b,E,E⟩]:=by simp only[getObj,bb9,Sem.runT,hb,be1];rfl
 unfold aq7 at h;simp only[ag9,ah1 ht,ai0,aq4,g1,g2,bf2,bf3,CQ hu s]at h;cases hc:(aq5 en.isEmpty 10000 t (.string s)).run P w with
 |halt x w'=>rw[hc]at h;simpa[at1]using h
 |ok u w1=>
  rw[hc]at h;simp only[ai0,ES hu s]at h;cases hf:(au5 t (.string s) en.toList).run P w1 with
  |halt x w'=>rw[hf]at h;simpa[at1,aj7]using h
  |ok r w2=>
   rw[hf]at h;cases r with
   |none=>
    simp only[ai0,ag9,events_zeroValue]at h;revert h;cases (zeroValue e).run P w2<;>simp[at1]
   |some p=>simpa using h
end
section
variable {P:aB}
def iy(hb:w.heap[b]?=Y (.map en cl))(es:Array aC):(getObj b).run P w=.ok (.map en cl) w/\(getObj b).events P w es=es.push ⟨.obj b,E,E⟩:=
 ⟨by simp[getObj,ak0,hb],by simp only[getObj,bb9,Sem.runT,hb,be1]⟩
def je{seen:Array Nat}(hb:w.heap[b]?=Y (.mapIter m s0 seen l))(es:Array aC):(getObj b).run P w=.ok (.mapIter m s0 seen l) w/\(getObj b).events P w es=es.push ⟨.obj b,E,E⟩:=
 ⟨by simp[getObj,ak0,hb],by simp only[getObj,bb9,Sem.runT,hb,be1]⟩
def Hx{mt k e:az}(ht:P.underlying mt=Y (.map k e))(hb:w.heap[b]?=Y (.map en cl)):
 (Instr.range mt (.map (Y b))).run P w=.ok (.pointer (Y ⟨w.heap.size,0,F⟩)) (w.alloc (.mapIter (Y b) cl #[] cl))/\(Instr.range mt (.map (Y b))).events P w #[]=#[⟨.obj b,E,E⟩]:=by
 have g1:=(iy (P:=P) hb #[]).1;have g2:=(iy (P:=P) hb #[]).2;unfold Instr.range;constructor
 ·simp[ah1 ht,g1]
 ·simp[ah1 ht,g1,g2]
def ET{seen:Array Nat}(hb:w.heap[r]?=Y (.mapIter m s0 seen l))(m':Option Nat)(s1 l':Nat)(seen':Array Nat)(es:Array aC):(setObj r (.mapIter m' s1 seen' l')).events P w es=es.push ⟨.obj r,Z6,E⟩/\∃w',(setObj r (.mapIter m' s1 seen' l')).run P w=.ok () w':=
 ⟨by simp[setObj,bb9,Sem.runT,hb,be1,-Sem.runT_eq],by simp[setObj,ak0,hb]⟩
def Pa{seen:Array Nat}{ty:az}(hi:w.heap[r]?=Y (.mapIter (Y b) s0 seen l))(hb:w.heap[b]?=Y (.map en cl)):
 ∀ev∈(Instr.next (.pointer (Y ⟨r,0,F⟩)) E ty).events P w #[],ev=⟨.obj r,E,E⟩\/ev=⟨.obj b,E,E⟩\/ev=⟨.obj r,Z6,E⟩:=by
 have g1:=(iy (P:=P) hb #[]).1;have g2:=λes=>(iy (P:=P) hb es).2;have i1:=(je (P:=P) hi #[]).1;have i2:=λes=>(je (P:=P) hi es).2;intro ev h;unfold Instr.next at h
 simp only[ag9,i1,i2,ai0,g1,g2]at h;split at h
 ·rw[ag9]at h;have hu:∀(u:Unsupported) (w:af),∃x w',(unsupported u:Sem Unit).run P w=.halt x w':=λu w=>⟨_,_,rfl⟩
  obtain⟨x,w',e⟩:=hu (.noEntry "instr/Next: every entry that the ranged map held at the last iteration is gone, and it holds new ones") w;rw[e]at h;simp[at1]at h;rcases h with h|h
  ·exact .inl h
  ·exact .inr (.inl h)
 ·generalize (_:Array (Option MapEntry))++_=C at h;have key:∀(j:Nat) (w':af),w'.heap=w.heap->ev∈(match C[j]? with|some (Y e)=>(do setObj r (.mapIter (Y b) s0 (seen.push e.born) cl);pure (Value.tuple #[Value.bool Z6,e.key,e.val]):Sem aj)|some F=>pure (Value.tuple #[Value.bool E])|none=>stuck "Next: no such candidate").events P w' ((#[].push (⟨.obj r,E,E⟩:aC)).push ⟨.obj b,E,E⟩)->ev=⟨.obj r,E,E⟩\/ev=⟨.obj b,E,E⟩\/ev=⟨.obj r,Z6,E⟩:=by
   intro j w' hw h;have hi':=hi;rw[<-hw]at hi';split at h
   ·rename_i e _;obtain⟨q1,w2,q2⟩:=ET (P:=P) hi' (Y b) s0 cl (seen.push e.born) ((#[].push ⟨.obj r,E,E⟩).push ⟨.obj b,E,E⟩);rw[ag9,q1,q2]at h;simp[at1]at h;rcases h with h|h|h
    ·exact .inl h
    ·exact .inr (.inl h)
    ·exact .inr (.inr h)
   ·simp at h;rcases h with h|h
    ·exact .inl h
    ·exact .inr (.inl h)
   ·have hs:(stuck "Next: no such candidate" :Sem aj).events P w' ((#[].push (⟨.obj r,E,E⟩:aC)).push ⟨.obj b,E,E⟩)=((#[].push (⟨.obj r,E,E⟩:aC)).push ⟨.obj b,E,E⟩):=rfl;rw[hs]at h;simp at h;rcases h with h|h
    ·exact .inl h
    ·exact .inr (.inl h)
  rw[ag9,events_choose,run_choose]at h;split at h
  ·exact key _ w rfl h
  ·exact key _ {w with drawn:=w.drawn+1} rfl h
def LY{seen:Array Nat}(hi:w.heap[r]?=Y (.mapIter (Y b) s0 seen l))(hb:w.heap[b]?=Y (.map en cl)):
 ∀ev∈(aq1 (.pointer (Y ⟨r,0,F⟩))).events P w #[],ev=⟨.obj r,E,E⟩\/ev=⟨.obj b,E,E⟩:=by
 have g1:=(iy (P:=P) hb #[]).1;have g2:=λes=>(iy (P:=P) hb es).2;have i1:=(je (P:=P) hi #[]).1;have i2:=λes=>(je (P:=P) hi es).2;intro ev h;unfold aq1 at h;simp only[ag9,i1,i2,ai0]at h;split at h
 ·rw[ag9,g1,g2]at h;simp only[ai0]at h;have hu:∀(u:Unsupported) (w:af),∃x w',(unsupported u:Sem Unit).run P w=.halt x w':=λu w=>⟨_,_,rfl⟩
  have fin:ev∈((#[].push ⟨.obj r,E,E⟩).push ⟨.obj b,E,E⟩:Array aC)->ev=⟨.obj r,E,E⟩\/ev=⟨.obj b,E,E⟩:=λh=>by simpa using h
  split at h
  ·rw[ag9]at h;obtain⟨x,w',e⟩:=hu (.noEntry "instr/Entry: an insertion since the step") w;rw[e]at h;exact fin h
  ·split at h<;>exact fin h
 ·exact .inl (by simpa using(show ev∈(#[].push ⟨.obj r,E,E⟩:Array aC)from h))
end
end
section
open Go Go.Conc Go.RowKit Go.MuLone Go.Maps
def LZ{k:az}{R:aj->Option (DataW aj×List MemPlace)}{left:Lit->Bool}(h:w.ranges P k R b r n D left cnt)(hb:w₁.heap[b]?=w.heap[b]?)(hr:w₁.heap[r]?=w.heap[r]?):w₁.ranges P k R b r n D left cnt:=by unfold World.ranges at h⊢;rw[hb,hr];exact h
def mZ{L:eI}{k:az}{R:aj->Option (DataW aj×List MemPlace)}{left:Lit->Bool}(h:w.ranges P k R b r n D left cnt)(hb:L.Fx b)(hr:O.own r)(x:RX L O w w₁):w₁.ranges P k R b r n D left cnt:=
 LZ h (x.blk b h.owns.lt (.inr hb)) (x.blk r h.lt (.inl hr))
def Hy(h:w.grownBy w' (Y r))(hs:w'.heap.size=w.heap.size):ep r w w':=by
 refine⟨h.tape,h.os,h.output,hs,λi hi=>?_⟩;rcases Nat.lt_or_ge i w.heap.size with hl|hl
 ·exact h.block i hl (λe=>hi (by cases e;rfl))
 ·rw[Array.getElem?_eq_none hl,Array.getElem?_eq_none I]
section
variable {P:aB}{main:Bool}{J:Jm}{L:eI}{fn:ay}{Q:eK}{O:aL}{a:Act}{w:af}{n1:Nat}{ops:Array Oper}{i:Nat}{rest:List Nat}{o:Oper}
def EU(hr:O.own r)(hb:L.Fx b)(he:∀e∈es,e=⟨.obj r,E,E⟩\/e=⟨.obj b,E,E⟩\/e=⟨.obj r,Z6,E⟩):∀e∈es,Es L O e:=by
 intro e hm;rcases he e hm with rfl|rfl|rfl
 ·exact⟨rfl,.inr ⟨r,rfl,.inl hr⟩⟩
 ·exact⟨rfl,.inr ⟨b,rfl,.inr ⟨hb,rfl⟩⟩⟩
 ·exact⟨rfl,.inr ⟨r,rfl,.inl hr⟩⟩
def Hz(ho:ops[i]?=Y o)(hw:ac3 o (ai5 ops a.tmps)=Z6)(it:aD)(hop:o.op=Op.next it E)(k:az)(K:Keyed P k)(hk:P.underlying k=Y .string)
 (b r n:Nat) (D:DataW aj) (f:Lit->Option aj) (hs:Says D f) (g:ah->Nat) (p:ah->Prop) (hf:∀x u,f (.string x.data.toList)=Y u->u=.pointer (Y ⟨g x,0,F⟩)/\p x) (left:Lit->Bool) (cnt:Nat)
 (hit:a.eval it=.pointer (Y ⟨r,0,F⟩)) (hb:L.Fx b) (hr:O.own r) (h:w.ranges P k aY b r n D left cnt)
 (hDone:∀w₁,RX L O w w₁->(∀kl,left kl=E)->bQ P main J (RX L) (DX L) fn ops rest n1 Q O (a.put o.dst (.tuple #[.bool E])) w₁)
 (hMore:∀w₁,RX L O w w₁->∀(x:ah) (w':af) (cnt':Nat),p x->left (.string x.data.toList)=Z6->w'.ranges P k aY b r n D (λz=>left z && !z.sameKey (.string x.data.toList)) cnt'->cnt'<cnt->ep r w₁ w'->
   (aq1 (.pointer (Y ⟨r,0,F⟩))).run P w'=.ok (.tuple #[.string x,.pointer (Y ⟨g x,0,F⟩)]) w'->bQ P main J (RX L) (DX L) fn ops rest n1 Q O (a.put o.dst (.tuple #[.bool Z6,.string x,.pointer (Y ⟨g x,0,F⟩)])) w'):
 bQ P main J (RX L) (DX L) fn ops (i :: rest) (n1+1) Q O a w:=by
 refine jP ho hw λw₁ h₁=>?_;have h':=mZ h hb hr h₁;have hev:∀e∈listed P fn a o w₁,Es L O e:=by obtain⟨es,clock,since,seen,c0,L1,_,_,_,Xq,_⟩:=h';refine EU hr hb λe he=>?_;have hm:=ad5 he;simp[ad6,hop,hit]at hm;exact Pa Xq L1 e hm
 rcases h'.next K o.type with⟨h0,hl,hrun⟩|⟨key,v,kl,y,w',cnt',hkey,hlk,hv,hat,hrun,m6,hlt,VU,hsz,tI⟩
 ·have e:(ad6 a.eval o).run P w₁=.ok (.value (.tuple #[.bool E])) w₁:=by simp[ad6,hop,hit,hrun,aj7]
  rw[e];exact⟨DX.still _ _ hev,by rw[O.dG rfl];exact hDone w₁ h₁ hl⟩
 ·obtain⟨x,rfl,rfl,_⟩:=WideMaps.string_of_keyOf hk hkey;simp only[aY,Option.some.injEq]at hv;subst hv;have hh:=Maps.has_true_of_atKey hat;rw[hs.2]at hh;obtain⟨u,hu⟩:=Option.isSome_iff_exists.1 hh;have e1:=(hs.1 _ u hu .nil).symm.trans (hat .nil);injection e1 with e1;subst e1;obtain⟨rfl,hp⟩:=hf x _ hu;have e:(ad6 a.eval o).run P w₁=.ok (.value (.tuple #[.bool Z6,.string x,.pointer (Y ⟨g x,0,F⟩)])) w':=by simp[ad6,hop,hit,hrun,aj7]
  rw[e];have hT:=Hy VU hsz;exact⟨DX.own hr hT hev,by rw[O.dG hsz];exact hMore w₁ h₁ x w' cnt' hp hlk m6 hlt hT tI⟩
end
section
variable {P:aB}{main:Bool}{J:Jm}{L:eI}{fn:ay}{Q:eK}{O:aL}{a:Act}{w:af}{n1:Nat}{ops:Array Oper}{i:Nat}{rest:List Nat}{o:Oper}
def yR{k:az}{R:aj->Option (DataW aj×List MemPlace)}(h:w.ownsMap P k R b n D)(hb:L.Fx b)(x:RX L O w w₁):w₁.ownsMap P k R b n D:=by have e:=x.blk b h.lt (.inr hb);unfold World.ownsMap at h⊢;rw[e];exact h
def EV(ho:ops[i]?=Y o)(hw:ac3 o (ai5 ops a.tmps)=Z6)(m:aD)(t:az)(hop:o.op=Op.range t m)(k e:az)(K:Keyed P k)(ht:P.underlying t=Y (.map k e))(b n:Nat)(D:DataW aj){R:aj->Option (DataW aj×List MemPlace)}
 (hm:a.eval m=.map (Y b)) (hb:L.Fx b) (h:w.ownsMap P k R b n D)
 (hK:∀w₁ w',RX L O w w₁->(∃ob,w'=w₁.alloc ob)->w'.ranges P k R b w₁.heap.size n D (Maps.has D) (Maps.size D)->bQ P main J (RX L) (DX L) fn ops rest n1 Q (O.grow w₁ w') (a.put o.dst (.pointer (Y ⟨w₁.heap.size,0,F⟩))) w'):
 bQ P main J (RX L) (DX L) fn ops (i :: rest) (n1+1) Q O a w:=by
 refine jP ho hw λw₁ h₁=>?_;have h':=yR h hb h₁;obtain⟨w',hrun,r1,_,_⟩:=h'.range K ht;obtain⟨es,clock,L1,_⟩:=h';obtain⟨q1,q2⟩:=Hx (P:=P) ht L1;have hw':w'=w₁.alloc (.mapIter (Y b) clock #[] clock):=by rw[q1]at hrun;cases hrun;rfl
 have e1:(ad6 a.eval o).run P w₁=.ok (.value (.pointer (Y ⟨w₁.heap.size,0,F⟩))) w':=by simp[ad6,hop,hm,hrun,aj7]
 rw[e1];refine⟨?_,hK w₁ w' h₁ ⟨_,hw'⟩ r1⟩;have hev:∀x∈listed P fn a o w₁,Es L O x:=λx hx=>by have hmm:=ad5 hx;simp[ad6,hop,hm,q2]at hmm;subst hmm;exact⟨rfl,.inr ⟨b,rfl,.inr ⟨hb,rfl⟩⟩⟩
 have hd:=DX.alloc (L:=L) O w₁ (.mapIter (Y b) clock #[] clock);rw[<-hw']at hd;exact⟨hd.tape,hd.os,hd.out,hd.le,hd.blk,hev⟩
def entry_eq{seen:Array Nat}(hi:w.heap[r]?=Y (.mapIter (Y b) s0 seen l))(hb:w.heap[b]?=Y (.map en cl))(hi':w₁.heap[r]?=Y (.mapIter (Y b) s0 seen l))(hb':w₁.heap[b]?=Y (.map en cl))
 (h:(aq1 (.pointer (Y ⟨r,0,F⟩))).run P w=.ok v w):(aq1 (.pointer (Y ⟨r,0,F⟩))).run P w₁=.ok v w₁:=by
 have g1:=(iy (P:=P) hb #[]).1;have i1:=(je (P:=P) hi #[]).1;have g2:=(iy (P:=P) hb' #[]).1;have i2:=(je (P:=P) hi' #[]).1;unfold aq1 at h⊢;simp only[ba9,i1,i2,aj7]at h⊢;cases hs:seen.back? with
 |none=>rw[hs]at h;cases h
 |some st=>
  rw[hs]at h;simp only[ba9,g1,g2,aj7]at h⊢;split at h
  ·rename_i hc;rw[ba9]at h;cases h
  ·rename_i hc;rw[if_neg hc];cases hf:en.find? (λx=>x.born == st)with
   |none=>rw[hf]at h;cases h
   |some e=>
    rw[hf]at h;simp only[bf2,Result.ok.injEq]at h⊢;exact⟨h.1,trivial⟩
def EW(ho:ops[i]?=Y o)(hw:ac3 o (ai5 ops a.tmps)=Z6)(it:aD)(hop:o.op=Op.entry it){k:az}{R:aj->Option (DataW aj×List MemPlace)}(b r n:Nat)(D:DataW aj)(left:Lit->Bool)(cnt:Nat)
 (hit:a.eval it=.pointer (Y ⟨r,0,F⟩)) (hb:L.Fx b) (hr:O.own r) (h:w.ranges P k R b r n D left cnt) {v:aj} (tI:(aq1 (.pointer (Y ⟨r,0,F⟩))).run P w=.ok v w)
 (hK:∀w₁,RX L O w w₁->bQ P main J (RX L) (DX L) fn ops rest n1 Q O (a.put o.dst v) w₁):
 bQ P main J (RX L) (DX L) fn ops (i :: rest) (n1+1) Q O a w:=by
 refine jP ho hw λw₁ h₁=>?_;have kR:=h.owns.lt;have hrl:=h.lt;obtain⟨es,clock,since,seen,c0,L1,_,_,_,Xq,_⟩:=h;have jd:=(h₁.blk b kR (.inr hb)).trans L1;have CO:=(h₁.blk r hrl (.inl hr)).trans Xq;have afc:=entry_eq Xq L1 CO jd tI;have e1:(ad6 a.eval o).run P w₁=.ok (.value v) w₁:=by simp[ad6,hop,hit,afc,aj7]
 rw[e1];refine⟨DX.still _ _ (EU hr hb λe he=>?_),by rw[O.dG rfl];exact hK w₁ h₁⟩;have hm:=ad5 he;simp[ad6,hop,hit]at hm;rcases LY CO jd e hm with q|q
 ·exact .inl q
 ·exact .inr (.inl q)
end
section
variable {P:aB}{main:Bool}{J:Jm}{L:eI}{fn:ay}{Q:eK}{O:aL}{a:Act}{w:af}{n1:Nat}{ops:Array Oper}{i:Nat}{rest:List Nat}{o:Oper}
def CR{k:az}(h:aS w P k b f)(hb:L.Fx b)(x:RX L O w w₁):aS w₁ P k b f:=h.of_eq (x.blk b h.lt (.inr hb))
def HG(ho:ops[i]?=Y o)(hw:ac3 o (ai5 ops a.tmps)=Z6)(m x:aD)(t:az)(hop:o.op=Op.lookup t m x E)
 (k e:az) (K:Keyed P k) (hk:P.underlying k=Y .string) (ht:P.underlying t=Y (.map k e)) {z:aj} (hz:∀w,(zeroValue e).run P w=.ok z w) (b:Nat) (f:Lit->Option aj)
 (hm:a.eval m=.map (Y b)) (hb:L.Fx b) (hown:aS w P k b f) (s:ah) (kl:Lit) (hx:a.eval x=.string s) (hkey:keyOf P k (.string s)=Y kl) (fv:Option aj) (hf:f kl=fv)
 (hK:∀w₁,RX L O w w₁->bQ P main J (RX L) (DX L) fn ops rest n1 Q O (a.put o.dst (fv.getD z)) w₁):
 bQ P main J (RX L) (DX L) fn ops (i :: rest) (n1+1) Q O a w:=by
 refine jP ho hw λw₁ h₁=>?_;have h':=CR hown hb h₁;have hrun:=h'.look K ht (hz w₁) hkey;rw[hf]at hrun;have e1:(ad6 a.eval o).run P w₁=.ok (.value (fv.getD z)) w₁:=by simp[ad6,hop,hm,hx,hrun,aj7]
 rw[e1];refine⟨DX.still _ _ λev he=>?_,by rw[O.dG rfl];exact hK w₁ h₁⟩;obtain⟨_,_,⟨es,clock,L1,_⟩,_⟩:=h';have hmm:=ad5 he;simp[ad6,hop,hm,hx]at hmm;have:=yQ hk s ht b w₁ L1 ev hmm;subst this;exact⟨rfl,.inr ⟨b,rfl,.inr ⟨hb,rfl⟩⟩⟩
end
end
section
open Go Go.Conc Go.RowKit Go.MuLone
variable {main:Bool}{J:Jm}{L:eI}
structure N9(L:eI)(w:af)(pr qm:Nat)(f:Lit->Option aj)(qb:ah->Nat)(p:ah->Prop)(wn:ah->Nat)(hv:ah->Bool)(tv:ah->ah)(ts:ah->aj)(fm:ah->ah->Bool):Prop where
 fp:L.Fx pr
 cell:w.cell? ⟨pr,4,F⟩=Y (.map (Y qm))
 fq:L.Fx qm
 map:aS w prog 9 qm f
 meets:∀x u,f (.string x.data.toList)=Y u->u=.pointer (Y ⟨qb x,0,F⟩)/\p x
 fx:∀x,p x->L.Fx (qb x)
 c2:∀x,p x->w.cell? ⟨qb x,2,F⟩=Y (.int .i64 (wn x))
 c3:∀x,p x->w.cell? ⟨qb x,3,F⟩=Y (.bool (hv x))
 c4:∀x,p x->w.cell? ⟨qb x,4,F⟩=Y (.string (tv x))
 c5:∀x,p x->w.cell? ⟨qb x,5,F⟩=Y (ts x)
 L2:∀x,p x->sH L w (ts x) (fm x)
 bd:∀x,p x->wn x<=1000
def sH.rx{g:ah->Bool}(h:sH L w v g)(x:RX L O w w₁):sH L w₁ v g:=by
 cases h with
 |none=>exact .none
 |keys a Ls cap h8 hc=>exact .keys a Ls cap h8 λk y hy=>by obtain⟨g,hg,e,hh⟩:=hc k y hy;exact⟨g,hg,e,x.bg hh hg⟩
 |mask m=>exact .mask m
def N9.rx{w w₁:af}{O:aL}{pr qm:Nat}{f:Lit->Option aj}{qb:ah->Nat}{p:ah->Prop}{wn:ah->Nat}{hv:ah->Bool}{tv:ah->ah}{ts:ah->aj}{fm:ah->ah->Bool}(h:N9 L w pr qm f qb p wn hv tv ts fm)(x:RX L O w w₁):N9 L w₁ pr qm f qb p wn hv tv ts fm:=
 ⟨h.fp,x.bg h.cell h.fp,h.fq,CR h.map h.fq x,h.meets,h.fx,λy hy=>x.bg (h.c2 y hy) (h.fx y hy),λy hy=>x.bg (h.c3 y hy) (h.fx y hy),λy hy=>x.bg (h.c4 y hy) (h.fx y hy),λy hy=>x.bg (h.c5 y hy) (h.fx y hy),λy hy=>(h.L2 y hy).rx x,h.bd⟩
end
section
open Go Go.Conc Go.RowKit Go.MuLone
open Go.Maps (Keyed)
variable {main:Bool}{J:Jm}{L:eI}
def rA.bg{O0 O:aL}{w0 w:af}(h:rA L O0 w0 O w){a:aA}{v:aj}(hc:w0.cell? a=Y v)(hx:L.Fx a.block):w.cell? a=Y v:=h.rel.bg hc hx
structure jq(L:eI)(W w:af):Prop where
 le:W.heap.size<=w.heap.size
 blk:∀i,i<W.heap.size->L.Fx i->w.heap[i]?=W.heap[i]?
 live:Ep L.tw L.Wg W->Ep L.tw L.Wg w
def jq.of(h:RX L O W w):jq L W w:=⟨h.le,λi hi hx=>h.blk i hi (.inr hx),h.live⟩
def jq.rely(h:jq L W w)(r:RX L O w w₁):jq L W w₁:=⟨Nat.le_trans h.le r.le,λi hi hx=>(r.blk i (Nat.lt_of_lt_of_le hi h.le) (.inr hx)).trans (h.blk i hi hx),r.live ∘ h.live⟩
def jq.bg(h:jq L w0 w)(hc:w0.cell? a=Y v)(hx:L.Fx a.block):w.cell? a=Y v:=by have hl:a.block<w0.heap.size:=zbg w0 _ hc;have:=h.blk a.block hl hx;rw[<-hc];unfold ad3;rw[this]
def wJ(h:w.cell? a=Y v):∃cs t fr,w.heap[a.block]?=Y (.cells cs t fr):=by
 unfold ad3 at h;split at h
 ·exact⟨_,_,_,ZD⟩
 ·cases h
def jq.ade(h:jq L W w)(t:ep r w w')(hr:¬L.Fx r)(hg:L.Wg≠r):jq L W w':=⟨by rw[t.size];exact h.le,λi hi hx=>(t.other i λe=>hr (e▸hx)).trans (h.blk i hi hx),λx=>by obtain⟨st,sm,q⟩:=h.live x;exact⟨st,sm,(t.other _ hg).trans q⟩⟩
def J0{R:vn}{D:vo}(T:cy R D){f:ay}{Post:aL->aj->af->Prop}(hp:∀O v x y,Post O v x->R O x y->Post O v y)(O:aL)(a:Act)(x y:af)
 (h:oR P main J R D dn f fn Post O .normal a x) (r:R O x y):oR P main J R D dn f fn Post O .normal a y:=by
 rcases h with⟨h1,v,h2,h3⟩|⟨d,f',cap,h1,h2,fnd,c,q1,q2,q3,q4⟩|⟨d,h1,h2⟩
 ·exact .inl ⟨h1,v,λw₁ h₁=>h2 w₁ (T.trans _ _ _ _ r h₁),hp O v x y h3 r⟩
 ·exact .inr (.inl ⟨d,f',cap,h1,h2,fnd,c,q1,q2,q3,lB T q4 r⟩)
 ·exact .inr (.inr ⟨d,h1,λb todo cs hb w₁ h₁=>h2 b todo cs hb w₁ (T.trans _ _ _ _ r h₁)⟩)
def DX.mine{cs:Array aj}{t:az}{fr:Nat×Nat}(hb:w.heap[ab]?=Y (.cells cs t fr))(o1 o2 o3:Nat)(v1 v2 v3:aj)(m1:L.Mn ⟨ab,o1,F⟩)(m2:L.Mn ⟨ab,o2,F⟩)(m3:L.Mn ⟨ab,o3,F⟩)(he:∀e∈es,Es L O e):
 DX L O w (((w.setCell ⟨ab,o1,F⟩ v1).setCell ⟨ab,o2,F⟩ v2).setCell ⟨ab,o3,F⟩ v3) es:=by
 have hT:=((ep.cell ab o1 w v1).trans (ep.cell ab o2 _ v2)).trans (ep.cell ab o3 _ v3);refine⟨hT.tape,hT.os,hT.out,Nat.le_of_eq hT.size.symm,λi hi hO=>?_,he⟩;by_cases e:i=ab
 ·subst e;refine .inr ⟨cs,((cs.setIfInBounds o1 v1).setIfInBounds o2 v2).setIfInBounds o3 v3,t,fr,hb,by simp[World.setCell,Array.getElem?_modify,hb],XI,λj hj=>?_⟩;have n1:o1≠j:=λe=>hj (e▸m1);have n2:o2≠j:=λe=>hj (e▸m2);have n3:o3≠j:=λe=>hj (e▸m3);rw[zbj n3,zbj n2,zbj n1]
 ·exact .inl (hT.other i e)
structure Ky(L:eI)(b0 b1 b2 b3 b4 qb pb ab:Nat)(key:ah)(ms:List Int)(cb:Option aA)(gX N lY i:Nat)(w:af):Prop where
 f0:L.Fx b0
 f1:L.Fx b1
 f2:L.Fx b2
 f3:L.Fx b3
 f4:L.Fx b4
 fq:L.Fx qb
 c0:w.cell? ⟨b0,0,F⟩=Y (.pointer (Y ⟨qb,0,F⟩))
 c1:w.cell? ⟨b1,0,F⟩=Y (.string key)
 c2:w.cell? ⟨b2,0,F⟩=Y (.slice cb ms.length gX)
 c3:w.cell? ⟨b3,0,F⟩=Y (.slice (Y ⟨ab,0,F⟩) N lY)
 c4:w.cell? ⟨b4,0,F⟩=Y (.int .i64 (i:Nat))
 cq:w.cell? ⟨qb,0,F⟩=Y (.pointer (Y ⟨pb,0,F⟩))
def OP(nl:Nat):∃n,∀(b0 b1 b2 b3 b4 qb pb ab kb:Nat) (f:Lit->Option aj) (vl:Int->List KV) (key:ah) (ms:List Int) (cb:Option aA) (gX N lY i:Nat) (O:aL) (w:af),L.N<=w.heap.size->lq L pb kb f vl w->i<N->N<=8->¬L.Fx ab->L.Wg≠ab->(valueOf (vl (fI vl key ms)) key).size<=1000->Hid (∀j,j<3->L.Mn ⟨ab,i*3+j,F⟩/\(∃v,w.cell? ⟨ab,i*3+j,F⟩=Y v)/\w.frozen? ⟨ab,i*3+j,F⟩=E)->
 Ky L b0 b1 b2 b3 b4 qb pb ab key ms cb gX N lY i w->
 ms.length<=8->(∀m∈ms,0<=m/\m<=1000)->Hid (∀(k:Nat) (m:Int),ms[k]?=Y m->∃g,L.Fx g/\cb=Y ⟨g,0,F⟩/\w.cell? ⟨g,k,F⟩=Y (.int .i64 m))->
 EM main J L pb nl->O.pos=.lk .vk 1->¬O.own pb->
 bG prog main J (RX L) (DX L) 80 #[.pointer (Y ⟨b0,0,F⟩),.pointer (Y ⟨b1,0,F⟩),.pointer (Y ⟨b2,0,F⟩),.pointer (Y ⟨b3,0,F⟩),.pointer (Y ⟨b4,0,F⟩)] n O w λO' v w'=>(O'.pos=.lk .out 0/\jq L w w')/\v=.tuple #[]/\w'.cell? ⟨ab,i*3,F⟩=Y (.string key)/\w'.cell? ⟨ab,i*3+1,F⟩=Y (.int .i64 (fI vl key ms))/\w'.cell? ⟨ab,i*3+2,F⟩=Y (.string (valueOf (vl (fI vl key ms)) key)):=by
 obtain⟨ng,VU⟩:=J1 (main:=main) (J:=J) (L:=L) nl;obtain⟨na,han⟩:=wI (main:=main) (J:=J) (L:=L);co_apply aa1;intro b0 b1 b2 b3 b4 qb pb ab kb f vl key ms cb gX N lY i O w hN hP GX Xf hnf va hvs hmn hB h8 ve hcell hlk hpos hno;have hF:rA L O w O w:=rA.refl hN;co_apply bH func80 Ym rfl;walk_nrmf ntmps80;obtain⟨W,hW⟩:∃W,W=w:=⟨_,rfl⟩
 obtain⟨O1,hO⟩:∃O1,O1=O:=⟨_,rfl⟩
 rw[<-hW,<-hO]at hF⊢;rw[<-hW]at hP hcell hB hN hmn;rw[<-hO]at hpos hno;clear hW hO;co_apply (iw);co_apply gF (aF L) DX.draw (c:=ng+Er) (O0:=O1) (S:=jq L W) (by unfold Er;omega) (by first|kernel_rfl|rfl);intro W1 hR;replace hF:=(hF.rely hR).rely (RX.draw _ _);clear hR;simp only[List.size_toArray,List.length_cons,List.length_nil,at3,am9];co_applyP SQ (λ_ _ _ _ hx r=>jq.rely hx r) (λ_ _ _ _ h r=>lB (aF L) h r) hF.own (jq.of hF.rel);intro hb;(co_applyP BL hb (i:=0) rfl Yl Ym (λ_ _ hO hw=>?b2);(case b2=>((have hc:=jq.bg hw hB.c0 hB.f0);refine⟨λK hK=>?_,?_⟩;(focus(go_simp;exact hK));(refine DX.still _ _ (cL (a:=⟨b0,0,F⟩) (.inl hB.f0) λe he=>?_);have hm:=ad5 he;simp[go_sem,hc]at hm;exact hm)));try walk_nrm);(co_applyP (qP hb (i:=1));try walk_nrm);(co_applyP (qP hb (i:=2));try walk_nrm);(co_applyP BL hb (i:=3) rfl Yl Ym (λ_ _ hO hw=>?b5);(case b5=>((have hc:=jq.bg hw hB.cq hB.fq);refine⟨λK hK=>?_,?_⟩;(focus(go_simp;exact hK));(refine DX.still _ _ (cL (a:=⟨qb,0,F⟩) (.inl hB.fq) λe he=>?_);have hm:=ad5 he;simp[go_sem,hc]at hm;exact hm)));try walk_nrm);(co_applyP BL hb (i:=4) rfl Yl Ym (λ_ _ hO hw=>?b6);(case b6=>((have hc:=jq.bg hw hB.c1 hB.f1);refine⟨λK hK=>?_,?_⟩;(focus(go_simp;exact hK));(refine DX.still _ _ (cL (a:=⟨b1,0,F⟩) (.inl hB.f1) λe he=>?_);have hm:=ad5 he;simp[go_sem,hc]at hm;exact hm)));try walk_nrm);(co_applyP BL hb (i:=5) rfl Yl Ym (λ_ _ hO hw=>?b7);(case b7=>((have hc:=jq.bg hw hB.c2 hB.f2);refine⟨λK hK=>?_,?_⟩;(focus(go_simp;exact hK));(refine DX.still _ _ (cL (a:=⟨b2,0,F⟩) (.inl hB.f2) λe he=>?_);have hm:=ad5 he;simp[go_sem,hc]at hm;exact hm)));try walk_nrm);refine ko (rs:= [6]) Yl XI λi hi=>?_;obtain rfl:i=6:=by simpa using hi
 refine .inr ⟨81,_,_,ng,_,zbe _,rfl,by walk_nrm;exact VU pb kb f vl key ms cb gX _ _ hF.top (hP.rx hF.rel) h8 ve (λk m hk=>by obtain⟨g,hg,e,hc⟩:=hcell.out k m hk;exact⟨g,hg,e,hF.bg hc hg⟩) hlk hpos hno,?_⟩;rintro O2 x W2 ⟨rfl,Po,hF2⟩;replace hF:=hF.trans hF2;clear hF2;refine⟨⟨hF.own,jq.of hF.rel⟩,?_⟩;walk_nrm;co_applyP SQ (λ_ _ _ _ hx r=>jq.rely hx r) (λ_ _ _ _ h r=>lB (aF L) h r) hF.own (jq.of hF.rel);intro hb;(co_applyP (qP hb (i:=7));try walk_nrm);(co_applyP (qP hb (i:=8));try walk_nrm);(co_applyP (qP hb (i:=9));try walk_nrm);(co_applyP (qP hb (i:=10));try walk_nrm);(co_applyP (qP hb (i:=11));try walk_nrm);refine kY Yl ?_ _;co_then;have hQR:=J0 (main:=main) (P:=prog) (J:=J) (aF L) (dn:=0) (f:=80) (fn:=f80) (Post:=λO' v w'=>(O'.pos=.lk .out 0/\jq L W w')/\v=.tuple #[]/\w'.cell? ⟨ab,i*3,F⟩=Y (.string key)/\w'.cell? ⟨ab,i*3+1,F⟩=Y (.int .i64 (fI vl key ms))/\w'.cell? ⟨ab,i*3+2,F⟩=Y (.string (valueOf (vl (fI vl key ms)) key)))
  (λ_ _ x y h r=>⟨⟨h.1.1,h.1.2.rely r⟩,h.2.1,(r.mn _ (hmn.out 0 I).1).1.trans h.2.2.1,(r.mn _ (hmn.out 1 I).1).1.trans h.2.2.2.1,(r.mn _ (hmn.out 2 I).1).1.trans h.2.2.2.2⟩)
 co_apply gF (aF L) DX.draw (c:=na+Er) (O0:=O1) (S:=jq L W) (by unfold Er;omega) (by first|kernel_rfl|rfl);intro W3 hR;replace hF:=(hF.rely hR).rely (RX.draw _ _);clear hR;simp only[List.size_toArray,List.length_cons,List.length_nil,at3,am9];co_applyP SQ (λ_ _ _ _ hx r=>jq.rely hx r) hQR hF.own (jq.of hF.rel);intro hb;(co_applyP BL hb (i:=0) rfl Yl Ym (λ_ _ hO hw=>?b14);(case b14=>((have hc:=jq.bg hw hB.c3 hB.f3);refine⟨λK hK=>?_,?_⟩;(focus(go_simp;exact hK));(refine DX.still _ _ (cL (a:=⟨b3,0,F⟩) (.inl hB.f3) λe he=>?_);have hm:=ad5 he;simp[go_sem,hc]at hm;exact hm)));try walk_nrm);(co_applyP BL hb (i:=1) rfl Yl Ym (λ_ _ hO hw=>?b15);(case b15=>((have hc:=jq.bg hw hB.c4 hB.f4);refine⟨λK hK=>?_,?_⟩;(focus(go_simp;exact hK));(refine DX.still _ _ (cL (a:=⟨b4,0,F⟩) (.inl hB.f4) λe he=>?_);have hm:=ad5 he;simp[go_sem,hc]at hm;exact hm)));try walk_nrm);(co_applyP BL hb (i:=2) rfl Yl Ym (λ_ _ hO hw=>?b16);(case b16=>((have hc:=jq.bg hw hB.c1 hB.f1);refine⟨λK hK=>?_,?_⟩;(focus(go_simp;exact hK));(refine DX.still _ _ (cL (a:=⟨b1,0,F⟩) (.inl hB.f1) λe he=>?_);have hm:=ad5 he;simp[go_sem,hc]at hm;exact hm)));try walk_nrm);(co_applyP (qP hb (i:=3));try walk_nrm);(co_applyP (qP hb (i:=4));try walk_nrm);refine ko (rs:= [5]) Yl XI λi hi=>?_;obtain rfl:i=5:=by simpa using hi
 refine .inr ⟨78,_,_,na,_,zbe _,rfl,by walk_nrm;exact han key (fI vl key ms) _ _ _ hvs hF.top,?_⟩;rintro O3 x W4 ⟨rfl,hF2⟩;have adf:=hF2.gh.1.trans Po;replace hF:=hF.trans hF2.SN;clear hF2;refine⟨⟨hF.own,jq.of hF.rel⟩,?_⟩;walk_nrm;co_applyP SQ (λ_ _ _ _ hx r=>jq.rely hx r) hQR hF.own (jq.of hF.rel);intro hb;(co_applyP (qP hb (i:=6));try walk_nrm);refine ko (rs:= [7]) Yl XI λi hi=>?_;obtain rfl:i=7:=by simpa using hi
 refine .inl λW5 h5=>?_;replace hF:=hF.rely h5;obtain⟨m0,⟨v0,q0⟩,z0⟩:=hmn.out 0 I;obtain⟨m1,⟨v1,q1⟩,z1⟩:=hmn.out 1 I;obtain⟨m2,⟨v2,q2⟩,z2⟩:=hmn.out 2 I;simp only[au3]at m0 q0 z0;replace q0:=(hF.rel.mn _ m0).1.trans q0;replace z0:=(hF.rel.mn _ m0).2.trans z0;replace q1:=(hF.rel.mn _ m1).1.trans q1;replace z1:=(hF.rel.mn _ m1).2.trans z1;replace q2:=(hF.rel.mn _ m2).1.trans q2;replace z2:=(hF.rel.mn _ m2).2.trans z2;go_simp;try(unfold stored;go_simp)
 obtain⟨cs,t,fr,hbk⟩:=wJ q0;have hT:=((ep.cell ab (i*3) W5 (.string key)).trans (ep.cell ab (i*3+1) _ (.int .i64 (fI vl key ms)))).trans (ep.cell ab (i*3+2) _ (.string (valueOf (vl (fI vl key ms)) key)));refine⟨DX.mine hbk _ _ _ _ _ _ m0 m1 m2 λe he=>?_,⟨λj hj=>.inl (hF.own j hj),(jq.of hF.rel).ade hT hnf va⟩,?_⟩
 ·have hm:=ad5 he;have E0:=λes=>lA (P:=prog) (v:=.string key) q0 z0 rfl es;have p2:((W5.setCell ⟨ab,i*3,F⟩ (.string key)).setCell ⟨ab,i*3+1,F⟩ (.int .i64 (fI vl key ms))).cell? ⟨ab,i*3+2,F⟩=Y v2:=by rw[zbh _ _ _ _ XI,zbh _ _ _ _ XI];exact q2
  have r2:((W5.setCell ⟨ab,i*3,F⟩ (.string key)).setCell ⟨ab,i*3+1,F⟩ (.int .i64 (fI vl key ms))).frozen? ⟨ab,i*3+2,F⟩=E:=by rw[ar3,ar3];exact z2
  have E2:=λes=>lA (P:=prog) (v:=.string (valueOf (vl (fI vl key ms)) key)) p2 r2 rfl es;simp[go_sem, *]at hm;rcases hm with rfl|rfl|rfl
  ·exact⟨rfl,.inl ⟨_,rfl,.inr (.inl m0)⟩⟩
  ·exact⟨rfl,.inl ⟨_,rfl,.inr (.inl m1)⟩⟩
  ·exact⟨rfl,.inl ⟨_,rfl,.inr (.inl m2)⟩⟩
 ·refine kY Yl ?_ _;have p1:(W5.setCell ⟨ab,i*3,F⟩ (.string key)).cell? ⟨ab,i*3+1,F⟩=Y v1:=by rw[zbh _ _ _ _ XI];exact q1
  have p2:((W5.setCell ⟨ab,i*3,F⟩ (.string key)).setCell ⟨ab,i*3+1,F⟩ (.int .i64 (fI vl key ms))).cell? ⟨ab,i*3+2,F⟩=Y v2:=by rw[zbh _ _ _ _ XI,zbh _ _ _ _ XI];exact q2
  refine .inl ⟨rfl,_,bW (aF L) (ap3 Ym _),⟨adf,(jq.of hF.rel).ade hT hnf va⟩,rfl,?_,?_,?_⟩
  ·rw[zbh _ _ _ _ XI,zbh _ _ _ _ XI];exact zbi _ _ _ q0
  ·rw[zbh _ _ _ _ XI];exact zbi _ _ _ p1
  ·exact zbi _ _ _ p2
end
end Go.Proofs.YteoahlieielcdaaGreat
