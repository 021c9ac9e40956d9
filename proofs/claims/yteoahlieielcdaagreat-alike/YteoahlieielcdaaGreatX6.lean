import Derived.Test.YteoahlieielcdaaGreatX4
import Derived.Test.YteoahlieielcdaaGreatPr15
set_option linter.all false
set_option maxHeartbeats 1000000
set_option maxRecDepth 100000
namespace Go.Proofs.YteoahlieielcdaaGreat
open Go.Proofs.Tryz
open Go Go.Conc Go.RowKit Go.MuLone
variable{P:Program}
variable {main:Bool}{J:Jm}{L:eg}
theorem S8:∃n,∀(s:ByteArray) (O:au) (w:World),s.size<=1000->L.N<=w.heap.size->
 bu prog main J (RX L) (DX L) 85 #[.string s] n O w fun O' v w'=>v=.string s/\bA L O w O' w':=by obtain⟨nc,hc⟩:=My (main:=main) (J:=J) (L:=L);co_apply Exists.intro;intro s O w hs hN;have hF:bA L O w O w:=bA.refl hN;co_apply bz func85 (by rfl) rfl;walk_nrmf ntmps85;generalize hW:w=W at hF⊢;generalize hO:O=O1 at hF⊢;(repeat(first|co_apply aQ|(co_apply (aP);intro _ hR;replace hF:=hF.rely hR;clear hR;refine⟨by simp[*,go_sem],fun K z=>?_⟩;go_simp;refine z _ ?_;clear z K;try walk_nrm)|((first|co_apply bh|co_apply cZ|co_apply aO);try co_then)));co_apply bQ (ah L) rfl (by rfl) rfl (by walk_nrm;exact hc s _ _ hs hF.top);rintro O' v w' ⟨rfl,Vk⟩;replace Vk:=hF.trans Vk;walk_nrm;(repeat(first|co_apply aQ|(co_apply (aP);intro _ hR;replace Vk:=Vk.rely hR;clear hR;refine⟨by simp[*,go_sem],fun K z=>?_⟩;go_simp;refine z _ ?_;clear z K;try walk_nrm)|((first|co_apply bh|co_apply cZ|co_apply aO);try co_then)));exact .inl ⟨rfl,_,bP (ah L) (resultsC_tmp (by rfl) _),rfl,by subst hW;subst hO;exact Vk⟩
theorem DC(w:World)(a:Addr)(n i:Nat)(acc:Array Value)(es:Array Event)(hc:∀j,j<n->∃u,w.cell? (a.add (i+j))=some u):
 ∀ev∈(loadCellsFrom a i n acc).events P w es,ev∈es\/∃ad,ev=⟨.cell ad,false,false⟩/\ad.block=a.block:=by
 induction n generalizing i acc es with
 |zero=>exact fun ev h=>.inl (by simpa[loadCellsFrom]using h)
 |succ n ih=>
  intro ev h;obtain⟨u,hu⟩:=hc 0 (by omega);simp only[Nat.add_zero]at hu;simp only[loadCellsFrom,Sem.events_bind,run_load,hu,Result.evThen_ok,events_load]at h;rcases ih (i+1) _ _ (fun j hj=>by have:=hc (j+1) (by omega);rwa [show i+(j+1)=i+1+j by omega]at this) ev h with h|h
  ·rcases Array.mem_push.1 h with h|rfl
   ·exact .inl h
   ·exact .inr ⟨_,rfl,by unfold Addr.add;split<;>rfl⟩
  ·exact .inr h
theorem Jo(w:World)(a:Addr)(ty:TypeId)(s:Nat)(d:TypeDesc)(hu:P.underlying ty=some d)(hd:(match d with|.struct _|.array _ _=>true|_=>false)=true)(hi:(P.info? ty).map (·.size)=some s)
 (hc:∀j,j<s->∃u,w.cell? (a.add j)=some u):∀ev∈(loadVar ty a).events P w #[],∃ad,ev=⟨.cell ad,false,false⟩/\ad.block=a.block:=by
 intro ev h;have hia:(isAgg ty).run P w=.ok true w:=by unfold isAgg;rw[Sem.run_bind,run_underlying hu];cases d<;>first|rfl|cases hd
 obtain⟨i,hq,hs⟩:=Option.map_eq_some_iff.1 hi;have hsz:(sizeOf ty).run P w=.ok s w:=by simp[sizeOf,typeInfo,hq,hs]
 have key:=DC (P:=P) w a s 0 #[] #[] (fun j hj=>by rw[Nat.zero_add];exact hc j hj);simp only[loadVar,Sem.events_bind,hia,Result.evThen_ok,events_isAgg,if_true,hsz,events_sizeOf,Sem.events_pure,loadCells]at h;cases hr:(loadCellsFrom a 0 s #[]).run P w<;>rw[hr]at h<;>simp only[Result.evThen]at h<;>exact(key ev h).elim (fun x=>by simp at x) id
theorem lp{w:World}{a:Addr}{x v:Value}(hc:w.cell? a=some x)(hf:w.frozen? a=false)(h1:v.oneCell'=true)(es:Array Event):(store a v).events P w es=es.push ⟨.cell a,true,false⟩:=by rw[events_store P w es a v .plain h1,hc];simp only[hf,Bool.false_eq_true,if_false];rfl
theorem dO.cell(r o:Nat)(w:World)(v:Value):dO r w (w.setCell ⟨r,o,none⟩ v):=⟨rfl,rfl,rfl,by simp[World.setCell],fun i hi=>by simp[World.setCell,Array.getElem?_modify,Ne.symm hi]⟩
theorem dO.trans{r:Nat}{a b c:World}(h:dO r a b)(h':dO r b c):dO r a c:=⟨h'.tape.trans h.tape,h'.os.trans h.os,h'.out.trans h.out,h'.size.trans h.size,fun i hi=>(h'.other i hi).trans (h.other i hi)⟩
theorem vQ:∃n,∀(k:ByteArray) (c:Int) (v:ByteArray) (O:au) (w:World),v.size<=1000->L.N<=w.heap.size->
 bu prog main J (RX L) (DX L) 78 #[.string k,.int .i64 c,.string v] n O w fun O' x w'=>x=.agg #[.string k,.int .i64 c,.string v]/\bA L O w O' w':=by
 obtain⟨nc,hc⟩:=S8 (main:=main) (J:=J) (L:=L);co_apply Exists.intro;intro k c v O w hs hN;have hF:bA L O w O w:=bA.refl hN;co_apply bz func78 (by rfl) rfl;walk_nrmf ntmps78;generalize hW:w=W at hF⊢;generalize hO:O=O1 at hF⊢;(first|co_apply bh|co_apply cZ|co_apply aO);co_apply aQ;co_apply bB rfl (by rfl);intro W1 hR K hK;replace hF:=bA.rely hF hR;clear hR;go_simp;refine hK _ _ ⟨?_,?_⟩
 ·rw[listed_nil (by simp[go_sem])];exact DX.alloc _ _ _
 clear hK K;try walk_nrm
 have hr:w.heap.size<=W1.heap.size:=by rw[hW];exact hF.rel.le
 have hG:bA L O1 W (O1.grow W1 (W1.alloc (.cells #[.string ⟨#[]⟩,.int .i64 0,.string ⟨#[]⟩] 62))) (W1.alloc (.cells #[.string ⟨#[]⟩,.int .i64 0,.string ⟨#[]⟩] 62))/\OB W1.heap.size (.cells #[.string ⟨#[]⟩,.int .i64 0,.string ⟨#[]⟩] 62) (O1.grow W1 (W1.alloc (.cells #[.string ⟨#[]⟩,.int .i64 0,.string ⟨#[]⟩] 62))) (W1.alloc (.cells #[.string ⟨#[]⟩,.int .i64 0,.string ⟨#[]⟩] 62)):=⟨hF.alloc _,OB.new _ _ _⟩
 clear hF;generalize (O1.grow W1 (W1.alloc (.cells #[.string ⟨#[]⟩,.int .i64 0,.string ⟨#[]⟩] 62)))=O2 at hG⊢;generalize (W1.alloc (.cells #[.string ⟨#[]⟩,.int .i64 0,.string ⟨#[]⟩] 62))=W2 at hG⊢;generalize W1.heap.size=r at hG hr⊢;have rl:∀{O2:au} {o:Obj} {Wa Wb:World},(bA L O1 W O2 Wa/\OB r o O2 Wa)->RX L O2 Wa Wb->(bA L O1 W O2 Wb/\OB r o O2 Wb):=fun h x=>⟨h.1.rely x,h.2.rely x⟩
 (first|co_apply bh|co_apply cZ|co_apply aO);co_then;(first|co_apply bh|co_apply cZ|co_apply aO);co_apply aQ;(co_apply (aP);intro _ hR;replace hG:=rl hG hR;clear hR;refine⟨by simp[go_sem],fun K z=>?_⟩;go_simp;refine z _ ?_;clear z K;try walk_nrm);(co_apply (aP);intro _ hR;replace hG:=rl hG hR;clear hR;refine⟨by simp[go_sem],fun K z=>?_⟩;go_simp;refine z _ ?_;clear z K;try walk_nrm);(co_apply (aP);intro _ hR;replace hG:=rl hG hR;clear hR;refine⟨by simp[go_sem],fun K z=>?_⟩;go_simp;refine z _ ?_;clear z K;try walk_nrm);co_apply bQ (ah L) rfl (by rfl) rfl (by walk_nrm;exact hc v _ _ hs hG.1.top);rintro O3 x W3 ⟨rfl,Kh⟩;have hH:bA L O1 W O3 W3/\OB r (.cells #[.string ⟨#[]⟩,.int .i64 0,.string ⟨#[]⟩] 62) O3 W3:=⟨hG.1.trans Kh,hG.2.xC Kh⟩
 clear hG Kh;walk_nrm;(co_apply (aP);intro _ hR;replace hH:=rl hH hR;clear hR;refine⟨by simp[go_sem],fun K z=>?_⟩;go_simp;refine z _ ?_;clear z K;try walk_nrm);co_apply bB rfl (by rfl);intro W4 hR K hK;replace hH:=rl hH hR;clear hR;have hA:aT W4 r #[.string ⟨#[]⟩,.int .i64 0,.string ⟨#[]⟩] 62:=hH.2.heap;have t0:=hA.cell (o:=0) (v:=.string ⟨#[]⟩) rfl;have t1:=hA.cell (o:=1) (v:=.int .i64 0) rfl;have t2:=hA.cell (o:=2) (v:=.string ⟨#[]⟩) rfl;have g0:=hA.frozen 0;have g1:=hA.frozen 1;have g2:=hA.frozen 2;go_simp;try(unfold stored;go_simp)
 refine hK _ _ ⟨?_,?_⟩
 ·refine DX.own hH.2.own (((dO.cell r 0 W4 _).trans (dO.cell r 1 _ _)).trans (dO.cell r 2 _ _)) (cK (b:=true) hH.2.own fun e he=>?_);have hm:=mem_listed he;have E0:=fun es=>lp (P:=prog) (v:=.string k) t0 g0 rfl es;have hA2:=(hA.set 0 (.string k)).set 1 (.int .i64 c);have E2:=fun es=>lp (P:=prog) (v:=.string v) (hA2.cell (o:=2) (v:=.string ⟨#[]⟩) rfl) (hA2.frozen 2) rfl es;simp[go_sem, *]at hm;rcases hm with rfl|rfl|rfl<;>exact⟨_,rfl,rfl⟩
 clear hK K;have Hq:aT (((W4.setCell ⟨r,0,none⟩ (.string k)).setCell ⟨r,1,none⟩ (.int .i64 c)).setCell ⟨r,2,none⟩ (.string v)) r #[.string k,.int .i64 c,.string v] 62:=by simpa using((hA.set 0 (.string k)).set 1 (.int .i64 c)).set 2 (.string v)
 have hT:=((dO.cell r 0 W4 (.string k)).trans (dO.cell r 1 _ (.int .i64 c))).trans (dO.cell r 2 _ (.string v));have hE:bA L O1 W O3 (((W4.setCell ⟨r,0,none⟩ (.string k)).setCell ⟨r,1,none⟩ (.int .i64 c)).setCell ⟨r,2,none⟩ (.string v))/\OB r (.cells #[.string k,.int .i64 c,.string v] 62) O3 (((W4.setCell ⟨r,0,none⟩ (.string k)).setCell ⟨r,1,none⟩ (.int .i64 c)).setCell ⟨r,2,none⟩ (.string v)):=
  ⟨hT.xC hH.1 (by rw[<-hW];exact hr),hH.2.own,Hq⟩
 rw[O3.dh hT.size];clear hH hA Hq t0 t1 t2 g0 g1 g2 hT;generalize (((W4.setCell ⟨r,0,none⟩ (.string k)).setCell ⟨r,1,none⟩ (.int .i64 c)).setCell ⟨r,2,none⟩ (.string v))=W5 at hE⊢;try walk_nrm
 (repeat(first|co_apply aQ|(co_apply (aP);intro _ hR;replace hE:=rl hE hR;clear hR;refine⟨by simp[*,go_sem],fun K z=>?_⟩;go_simp;refine z _ ?_;clear z K;try walk_nrm)|((first|co_apply bh|co_apply cZ|co_apply aO);try co_then)));refine .inl ⟨rfl,_,?_,rfl,by subst hW;subst hO;exact hE.1⟩;intro W7 h7;have h8:=rl hE h7;have hB:aT W7 r #[.string k,.int .i64 c,.string v] 62:=h8.2.heap;refine⟨results_cell_row rfl _ _ r _ _ (0,0) _ rfl hB underlying62 rfl xM,DX.still _ _ (cK (b:=false) h8.2.own fun e he=>?_)⟩;have hm:=mem_seen he;have hm2:e∈(loadVar 62 ⟨r,0,none⟩).events prog W7 #[]:=by have hfr:(Tryz.f78).results=#[.cell 6 62]:=rfl;have hrv:=run_loadVar_row (P:=prog) W7 r 62 62 _ (0,0) _ hB underlying62 rfl xM;simpa[results,hfr,asAddr,hrv]using hm
 exact Jo (P:=prog) W7 ⟨r,0,none⟩ 62 3 _ underlying62 rfl xM (fun j hj=>by
  have:j=0\/j=1\/j=2:=by omega
  rcases this with rfl|rfl|rfl
  ·exact⟨_,hB.cell (o:=0) rfl⟩
  ·exact⟨_,hB.cell (o:=1) rfl⟩
  ·exact⟨_,hB.cell (o:=2) rfl⟩) e hm2
end Go.Proofs.YteoahlieielcdaaGreat
