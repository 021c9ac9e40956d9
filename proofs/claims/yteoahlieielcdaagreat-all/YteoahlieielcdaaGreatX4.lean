import Derived.Test.YteoahlieielcdaaGreatM1
import Derived.Test.YteoahlieielcdaaGreatPr1
set_option linter.all false
set_option maxHeartbeats 4000000
set_option maxRecDepth 100000
open Option renaming some->Y,none->F,getD_some->aa0
open Bool renaming false->E,true->Z6,false_eq_true->aa6
open Exists renaming intro->aa1
open Nat renaming le_refl->aj1
open Go.Lib renaming byteCells->at2,byteCells_length->ba2
namespace Go.Proofs.YteoahlieielcdaaGreat
open Go.Proofs.Tryz
variable{w:af}{o:Oper}{O:aL}{r n i it:Nat}{es evs:Array aC}{P:aB}{f fn:ay}{a:Act}
section
open Go Go.Conc Go.RowKit Go.MuLone
section
variable {P:aB}
def Ny{g o:Nat}{cur:Array aj}{t:az}(hg:w.heap[g]?=Y (.cells cur t (0,0)))(ho:o<cur.size){v:aj}(h1:v.oneCell'=Z6)(es:Array aC):
 (store ⟨g,o,F⟩ v).events P w es=es.push ⟨.cell ⟨g,o,F⟩,Z6,E⟩/\(store ⟨g,o,F⟩ v).run P w=.ok () (w.setRow g (cur.setIfInBounds o v)):=by
 have hcell:w.cell? ⟨g,o,F⟩=Y cur[o]:=by simp[World.cell?,hg,ho]
 have adj:w.frozen? ⟨g,o,F⟩=E:=by simp[World.frozen?,hg]
 constructor
 ·rw[events_store P w es _ v _ h1,hcell];simp only[adj,aa6,if_false];rfl
 ·rw[run_store P w _ v _ h1,hcell];simp[adj,setCell_eq_setRow w g o cur t (0,0) v hg]
def Bz(g o:Nat)(t:az)(vs:List aj)(i:Nat)(cur:Array aj)(w:af)(es:Array aC)(hg:w.heap[g]?=Y (.cells cur t (0,0)))(hl:o+i+vs.length<=cur.size)(h1:∀v∈vs,v.oneCell'=Z6):
 ∀ev∈(storeCells ⟨g,o,F⟩ vs i).events P w es,ev∈es\/∃ad,ev=⟨.cell ad,Z6,E⟩/\ad.block=g:=by
 induction vs generalizing i cur w es with
 |nil=>exact λev h=>.inl (by simpa[storeCells]using h)
 |cons v rest ih=>
  intro ev h;simp only[List.length_cons]at hl;have yI:(⟨g,o,F⟩:aA).add i=⟨g,o+i,F⟩:=by unfold Addr.add;split<;>simp_all
  obtain⟨he,hr⟩:=Ny (P:=P) hg (I:o+i<cur.size) (h1 v XI) es;simp only[storeCells,Sem.events_bind,yI,hr,Result.evThen_ok,he]at h;rcases ih (i+1) _ _ _ (setRow_heap w g cur _ t _ hg) Yn (λx hx=>h1 x (by simp[hx])) ev h with h|h
  ·rcases Array.mem_push.1 h with h|rfl
   ·exact .inl h
   ·exact .inr ⟨_,rfl,rfl⟩
  ·exact .inr h
def DZ(l:List UInt8)(a:aA)(acc:ah)(w:af)(es:Array aC)(hc:∀j x,l[j]?=Y x->w.cell? (a.add j)=Y (.int .u8 x.toNat)):
 ∀ev∈(loadBytes a acc l.length).events P w es,ev∈es\/∃ad,ev=⟨.cell ad,E,E⟩/\ad.block=a.block:=by
 induction l generalizing a acc es with
 |nil=>exact λev h=>.inl (by simpa[loadBytes]using h)
 |cons x l ih=>
  intro ev h;have h0:w.cell? a=Y (.int .u8 x.toNat):=by have:=hc 0 x rfl;simpa[Addr.add]using this
  have hb:(a.add 1).block=a.block:=by simp[Addr.add]
  simp only[List.length_cons,loadBytes,Sem.events_bind,run_load,h0,Result.evThen_ok,events_load]at h;rcases ih (a.add 1) _ _ (λj y hy=>by
   have:=hc (j+1) y (by simpa using hy);have e:(a.add 1).add j=a.add (j+1):=by
    unfold Addr.add;by_cases hj:j=0
    ·subst hj;simp
    ·simp[hj];omega
   rw[e];exact this) ev h with h|⟨ad,h1,h2⟩
  ·rcases Array.mem_push.1 h with h|rfl
   ·exact .inl h
   ·exact .inr ⟨_,rfl,rfl⟩
  ·exact .inr ⟨ad,h1,h2.trans hb⟩
def Ve(w:af)(dT sT ty elem:az)(g:Nat)(s:ah)(cur:Array aj)(t:az)
 (hu:P.underlying dT=Y (.slice elem)) (hs:(P.info? elem).map (·.size)=Y 1) (hg:w.heap[g]?=Y (.cells cur t (0,0))) (hfit:s.size<=cur.size) (cap:Nat):
 ∀ev∈(Builtin.copy_ #[dT,sT] ty #[.slice (Y ⟨g,0,F⟩) s.size cap,.string s]).events P w #[],∃ad,ev=⟨.cell ad,Z6,E⟩/\ad.block=g:=by
 intro ev h;have hlen:(at2 s.data.toList).length=s.size:=by rw[ba2,<-Lib.size_eq]
 have htk:List.take s.size (List.map (λb:UInt8=>Value.int IntKind.u8 (b.toNat:Int)) s.data.toList)=at2 s.data.toList:=by rw[List.take_of_length_le (by rw[List.length_map,<-Lib.size_eq];exact aj1 _)];rfl
 have hst:=Bz (P:=P) g 0 t (at2 s.data.toList) 0 cur w #[] hg (by rw[hlen];simpa using hfit) (Lib.byteCells_one _);cases hq:P.info? elem with
 |none=>rw[hq]at hs;cases hs
 |some i=>
  simp[Builtin.copy_,run_underlying hu,Builtin.lenOf,sizeOf,typeInfo,hq,Builtin.firstCells,htk]at h;exact(hst ev h).elim (λx=>by simp at x) id
def xU(w:af)(pt it ty e:az)(hp:P.underlying pt=Y (.pointer e))(hc:P.cellsOf e=1)(g cells:Nat)(hsh:w.shape? g=Y (e,cells))(l:List UInt8)(h0:l≠ [])(hn:l.length<=cells)(h63:l.length<=9223372036854775807)
 (hcell:∀j x,l[j]?=Y x->w.cell? ((⟨g,0,F⟩:aA).add j)=Y (.int .u8 x.toNat)):
 ∀ev∈(Builtin.unsafeString_ #[pt,it] ty #[.pointer (Y ⟨g,0,F⟩),.int .i64 l.length]).events P w #[],∃ad,ev=⟨.cell ad,E,E⟩/\ad.block=g:=by
 intro ev h;have hl:l.length≠0:=by simpa using h0
 have hlb:=Lib.run_loadBytes (P:=P) w l ⟨g,0,F⟩ .empty hcell;have hle:=DZ (P:=P) l ⟨g,0,F⟩ .empty w #[] hcell;have hlies:=Lib.liesAt_bytes (P:=P) hc (cells / P.cellsOf e) l.length (by rw[hc];simpa using hn);have h63':¬(9223372036854775807:Int)< (l.length:Int):=I
 have ahO:IntKind.i64.max=9223372036854775807:=rfl;have hneg:¬(l.length:Int)<0:=I
 have ahP:Builtin.unsafeString_ #[pt,it] ty #[.pointer (Y ⟨g,0,F⟩),.int .i64 l.length]=
  (do
    let n <-asInt (.int .i64 l.length)
    if n<0 then runtimePanic (.error "unsafe.String: len out of range")
    if n > IntKind.i64.max then unsupported (.unsafePointer "String: a length above the largest int")
    if n=0 then pure (.string .empty)
    else if <-variablesAt ⟨g,0,F⟩ (<-elemOf pt) n.toNat then do
     let s <-loadBytes ⟨g,0,F⟩ .empty n.toNat
     freeze ⟨g,0,F⟩ n.toNat
     pure (.string s)
    else unsupported (.unsafePointer "String: not so many bytes at ptr")):=rfl
 rw[ahP]at h;simp[asInt,asIntOf,ahO,h63',hneg,hl,variablesAt,hsh,elemOf,run_underlying hp,hlies,hlb]at h;exact(hle ev h).elim (λx=>by simp at x) id
end
variable {main:Bool}{J:Jm}{L:eI}
@[go_sem] theorem Za (s:ah) (w:af) (es:Array aC):(Builtin.len_ #[9] 3 #[.string s]).events prog w es=es:=by simp[Builtin.len_,run_underlying underlying9]
def ep.row(r:Nat)(w:af)(aE:Array aj):ep r w (w.setRow r aE):=⟨rfl,rfl,rfl,XI,λi hi=>setRow_other _ _ _ _ hi⟩
def ep.freeze(r n:Nat)(w:af):ep r w (w.freeze ⟨r,0,F⟩ n):=by
 unfold World.freeze;split
 ·exact⟨rfl,rfl,rfl,rfl,λ_ _=>rfl⟩
 ·exact⟨rfl,rfl,rfl,XI,λi hi=>by simp[Array.getElem?_modify,Ne.symm hi]⟩
def cW{L:eI}(h:O.own r){b:Bool}(he:∀e∈es,∃ad,e=⟨.cell ad,b,E⟩/\ad.block=r):∀e∈es,Es L O e:=by intro e hm;obtain⟨ad,rfl,hb⟩:=he e hm;exact⟨rfl,.inl ⟨ad,rfl,.inl (hb▸h)⟩⟩
def bH{R:vn}{D:vo}{fn:Func}{c:Code}{args:Array aj}{Post:aL->aj->af->Prop}(hf:P.funcs[f]?=Y fn)(hname:(fn.name == "runtime.NumGoroutine")=E)(hb:fn.body=Y c)
 (h:cZ P main J R D f c n (oR P main J R D 0 f fn Post) O {tmps:=args++Array.replicate (fn.ntmps-args.size) undef,defers:= []} w):bG P main J R D f args n O w Post:=⟨fn,c,n,0,aj1 _,hf,hname,hb,h⟩
def Nz:∃n,∀(s:ah) (O:aL) (w:af),s.size<=1000->L.N<=w.heap.size->
 bG prog main J (RX L) (DX L) 129 #[.string s] n O w λO' v w'=>v=.string s/\bJ L O w O' w':=by
 co_apply aa1;intro s O w hs hN;have hF:bJ L O w O w:=bJ.refl hN;have hlen:s.data.toList.length=s.size:=(Lib.size_eq s).symm;obtain⟨i0,hi,hz0,Ff,Iq⟩:=info_parts zx;have hsz:(prog.info? 5).map (·.size)=Y 1:=by rw[hi];simp[Ff]
 have hco:prog.cellsOf 5=1:=by simp[Program.cellsOf,hi,Ff]
 have hmk:=λW=>zy s.size hs W;have hme:=λW es=>events_make (P:=prog) W 116 5 i0 (.int .u8 0) underlying116 hi hz0 .i64 .i64 (s.size:Int) (s.size:Int) I I (by rw[Iq];omega) I (by rw[Iq];omega) es;co_apply bH func129 Ym rfl;walk_nrmf ntmps129;generalize hW:w=W at hF⊢;generalize hO:O=O1 at hF⊢;co_apply (yJ);intro _ hF;(co_apply aW (aF L) (t:=((s.size:Int)== 0));focus(simp[Act.eval]))
 ·intro h0;have h0':s.size=0:=by simpa using h0
  obtain rfl:s=⟨#[]⟩:=ByteArray.ext (Array.eq_empty_of_size_eq_zero h0');co_apply (yJ);intro _ hF;exact .inl ⟨rfl,_,bW (aF L) (resultsC_tmp Ym _),rfl,by subst hW;subst hO;exact hF⟩
 ·intro h0;(first|co_apply yK|co_apply GY|co_apply yL|co_apply yc);co_then;(first|co_apply yK|co_apply GY|co_apply yL|co_apply yc);co_apply BJ;co_apply (kJ);intro _ hF;co_apply (kJ);intro _ hF;co_apply bM rfl Ym;intro W1 hR K hK;replace hF:=bJ.rely hF hR;clear hR;obtain⟨M,hM,hm⟩:=hmk W1;go_simp;refine hK _ _ ⟨?_,?_⟩
  ·rw[listed_nil (by simp[go_sem,hme])];exact DX.alloc _ _ _
  clear hK K hm;try walk_nrm
  have hr:w.heap.size<=W1.heap.size:=by rw[hW];exact hF.rel.le
  have hG:bJ L O1 W (O1.grow W1 (W1.alloc (.cells M 5))) (W1.alloc (.cells M 5))/\OB W1.heap.size (.cells M 5) (O1.grow W1 (W1.alloc (.cells M 5))) (W1.alloc (.cells M 5)):=⟨hF.alloc _,OB.new _ _ _⟩
  clear hF;generalize (O1.grow W1 (W1.alloc (.cells M 5)))=O2 at hG⊢;generalize (W1.alloc (.cells M 5))=W2 at hG⊢;generalize W1.heap.size=r at hG hr⊢;have rl:∀{M:Array aj} {Wa Wb:af},(bJ L O1 W O2 Wa/\OB r (.cells M 5) O2 Wa)->RX L O2 Wa Wb->(bJ L O1 W O2 Wb/\OB r (.cells M 5) O2 Wb):=λh x=>⟨h.1.rely x,h.2.rely x⟩
  co_apply (oZ);intro _ hG;(first|co_apply yK|co_apply GY|co_apply yL|co_apply yc);co_then;(first|co_apply yK|co_apply GY|co_apply yL|co_apply yc);co_apply BJ;co_apply (oZ);intro _ hG;co_apply (oZ);intro _ hG;co_apply bM rfl Ym;intro W3 hR K hK;replace hG:=rl hG hR;clear hR;have SU:=Lib.run_copy_row_string (P:=prog) W3 116 9 3 5 r 0 s.size s.size s M 5 underlying116 hsz hG.2.heap (aj1 _) I;have hce:=Ve (P:=prog) W3 116 9 3 5 r s M 5 underlying116 hsz hG.2.heap I s.size;generalize hY:(M.toList.take 0++at2 s.data.toList++M.toList.drop (0+s.size)).toArray=aE at SU;go_simp;refine hK _ _ ⟨?_,?_⟩
  ·refine DX.own hG.2.own (ep.row r W3 aE) (cW (b:=Z6) hG.2.own λe he=>?_);have hm:=mem_listed he;simp[go_sem]at hm;exact hce e hm
  clear hK K;rw[O2.dG XI];try walk_nrm
  have hYl:aE.toList=at2 s.data.toList:=by rw[<-hY];simp[<-hM]
  have hYs:aE.size=s.size:=by rw[<-Array.length_toList,hYl,ba2,hlen]
  clear SU hce hY;have hH:bJ L O1 W O2 (W3.setRow r aE)/\OB r (.cells aE 5) O2 (W3.setRow r aE):=⟨(ep.row r W3 aE).ya hG.1 (by rw[<-hW];exact hr),hG.2.own,setRow_heap _ _ M _ 5 (0,0) hG.2.heap⟩
  clear hG;generalize W3.setRow r aE=W4 at hH⊢;have hp:0<s.size:=by
   rcases Nat.eq_zero_or_pos s.size with h|h
   ·rw[h]at h0;simp at h0
   ·exact h
  (first|co_apply yK|co_apply GY|co_apply yL|co_apply yc);co_then;(first|co_apply yK|co_apply GY|co_apply yL|co_apply yc);co_apply BJ;(co_apply (vu);intro _ hR;replace hH:=rl hH hR;clear hR;refine⟨YU,λK z=>?_⟩;go_simp;refine z _ ?_;clear z K;try walk_nrm);(co_apply (vu);intro _ hR;replace hH:=rl hH hR;clear hR;refine⟨by simp[*,go_sem],λK z=>?_⟩;go_simp;refine z _ ?_;clear z K;try walk_nrm);(co_apply (vu);intro _ hR;replace hH:=rl hH hR;clear hR;refine⟨YU,λK z=>?_⟩;go_simp;refine z _ ?_;clear z K;try walk_nrm);(co_apply (vu);intro _ hR;replace hH:=rl hH hR;clear hR;refine⟨by simp[*,go_sem],λK z=>?_⟩;go_simp;refine z _ ?_;clear z K;try walk_nrm);co_apply bM rfl Ym;intro W5 hR K hK;replace hH:=rl hH hR;clear hR;have qO:∀j x,s.data.toList[j]?=Y x->W5.cell? ((⟨r,0,F⟩:aA).add j)=Y (.int .u8 x.toNat):=
   λj x hx=>Lib.cells_of_row hH.2.heap aE.size j _ (by rw[List.take_of_length_le (by rw[Array.length_toList];exact aj1 _),hYl];simp[at2,hx])
  have hsh:W5.shape? r=Y (5,aE.size):=by unfold World.shape?;rw[hH.2.heap]
  have hne:s.data.toList≠ []:=λe=>by rw[e]at hlen;simp at hlen;omega
  have hus:=Lib.run_unsafeString_row (P:=prog) W5 242 3 9 5 underlying242 hco r aE.size hsh s.data.toList hne I I qO;have hue:=xU (P:=prog) W5 242 3 9 5 underlying242 hco r aE.size hsh s.data.toList hne I I qO;rw[hlen]at hus hue;go_simp;refine hK _ _ ⟨?_,?_⟩
  ·refine DX.own hH.2.own (ep.freeze r s.size W5) (cW (b:=E) hH.2.own λe he=>?_);have hm:=mem_listed he;simp[go_sem]at hm;exact hue e hm
  clear hK K;rw[O2.dG (ep.freeze r s.size W5).size];try walk_nrm
  have hE:bJ L O1 W O2 (W5.freeze ⟨r,0,F⟩ s.size):=(ep.freeze r s.size W5).ya hH.1 (by rw[<-hW];exact hr);clear hH hus hue qO hsh;generalize W5.freeze ⟨r,0,F⟩ s.size=W6 at hE⊢;(repeat(first|co_apply BJ|(co_apply (vu);intro _ hR;replace hE:=hE.rely hR;clear hR;refine⟨by simp[*,go_sem],λK z=>?_⟩;go_simp;refine z _ ?_;clear z K;try walk_nrm)|((first|co_apply yK|co_apply GY|co_apply yL|co_apply yc);try co_then)));exact .inl ⟨rfl,_,bW (aF L) (resultsC_tmp Ym _),rfl,by subst hW;subst hO;exact hE⟩
end
section
open Go Go.Conc Go.ConcM Go.RowKit
variable {main:Bool}{L:eI}{pb:Nat}
structure nV(a:Act)(pb:Nat)(t:Int)(sv aw:Bool)(it:Nat)(old:Wd):Prop where
 d:a.defers= []
 size:a.tmps.size=139
 g0:a.tmps[0]?=Y (.pointer (Y ⟨pb,0,F⟩))
 g2:a.tmps[2]?=Y (.int .i64 t)
 g3:a.tmps[3]?=Y (.bool sv)
 g4:a.tmps[4]?=Y (.bool aw)
 g5:a.tmps[5]?=Y (.int .i64 (it:Nat))
 g6:a.tmps[6]?=Y (.int .i32 (old.val:Nat))
def gJ{ad:aA}(hq:(P.funcs[fn]?).any (·.norace)=Z6)(h:(execOp a.eval o).events P w #[]=#[⟨.cell ad,E,E⟩]):listed P fn a o w=#[]:=by unfold listed;rw[h,seen_def,hq];rfl
def tT{g:ay}{fn':Func}{xs:Array aD}{ats:Array az}{e:Array aj->Sem aj}(hop:o.op=.call {callee:=.value (.func g),args:=xs,argTypes:=ats})
 (hf:P.funcs[g]?=Y fn') (hname:(fn'.name == "runtime.NumGoroutine")=E) (hb:fn'.body.isNone=Z6) (hn:Extern.findNext fn'=F) (he:Extern.find fn'=Y e)
 (hev:(e (xs.map a.eval)).events P w #[⟨.mark (.extern g),E,Z6⟩]=#[⟨.mark (.extern g),E,Z6⟩]++evs) (hs:∀x∈evs,x.sync=Z6/\∀g,x.loc≠.mark (.extern g)):listed P fn a o w=evs:=by unfold listed;rw[execOp_call_func hop,events_callFunc_extern hf hname hb hn he];simp only[List.push_toArray,List.nil_append];rw[hev,seen_entry _ _ _ hs]
def cA:Code->Code
 |.seq x _=>x
 |c=>c
def cB:Code->Code
 |.seq _ y=>y
 |c=>c
def cI:Code->Code
 |.block _ c=>c
 |.loop c=>c
 |c=>c
def cT:Code->Code
 |.cond _ x _=>x
 |c=>c
noncomputable def bU:Code:=f111.body.getD .skip
def cE:Code->Code
 |.cond _ _ y=>y
 |c=>c
noncomputable def dL:Code:=cI (cI (cI (cA (cB (cB (cB (cB (cB bU))))))))
def spT(old:Wd)(aw sv:Bool)(it:Nat)(ws:Bool):Lk:=if aw=E/\old.w=E/\old.c≠0 then .cw old sv it ws else .rd aw sv (it+1) ws
def Xt(L:eI)(O1:aL)(W:af)(pb K:Nat)(O:aL)(a:Act)(w:af):Prop:=
 ∃(t:Int) (sv aw:Bool) (it:Nat) (old:Wd),nV a pb t sv aw it old/\old.c<=1000/\it<=4/\dK L O1 W pb K (mI old aw sv it (decide (t≠0))) 0 O w
def HZ(w:af):(callFunc 135 #[]).run prog w=.ok (.value (.tuple #[])) w:=by rw[run_callFunc_extern func135 Yl Yl Yl (e:=Extern.Sync.nothing) Yl];rfl
def Pe(x:Wd)(aw sv:Bool)(it:Nat)(ws:Bool):gW (mI x aw sv it ws)=0:=by unfold mI;split<;>rfl
def Pf(x:Wd)(aw sv:Bool)(it:Nat)(ws:Bool):x8 (mI x aw sv it ws) 0=1:=by unfold mI;split<;>rfl
def Xu(aw sv:Bool)(it:Nat)(ws:Bool)(x:Wd)(v:Nat):gE (.rd aw sv it ws) 0 x v= [((mI x aw sv it ws,0),x,v)]:=by simp[gE,iq,Pe]
def CS{Q:eK}{O1:aL}{W:af}{k:Nat}{ops:Array Oper}{rest:List Nat}{aw sv ws:Bool}(hS:dK L O1 W pb k (.rd aw sv it ws) 0 O w)
 (ho:ops[i]?=Y o) (hw:Region.wanted o (yielded ops a.tmps)=Z6)
 (hrun:∀w₁ x',w₁.cell? ⟨pb,0,F⟩=Y (.int .i32 x')->(execOp a.eval o).run P w₁=.ok (.value (.int .i32 x')) w₁) (hev:∀w₁ x',w₁.cell? ⟨pb,0,F⟩=Y (.int .i32 x')->listed P fn a o w₁=#[]) {n1:Nat}
 (k1:∀(O':aL) w₁ (x':Wd),x'.c<=1000->dK L O1 W pb (k-1) (mI x' aw sv it ws) 0 O' w₁->bQ P main (jo P main pb) (RX L) (DX L) fn ops rest n1 Q O' (a.put o.dst (.int .i32 (x'.val:Nat))) w₁):
 bQ P main (jo P main pb) (RX L) (DX L) fn ops (i :: rest) n Q O a w:=
 vm hS.pos XI ho hw hrun hev (wv:=λx'=>mI x' aw sv it ws) (mm:=λ_=>0) (λx' v _ _=>Xu aw sv it ws x' v) (λx'=>Pf x' aw sv it ws) λw₁ hR x' v _ hc _=>k1 _ w₁ x' hc ((hS.rely hR).jump (bA.refl _ _))
def afl:∃n,∀(O1:aL) (W:af) (Kf:Nat) (t:Int) (sv aw:Bool) (it:Nat) (old:Wd) (O:aL) (a:Act) (w:af) (Q:eK),nV a pb t sv aw it old->old.c<=1000->dK L O1 W pb Kf (mI old aw sv it (decide (t≠0))) 0 O w->
 cZ prog main (jo prog main pb) (RX L) (DX L) 111 (cA (cA dL)) n (bn (λO' a' w'=>nV a' pb t sv aw it old/\∃b:Bool,a'.tmps[20]?=Y (.bool b)/\(b=E/\dK L O1 W pb Kf (.sG old aw sv it (decide (t≠0))) 0 O' w'\/b=Z6/\it<4/\old.l=Z6/\old.s=E/\dK L O1 W pb (Kf-1) (spT old aw sv it (decide (t≠0))) 0 O' w')) Q) O a w:=by
 co_apply aa1;intro O1 W Kf t sv aw it old O a w Q hl hc hS;dsimp only[dL,bU,cA,cB,cI,cT,f111,aa0];generalize me:decide (t≠0)=ws at hS⊢;(co_apply (L4);intro fv);obtain⟨l,ww,s,c⟩:=old;have h5:=Hp (x:=⟨l,ww,s,c⟩) (by simp at hc⊢;omega);co_apply fJ (l=Z6/\s=E)
 ·intro hsp;obtain⟨rfl,rfl⟩:=hsp;simp only[mI,and_self,if_true]at hS;simp[b1]at h5;co_apply (eG);intro _ hS;co_apply LU (n:=0) hS.pos rfl Ym rfl func134 Yl Yl Yl Yl (by first|(walk_nrm;done)|simp[Act.eval]);intro W1 W2 hR hE b hb;replace hS:=(hS.rely hR).jump (T':=(if b=Z6 then(if aw=E/\(⟨Z6,ww,E,c⟩:Wd).w=E/\(⟨Z6,ww,E,c⟩:Wd).c≠0 then .cw ⟨Z6,ww,E,c⟩ sv it ws else .rd aw sv (it+1) ws)else .sG ⟨Z6,ww,E,c⟩ aw sv it ws)) (m':=0) hE;generalize O.jump O.own _=O2 at hS⊢;clear hE hR;walk_nrm;co_apply (eG);intro _ hS;refine⟨⟨rfl,rfl,rfl,rfl,rfl,rfl,rfl,rfl⟩,b,rfl,?_⟩;cases b with
  |false=>exact .inl ⟨rfl,hS.weak I⟩
  |true=>exact .inr ⟨rfl,hb rfl,Z5,Z5,hS⟩
 ·intro hsp;have hS':dK L O1 W pb Kf (.sG ⟨l,ww,s,c⟩ aw sv it ws) 0 O w:=by
   have:mI ⟨l,ww,s,c⟩ aw sv it ws=.sG ⟨l,ww,s,c⟩ aw sv it ws:=by simp only[mI];rw[if_neg hsp]
   rwa [this]at hS
  clear hS;have h5':(bits .and .i32 (((⟨l,ww,s,c⟩:Wd).val:Nat):Int) 5 == 1)=E:=by rw[h5];revert hsp;cases l<;>cases s<;>simp[b1]
  clear h5;(repeat(first|co_apply BJ|(co_apply (vu);intro _ hR;replace hS':=hS'.rely hR;clear hR;refine⟨by simp[*,go_sem],λK z=>?_⟩;go_simp;refine z _ ?_;clear z K;try walk_nrm)|(co_apply (TE);try walk_nrm)|(co_apply yc;try co_then)));exact⟨⟨rfl,rfl,rfl,rfl,rfl,rfl,rfl,rfl⟩,E,rfl,.inl ⟨rfl,hS'⟩⟩
def afm:∃n,∀(O1:aL) (W:af) (Kf:Nat) (t:Int) (sv aw:Bool) (it:Nat) (old:Wd) (O:aL) (a:Act) (w:af) (Q:eK),nV a pb t sv aw it old->old.c<=1000->dK L O1 W pb Kf (spT old aw sv it (decide (t≠0))) 0 O w->
 cZ prog main (jo prog main pb) (RX L) (DX L) 111 (cA (cA (cT (cB (cA dL))))) n (bn (λO' a' w'=>nV a' pb t sv aw it old/\∃b:Bool,a'.tmps[41]?=Y (.bool b)/\dK L O1 W pb Kf (.rd (aw || b) sv (it+1) (decide (t≠0))) 0 O' w') Q) O a w:=by
 co_apply aa1;intro O1 W Kf t sv aw it old O a w Q hl hc hS;dsimp only[dL,bU,cA,cB,cI,cT,f111,aa0];generalize me:decide (t≠0)=ws at hS⊢;(co_apply (L4);intro fv);obtain⟨l,ww,s,c⟩:=old;have h2:=OL (x:=⟨l,ww,s,c⟩) (by simp at hc⊢;omega);have hor:=VP (x:=⟨l,ww,s,c⟩) (by simp at hc⊢;omega);have hsh:=EK ⟨l,ww,s,c⟩;have hs8:(((⟨l,ww,s,c⟩:Wd).val:Nat):Int)/ 8=((c:Nat):Int):=hsh;simp only at hor hsh hc;simp only[spT]at hS;co_apply fJ (aw=Z6)
 ·intro h;subst h;simp only[Bool.true_eq_false,false_and,if_false]at hS;co_apply (eG);intro _ hS;exact⟨⟨rfl,rfl,rfl,rfl,rfl,rfl,rfl,rfl⟩,E,rfl,hS⟩
 intro VV;obtain rfl:aw=E:=by simpa using VV
 clear VV;co_apply fJ (ww=Z6)
 ·intro h;subst h;simp[b1]at h2;simp only[Bool.true_eq_false,false_and,and_false,if_false]at hS;co_apply (eG);intro _ hS;exact⟨⟨rfl,rfl,rfl,rfl,rfl,rfl,rfl,rfl⟩,E,rfl,hS⟩
 intro hww;obtain rfl:ww=E:=by simpa using hww
 clear hww;simp[b1]at h2;co_apply fJ (c=0)
 ·intro h;subst h;simp only[ne_eq,not_true,and_false,if_false]at hS;co_apply (eG);intro _ hS;exact⟨⟨rfl,rfl,rfl,rfl,rfl,rfl,rfl,rfl⟩,E,rfl,hS⟩
 intro hc0;have hc1:((((c:Nat):Int)== 0)=E):=by simp;omega
 have hc2:((((c:Nat):Int)!= 0)=Z6):=by simp;omega
 simp only[ne_eq,hc0,not_false_eq_true,and_self,if_true]at hS;co_apply (eG);intro _ hS;co_apply tQ (n:=0) (old:=⟨l,E,s,c⟩) (nw:=⟨l,Z6,s,c⟩) (T1:=.rd Z6 sv (it+1) ws) (T2:=.rd E sv (it+1) ws) hS.pos XI rfl rfl Ym rfl func108 Yl Yl Yl Yl Ym Ym Ym (λv _=>by simp[gE,iq,gW]) (λx v hx _=>by simp[gE,iq,gW,hx]) rfl rfl
 ·intro W1 hR v hM _;replace hS:=(hS.rely hR).jump (T':=.rd Z6 sv (it+1) ws) (m':=0) (bA.set pb W1 0 (.int .i32 ((⟨l,Z6,s,c⟩:Wd).val:Nat)) I);simp only[gW];generalize O.jump O.own _=O2 at hS⊢;clear hR hM;generalize W1.setCell _ _=W2 at hS⊢;walk_nrm;co_apply (eG);intro _ hS;exact⟨⟨rfl,rfl,rfl,rfl,rfl,rfl,rfl,rfl⟩,Z6,rfl,hS.weak I⟩
 ·intro W1 hR x v hx hM _;replace hS:=(hS.rely hR).jump (T':=.rd E sv (it+1) ws) (m':=0) (bA.refl pb W1);simp only[gW];generalize O.jump O.own _=O2 at hS⊢;clear hR hM hx;walk_nrm;co_apply (eG);intro _ hS;exact⟨⟨rfl,rfl,rfl,rfl,rfl,rfl,rfl,rfl⟩,E,rfl,hS.weak I⟩
def afo:∃n,∀(O1:aL) (W:af) (Kf:Nat) (t:Int) (sv aw:Bool) (it:Nat) (old:Wd) (O:aL) (a:Act) (w:af) (Q:eK),nV a pb t sv aw it old->it<4->dK L O1 W pb Kf (.rd aw sv (it+1) (decide (t≠0))) 0 O w->Hid (∀O' a' w',Xt L O1 W pb (Kf-1) O' a' w'->Q O' (.exit 1) a' w')->
 cZ prog main (jo prog main pb) (RX L) (DX L) 111 (cB (cT (cB (cA dL)))) n (Q) O a w:=by
 co_apply aa1;intro O1 W Kf t sv aw it old O a w Q hl hit hS hQ;have hds:=HZ;dsimp only[dL,bU,cA,cB,cI,cT,f111,aa0];generalize me:decide (t≠0)=ws at hS;(co_apply (L4);intro fv);have ako:IntKind.i64.wrap ((it:Int)+1)=((it+1:Nat):Int):=by rw[IntKind.wrap_i64];omega
 co_apply (iw);(co_apply aO rfl Ym;intro _ hR K hK;replace hS:=dK.rely hS hR;clear hR;(skip);go_simp;refine hK _ ⟨?_,?_⟩;(focus(rw[tT (evs:=#[]) rfl func135 Yl Yl Yl (e:=Extern.Sync.nothing) Yl Ym XI];exact DX.idle _ _));clear hK K;try walk_nrm);co_apply (eG);intro _ hS;co_apply CS (n:=0) hS rfl Ym (λ_ _ hx=>run_eq_of (by intro K hK;go_simp;exact hK)) (λ_ _ hx=>gJ (ad:=⟨pb,0,F⟩) Ym (by simp[go_sem,hx]));intro O2 W1 x hx gN;walk_nrm;co_apply (Zw);intro _ gN;refine hQ.out _ _ _ ⟨t,sv,aw,it+1,x,⟨rfl,rfl,rfl,rfl,rfl,rfl,rfl,rfl⟩,hx,I,?_⟩;rw[me];exact gN
def L9(old:Wd):Wd:=if old.s then old else{old with l:=Z6}
def KG(old:Wd):Wd:=if old.l || old.s then{L9 old with c:=old.c+1}else L9 old
def H8(old:Wd)(sv:Bool):Wd:=if sv && old.l then{KG old with s:=Z6}else KG old
def nw4(old:Wd)(aw sv:Bool):Pp old aw sv=if aw then{H8 old sv with w:=E}else H8 old sv:=by obtain⟨l,w,s,c⟩:=old;cases l<;>cases w<;>cases s<;>cases aw<;>cases sv<;>rfl
def XG(old:Wd):(L9 old).c=old.c:=by unfold L9;split<;>rfl
def abe(old:Wd):(KG old).c<=old.c+1:=by unfold KG;split<;>simp[XG]
def abg(old:Wd)(sv:Bool):(H8 old sv).c<=old.c+1:=by unfold H8;split<;>exact abe old
def afJ(old:Wd)(sv:Bool):(H8 old sv).w=old.w:=by obtain⟨l,w,s,c⟩:=old;cases l<;>cases w<;>cases s<;>cases sv<;>rfl
def abh:∃n,∀(O1:aL) (W:af) (Kf:Nat) (t:Int) (sv aw:Bool) (it:Nat) (old:Wd) (O:aL) (a:Act) (w:af) (Q:eK),nV a pb t sv aw it old->old.c<=1000->dK L O1 W pb Kf (.sG old aw sv it (decide (t≠0))) 0 O w->
 cZ prog main (jo prog main pb) (RX L) (DX L) 111 (cA (cB dL)) n (bn (λO' a' w'=>nV a' pb t sv aw it old/\a'.tmps[7]?=Y (.int .i32 ((old).val:Nat))/\dK L O1 W pb Kf (.sG old aw sv it (decide (t≠0))) 0 O' w') Q) O a w:=by co_apply aa1;intro O1 W Kf t sv aw it old O a w Q hl hc hS;dsimp only[dL,bU,cA,cB,cI,cT,cE,f111,aa0];generalize me:decide (t≠0)=ws at hS⊢;(co_apply (L4);intro fv);co_apply (eG);intro _ hS;exact⟨⟨rfl,rfl,rfl,rfl,rfl,rfl,rfl,rfl⟩,rfl,hS⟩
def abi:∃n,∀(O1:aL) (W:af) (Kf:Nat) (t:Int) (sv aw:Bool) (it:Nat) (old:Wd) (O:aL) (a:Act) (w:af) (Q:eK),nV a pb t sv aw it old->a.tmps[7]?=Y (.int .i32 ((old).val:Nat))->old.c<=1000->dK L O1 W pb Kf (.sG old aw sv it (decide (t≠0))) 0 O w->
 cZ prog main (jo prog main pb) (RX L) (DX L) 111 (cA (cB (cB dL))) n (bn (λO' a' w'=>nV a' pb t sv aw it old/\a'.tmps[7]?=Y (.int .i32 ((L9 old).val:Nat))/\dK L O1 W pb Kf (.sG old aw sv it (decide (t≠0))) 0 O' w') Q) O a w:=by
 co_apply aa1;intro O1 W Kf t sv aw it old O a w Q hl h7 hc hS;dsimp only[dL,bU,cA,cB,cI,cT,cE,f111,aa0];generalize me:decide (t≠0)=ws at hS⊢;(co_apply (wlM);intro fv);have h4:=Ho (x:=old) I;have ho:=aah (x:=old) I;co_apply fJ (old.s=Z6)
 ·intro h;have e:L9 old=old:=by simp[L9,h]
  rw[e];simp[h,b1]at h4;clear h e;co_apply (eG);intro _ hS;exact⟨⟨rfl,rfl,rfl,rfl,rfl,rfl,rfl,rfl⟩,rfl,hS⟩
 ·intro h;have e:L9 old={old with l:=Z6}:=by simp[L9,h]
  rw[e];simp[h,b1]at h4;clear h e;co_apply (eG);intro _ hS;exact⟨⟨rfl,rfl,rfl,rfl,rfl,rfl,rfl,rfl⟩,rfl,hS⟩
def abk:∃n,∀(O1:aL) (W:af) (Kf:Nat) (t:Int) (sv aw:Bool) (it:Nat) (old:Wd) (O:aL) (a:Act) (w:af) (Q:eK),nV a pb t sv aw it old->a.tmps[7]?=Y (.int .i32 ((L9 old).val:Nat))->old.c<=1000->dK L O1 W pb Kf (.sG old aw sv it (decide (t≠0))) 0 O w->
 cZ prog main (jo prog main pb) (RX L) (DX L) 111 (cA (cB (cB (cB dL)))) n (bn (λO' a' w'=>nV a' pb t sv aw it old/\a'.tmps[7]?=Y (.int .i32 ((KG old).val:Nat))/\dK L O1 W pb Kf (.sG old aw sv it (decide (t≠0))) 0 O' w') Q) O a w:=by
 co_apply aa1;intro O1 W Kf t sv aw it old O a w Q hl h7 hc hS;dsimp only[dL,bU,cA,cB,cI,cT,cE,f111,aa0];generalize me:decide (t≠0)=ws at hS⊢;(co_apply (wlM);intro fv);have h5:=Hp (x:=old) I;have ho:=W9 (x:=L9 old) (by rw[XG];omega);rw[XG]at ho;co_apply fJ ((old.l || old.s)=Z6)
 ·intro h;have e:KG old={L9 old with c:=old.c+1}:=by simp only[KG];rw[if_pos h]
  rw[e];have h5':(bits .and .i32 ((old.val:Nat):Int) 5 != 0)=Z6:=by rw[h5];revert h;cases old.l<;>cases old.s<;>simp[b1]
  clear h5 h e;co_apply (eG);intro _ hS;exact⟨⟨rfl,rfl,rfl,rfl,rfl,rfl,rfl,rfl⟩,rfl,hS⟩
 ·intro h;have e:KG old=L9 old:=by simp only[KG];rw[if_neg h]
  rw[e];have h5':bits .and .i32 ((old.val:Nat):Int) 5=0:=by rw[h5];revert h;cases old.l<;>cases old.s<;>simp[b1]
  clear h5 h e;co_apply (eG);intro _ hS;exact⟨⟨rfl,rfl,rfl,rfl,rfl,rfl,rfl,rfl⟩,rfl,hS⟩
def abl:∃n,∀(O1:aL) (W:af) (Kf:Nat) (t:Int) (sv aw:Bool) (it:Nat) (old:Wd) (O:aL) (a:Act) (w:af) (Q:eK),nV a pb t sv aw it old->a.tmps[7]?=Y (.int .i32 ((KG old).val:Nat))->old.c<=1000->dK L O1 W pb Kf (.sG old aw sv it (decide (t≠0))) 0 O w->
 cZ prog main (jo prog main pb) (RX L) (DX L) 111 (cA (cB (cB (cB (cB dL))))) n (bn (λO' a' w'=>nV a' pb t sv aw it old/\a'.tmps[7]?=Y (.int .i32 ((H8 old sv).val:Nat))/\dK L O1 W pb Kf (.sG old aw sv it (decide (t≠0))) 0 O' w') Q) O a w:=by
 co_apply aa1;intro O1 W Kf t sv aw it old O a w Q hl h7 hc hS;dsimp only[dL,bU,cA,cB,cI,cT,cE,f111,aa0];generalize me:decide (t≠0)=ws at hS⊢;(co_apply (wlM);intro fv);have h1:=OK (x:=old) I;have ho:=aai (x:=KG old) (by have:=abe old;omega);co_apply fJ (sv=Z6)
 ·intro h;subst h;co_apply fJ (old.l=Z6)
  ·intro h;have e:H8 old Z6={KG old with s:=Z6}:=by simp[H8,h]
   rw[e];simp[h,b1]at h1;clear h e;co_apply (eG);intro _ hS;exact⟨⟨rfl,rfl,rfl,rfl,rfl,rfl,rfl,rfl⟩,rfl,hS⟩
  ·intro h;have e:H8 old Z6=KG old:=by simp[H8,h]
   rw[e];simp[h,b1]at h1;clear h e;co_apply (eG);intro _ hS;exact⟨⟨rfl,rfl,rfl,rfl,rfl,rfl,rfl,rfl⟩,rfl,hS⟩
 ·intro h;obtain rfl:sv=E:=by simpa using h
  have e:H8 old E=KG old:=by simp[H8]
  rw[e];co_apply (eG);intro _ hS;exact⟨⟨rfl,rfl,rfl,rfl,rfl,rfl,rfl,rfl⟩,rfl,hS⟩
def abm:∃n,∀(O1:aL) (W:af) (Kf:Nat) (t:Int) (sv aw:Bool) (it:Nat) (old:Wd) (O:aL) (a:Act) (w:af) (Q:eK),nV a pb t sv aw it old->a.tmps[7]?=Y (.int .i32 ((H8 old sv).val:Nat))->old.c<=1000->dK L O1 W pb Kf (.sG old aw sv it (decide (t≠0))) 0 O w->
 cZ prog main (jo prog main pb) (RX L) (DX L) 111 (cA (cB (cB (cB (cB (cB dL)))))) n (bn (λO' a' w'=>nV a' pb t sv aw it old/\a'.tmps[7]?=Y (.int .i32 ((Pp old aw sv).val:Nat))/\dK L O1 W pb Kf (.sG old aw sv it (decide (t≠0))) 0 O' w') Q) O a w:=by
 co_apply aa1;intro O1 W Kf t sv aw it old O a w Q hl h7 hc hS;dsimp only[dL,bU,cA,cB,cI,cT,cE,f111,aa0];generalize me:decide (t≠0)=ws at hS⊢;(co_apply (wlM);intro fv);have h2:=OL (x:=H8 old sv) (by have:=abg old sv;omega);have ho:=WZ (x:=H8 old sv) (by have:=abg old sv;omega);rw[afJ]at h2;rw[nw4];co_apply fJ (aw=Z6)
 ·intro h;subst h;simp only[if_true];co_apply fJ (old.w=Z6)
  ·intro h;simp[h,b1]at h2;clear h;co_apply (eG);intro _ hS;exact⟨⟨rfl,rfl,rfl,rfl,rfl,rfl,rfl,rfl⟩,rfl,hS⟩
  ·intro h;simp[h,b1]at h2;co_apply (iw);co_apply (Tw);intro _ hS;co_apply (iw);(first|co_apply (xCt)|co_apply (xCf));co_apply aM (aF L) (n₂:=0) (λ_ _ _=>False);case hy=>exact λ_ _ _ h=>h.elim
   co_apply (eG);intro _ hS;co_apply O8 (n:=0) hS.pos;intro x v;exact⟨((.bad,0),x,v),by simp[gE,iq,h,gW],rfl⟩
 ·intro h;obtain rfl:aw=E:=by simpa using h
  simp only[aa6,if_false];co_apply (eG);intro _ hS;exact⟨⟨rfl,rfl,rfl,rfl,rfl,rfl,rfl,rfl⟩,rfl,hS⟩
def tZ(old:Wd)(sv ws:Bool):Lk:=if old.l=Z6\/old.s=Z6 then(if ws then .iJ sv Z6 else .t1 sv)else .hold
def abr:∃n,∀(O1:aL) (W:af) (Kf:Nat) (t:Int) (sv aw:Bool) (it:Nat) (old:Wd) (O:aL) (a:Act) (w:af) (Q:eK),nV a pb t sv aw it old->a.tmps[7]?=Y (.int .i32 ((Pp old aw sv).val:Nat))->old.c<=1000->dK L O1 W pb Kf (.sG old aw sv it (decide (t≠0))) 0 O w->
 cZ prog main (jo prog main pb) (RX L) (DX L) 111 (cA (cB (cB (cB (cB (cB (cB dL))))))) n (bn (λO' a' w'=>nV a' pb t sv aw it old/\∃b:Bool,a'.tmps[80]?=Y (.bool b)/\(b=Z6/\dK L O1 W pb (Kf-1) (tZ old sv (decide (t≠0))) (gW (tZ old sv (decide (t≠0)))) O' w'\/b=E/\dK L O1 W pb (Kf-1) (.rd aw sv it (decide (t≠0))) 0 O' w')) Q) O a w:=by
 co_apply aa1;intro O1 W Kf t sv aw it old O a w Q hl h7 hc hS;dsimp only[dL,bU,cA,cB,cI,cT,cE,f111,aa0];generalize me:decide (t≠0)=ws at hS⊢;(co_apply (wlM);intro fv);co_apply (eG);intro _ hS;have hbd:Hid (∀x v,(∀r∈gE (.sG old aw sv it ws) 0 x v,r.1.1≠.bad)->¬(aw=Z6/\old.w=E)):=by intro x v h e;exact h ((.bad,0),x,v) (by simp[gE,iq,e,gW]) rfl
 co_apply tQ (n:=0) (old:=old) (nw:=Pp old aw sv) (T1:=tZ old sv ws) (T2:=.rd aw sv it ws) hS.pos XI rfl rfl Ym rfl func108 Yl Yl Yl Yl Ym Ym Ym (λv h=>by
  have hb:=hbd.out _ _ h;by_cases e:old.l=Z6\/old.s=Z6
  ·simp[gE,iq,hb,e,tZ]
  ·simp[gE,iq,hb,e,tZ]) (λx v hx h=>by have hb:=hbd.out _ _ h;simp[gE,iq,hb,hx,gW]) (by unfold tZ;split<;>(try split) <;>rfl) rfl
 ·intro W1 hR v hM _;replace hS:=(hS.rely hR).jump (T':=tZ old sv ws) (m':=gW (tZ old sv ws)) (bA.set pb W1 0 (.int .i32 ((Pp old aw sv).val:Nat)) I);generalize O.jump O.own _=O2 at hS⊢;clear hR hM;generalize W1.setCell _ _=W2 at hS⊢;walk_nrm;co_apply (jO);exact⟨⟨rfl,rfl,rfl,rfl,rfl,rfl,rfl,rfl⟩,Z6,rfl,.inl ⟨rfl,hS⟩⟩
 ·intro W1 hR x v hx hM _;replace hS:=(hS.rely hR).jump (T':=.rd aw sv it ws) (m':=0) (bA.refl pb W1);simp only[gW];generalize O.jump O.own _=O2 at hS⊢;clear hR hM hx;walk_nrm;co_apply (jO);exact⟨⟨rfl,rfl,rfl,rfl,rfl,rfl,rfl,rfl⟩,E,rfl,.inr ⟨rfl,hS⟩⟩
noncomputable def rC:Code:=cT (cB (cB (cB (cB (cB (cB (cB dL)))))))
def abt:∃n,∀(O1:aL) (W:af) (Kf:Nat) (t:Int) (sv aw:Bool) (it:Nat) (old:Wd) (O:aL) (a:Act) (w:af) (Q:eK),nV a pb t sv aw it old->old.c<=1000->dK L O1 W pb Kf (tZ old sv (decide (t≠0))) (gW (tZ old sv (decide (t≠0)))) O w->Hid (∀O' a' w',a'.defers= []->a'.tmps.size=139->a'.tmps[0]?=Y (.pointer (Y ⟨pb,0,F⟩))->dK L O1 W pb Kf (.hold) 5 O' w'->Q O' (.exit 0) a' w')->
 cZ prog main (jo prog main pb) (RX L) (DX L) 111 (cA rC) n (bn (λO' a' w'=>nV a' pb t sv aw it old/\dK L O1 W pb Kf (if decide (t≠0)=Z6 then .iJ sv Z6 else .t1 sv) 0 O' w') Q) O a w:=by
 co_apply aa1;intro O1 W Kf t sv aw it old O a w Q hl hc hS hQ;dsimp only[rC,dL,bU,cA,cB,cI,cT,cE,f111,aa0];generalize me:decide (t≠0)=ws at hS⊢;(co_apply (L4);intro fv);have h5:=Hp (x:=old) I;co_apply fJ (old.l=Z6\/old.s=Z6)
 ·intro h;simp only[tZ,h,if_true]at hS;have h5':(bits .and .i32 ((old.val:Nat):Int) 5 == 0)=E:=by rw[h5];revert h;cases old.l<;>cases old.s<;>simp[b1]
  have hm:gW (if ws=Z6 then .iJ sv Z6 else .t1 sv)=0:=by cases ws<;>rfl
  rw[hm]at hS;clear h5 h hm;co_apply (eG);intro _ hS;exact⟨⟨rfl,rfl,rfl,rfl,rfl,rfl,rfl,rfl⟩,hS⟩
 ·intro h;simp only[tZ,h,if_false,gW]at hS;have h5':bits .and .i32 ((old.val:Nat):Int) 5=0:=by rw[h5];revert h;cases old.l<;>cases old.s<;>simp[b1]
  clear h5 h;co_apply (eG);intro _ hS;exact hQ.out _ _ _ rfl rfl rfl hS
def abu:∃n,∀(O1:aL) (W:af) (Kf:Nat) (t:Int) (sv aw:Bool) (it:Nat) (old:Wd) (O:aL) (a:Act) (w:af) (Q:eK),nV a pb t sv aw it old->dK L O1 W pb Kf (if decide (t≠0)=Z6 then .iJ sv Z6 else .t1 sv) 0 O w->
 cZ prog main (jo prog main pb) (RX L) (DX L) 111 (cA (cB rC)) n (bn (λO' a' w'=>nV a' pb t sv aw it old/\dK L O1 W pb Kf (if decide (t≠0)=Z6 then .iJ sv Z6 else .t1 sv) 0 O' w') Q) O a w:=by co_apply aa1;intro O1 W Kf t sv aw it old O a w Q hl hS;dsimp only[rC,dL,bU,cA,cB,cI,cT,cE,f111,aa0];generalize me:decide (t≠0)=ws at hS⊢;(co_apply (L4);intro fv);clear me;co_apply (eG);intro _ hS;exact⟨⟨rfl,rfl,rfl,rfl,rfl,rfl,rfl,rfl⟩,hS⟩
def abv:∃n,∀(O1:aL) (W:af) (Kf:Nat) (t:Int) (sv aw:Bool) (it:Nat) (old:Wd) (O:aL) (a:Act) (w:af) (Q:eK),nV a pb t sv aw it old->dK L O1 W pb Kf (if decide (t≠0)=Z6 then .iJ sv Z6 else .t1 sv) 0 O w->
 cZ prog main (jo prog main pb) (RX L) (DX L) 111 (cA (cB (cB rC))) n (bn (λO' a' w'=>∃t':Int,nV a' pb t' sv aw it old/\dK L O1 W pb Kf (.iJ sv (decide (t'≠0))) 0 O' w') Q) O a w:=by
 co_apply aa1;intro O1 W Kf t sv aw it old O a w Q hl hS;dsimp only[rC,dL,bU,cA,cB,cI,cT,cE,f111,aa0];(co_apply (L4);intro fv);co_apply fJ (t=0)
 ·intro h;subst h;simp at hS;co_apply (eG);intro _ hS;co_apply BI (n:=0) hS.pos XI rfl Ym rfl func137 Yl Yl Yl Yl Yl (wv:=λt'=>.iJ sv (decide (t'≠0))) (λx v t'=>by by_cases e:t'=0<;>simp[gE,iq,gW,e]) (λ_=>rfl);intro W1 hR t';replace hS:=(hS.rely hR).jump (T':=.iJ sv (decide (t'≠0))) (m':=0) (bA.later pb W1);generalize O.jump O.own _=O2 at hS⊢;clear hR;generalize W1.later=W2 at hS⊢;walk_nrm;co_apply (eG);intro _ hS;exact⟨t',⟨rfl,rfl,rfl,rfl,rfl,rfl,rfl,rfl⟩,hS.weak I⟩
 ·intro h;have h1:(t == 0)=E:=by simpa using h
  have h2:decide (t≠0)=Z6:=by simpa using h
  simp only[h2,if_true]at hS;co_apply (eG);intro _ hS;refine⟨t,⟨rfl,rfl,rfl,rfl,rfl,rfl,rfl,rfl⟩,?_⟩;rw[h2];exact hS
def abx:∃n,∀(O1:aL) (W:af) (Kf:Nat) (t:Int) (sv aw:Bool) (it:Nat) (old:Wd) (O:aL) (a:Act) (w:af) (Q:eK),nV a pb t sv aw it old->dK L O1 W pb Kf (.iJ sv (decide (t≠0))) 0 O w->
 cZ prog main (jo prog main pb) (RX L) (DX L) 111 (cA (cB (cB (cB rC)))) n (bn (λO' a' w'=>nV a' pb t sv aw it old/\dK L O1 W pb Kf (if sv then .wk Z6 (decide (t≠0))else .t2 (decide (t≠0))) 0 O' w') Q) O a w:=by co_apply aa1;intro O1 W Kf t sv aw it old O a w Q hl hS;dsimp only[rC,dL,bU,cA,cB,cI,cT,cE,f111,aa0];generalize me:decide (t≠0)=ws at hS⊢;(co_apply (L4);intro fv);co_apply (eG);intro _ hS;co_apply LC (n:=0) hS.pos rfl rfl rfl Ym rfl func138 Yl Yl Yl Yl (by first|(walk_nrm;done)|simp[Act.eval]);intro W1 hR x v hM;replace hS:=(hS.rely hR).jump (T':=if sv then .wk Z6 ws else .t2 ws) (m':=0) (bA.set pb W1 1 (.int .u32 (v:Nat)) I);generalize O.jump O.own _=O2 at hS⊢;clear hR hM;generalize W1.setCell _ _=W2 at hS⊢;walk_nrm;co_apply (jO);exact⟨⟨rfl,rfl,rfl,rfl,rfl,rfl,rfl,rfl⟩,hS.weak I⟩
def aby:∃n,∀(O1:aL) (W:af) (Kf:Nat) (t:Int) (sv aw:Bool) (it:Nat) (old:Wd) (O:aL) (a:Act) (w:af) (Q:eK),nV a pb t sv aw it old->dK L O1 W pb Kf (if sv then .wk Z6 (decide (t≠0))else .t2 (decide (t≠0))) 0 O w->
 cZ prog main (jo prog main pb) (RX L) (DX L) 111 (cA (cB (cB (cB (cB rC))))) n (bn (λO' a' w'=>∃sv':Bool,nV a' pb t sv' aw it old/\dK L O1 W pb Kf (.wk sv' (decide (t≠0))) 0 O' w') Q) O a w:=by
 co_apply aa1;intro O1 W Kf t sv aw it old O a w Q hl hS;dsimp only[rC,dL,bU,cA,cB,cI,cT,cE,f111,aa0];generalize me:decide (t≠0)=ws at hS⊢;(co_apply (L4);intro fv);co_apply fJ (sv=Z6)
 ·intro h;subst h;simp only[if_true]at hS;co_apply (eG);intro _ hS;exact⟨Z6,⟨rfl,rfl,rfl,rfl,rfl,rfl,rfl,rfl⟩,hS⟩
 ·intro h;obtain rfl:sv=E:=by simpa using h
  simp only[aa6,if_false]at hS;co_apply (eG);intro _ hS;co_apply BI (n:=0) hS.pos XI rfl Ym rfl func137 Yl Yl Yl Yl Yl (wv:=λt'=>.wk (decide (IntKind.i64.wrap (t'-t)> 1000000)) ws) (λx v t'=>by by_cases e:IntKind.i64.wrap (t'-t)> 1000000<;>simp[gE,iq,gW,e]) (λ_=>rfl);intro W1 hR t';replace hS:=(hS.rely hR).jump (T':=.wk (decide (IntKind.i64.wrap (t'-t)> 1000000)) ws) (m':=0) (bA.later pb W1);generalize O.jump O.own _=O2 at hS⊢;clear hR;generalize W1.later=W2 at hS⊢;walk_nrm;co_apply (eG);intro _ hS;exact⟨_,⟨rfl,rfl,rfl,rfl,rfl,rfl,rfl,rfl⟩,hS.weak I⟩
def Pq(x:Wd)(sv ws:Bool):Lk:=if x.s then .add (!sv || x.c == 1)else mI x Z6 sv 0 ws
def abz:∃n,∀(O1:aL) (W:af) (Kf:Nat) (t:Int) (sv aw:Bool) (it:Nat) (old:Wd) (O:aL) (a:Act) (w:af) (Q:eK),nV a pb t sv aw it old->dK L O1 W pb Kf (.wk sv (decide (t≠0))) 0 O w->
 cZ prog main (jo prog main pb) (RX L) (DX L) 111 (cA (cB (cB (cB (cB (cB rC)))))) n (bn (λO' a' w'=>∃x:Wd,x.c<=1000/\(x.s=Z6->x.l=E/\x.w=E/\x.c≠0)/\nV a' pb t sv aw it x/\dK L O1 W pb (Kf-1) (Pq x sv (decide (t≠0))) 0 O' w') Q) O a w:=by
 co_apply aa1;intro O1 W Kf t sv aw it old O a w Q hl hS;dsimp only[rC,dL,bU,cA,cB,cI,cT,cE,f111,aa0];generalize me:decide (t≠0)=ws at hS⊢;(co_apply (L4);intro fv);co_apply (eG);intro _ hS;have hbd:Hid (∀x v,(∀r∈gE (.wk sv ws) 0 x v,r.1.1≠.bad)->(x.s=Z6->x.l=E/\x.w=E/\x.c≠0)):=by
  intro x v h hs;refine Classical.byContradiction λe=>?_;have e':x.l=Z6\/x.w=Z6\/x.c=0:=by revert e;cases x.l<;>cases x.w<;>simp
  exact h ((.bad,0),x,v) (by simp[gE,iq,hs,e',gW]) rfl
 co_apply vm (n:=0) hS.pos XI rfl Ym (λ_ _ hx=>run_eq_of (by intro K hK;go_simp;exact hK)) (λ_ _ hx=>gJ (ad:=⟨pb,0,F⟩) Ym (by simp[go_sem,hx])) (wv:=λx=>Pq x sv ws) (mm:=λ_=>0) (λx v _ h=>by
  by_cases hs:x.s=Z6
  ·obtain⟨q1,q2,q3⟩:=hbd.out x v h hs;simp[gE,iq,hs,q1,q2,q3,Pq,gW]
  ·simp[gE,iq,hs,Pq,Pe]) (λx=>by
  by_cases hs:x.s=Z6
  ·simp[Pq,hs,x8]
  ·have e:Pq x sv ws=mI x Z6 sv 0 ws:=by simp[Pq,hs]
   rw[e,Pf];rfl)
 intro W1 hR x v hM xC hb;replace hS:=(hS.rely hR).jump (T':=Pq x sv ws) (m':=0) (bA.refl pb W1);have hx3:Hid (x.s=Z6->x.l=E/\x.w=E/\x.c≠0):=hbd.out x v hb;generalize O.jump O.own _=O2 at hS⊢;clear hR hM hb;walk_nrm;co_apply (eG);intro _ hS;exact⟨x,xC,hx3.out,⟨rfl,rfl,rfl,rfl,rfl,rfl,rfl,rfl⟩,hS⟩
def abA:∃n,∀(O1:aL) (W:af) (Kf:Nat) (t:Int) (sv aw:Bool) (it:Nat) (old:Wd) (O:aL) (a:Act) (w:af) (Q:eK),nV a pb t sv aw it old->old.c<=1000->Hid (old.s=Z6->old.l=E/\old.w=E/\old.c≠0)->dK L O1 W pb Kf (Pq old sv (decide (t≠0))) 0 O w->Hid (∀O' a' w',a'.defers= []->a'.tmps.size=139->a'.tmps[0]?=Y (.pointer (Y ⟨pb,0,F⟩))->dK L O1 W pb Kf (.hold) 5 O' w'->Q O' (.exit 0) a' w')->
 cZ prog main (jo prog main pb) (RX L) (DX L) 111 (cA (cB (cB (cB (cB (cB (cB rC))))))) n (bn (λO' a' w'=>nV a' pb t sv aw it old/\dK L O1 W pb Kf (mI old Z6 sv 0 (decide (t≠0))) 0 O' w') Q) O a w:=by
 co_apply aa1;intro O1 W Kf t sv aw it old O a w Q hl hc h3 hS hQ;dsimp only[rC,dL,bU,cA,cB,cI,cT,cE,f111,aa0];generalize me:decide (t≠0)=ws at hS⊢;(co_apply (L4);intro fv);obtain⟨l,ww,s,c⟩:=old;have h4:=Ho (x:=⟨l,ww,s,c⟩) (by simp at hc⊢;omega);have h33:=WW (x:=⟨l,ww,s,c⟩) (by simp at hc⊢;omega);have hs8:(((⟨l,ww,s,c⟩:Wd).val:Nat):Int)/ 8=((c:Nat):Int):=EK ⟨l,ww,s,c⟩;have hsh:(((⟨l,ww,s,c⟩:Wd).val:Nat):Int)/ 2 ^(3:Int).toNat=((c:Nat):Int):=EK ⟨l,ww,s,c⟩;simp only at hc;co_apply fJ (s=Z6)
 ·intro h;subst h;obtain⟨q1,q2,q3⟩:=h3.out rfl;simp only at q1 q2 q3;subst q1 q2;simp[b1]at h4 h33;simp only[Pq,if_true]at hS;have hc0:((((c:Nat):Int)== 0)=E):=by simp;omega
  have yI:∀(cl:Bool) (d:Int),(d=if cl then -11 else -7)->Hid (∀(x:Wd) (v:Nat),x.c<=1000->(∀r∈gE (.add cl) 0 x v,r.1.1≠.bad)->gE (.add cl) 0 x v= [((.hold,gW .hold),({x with l:=Z6,c:=x.c-1,s:=if cl then E else x.s}:Wd),v)]/\IntKind.i32.wrap ((x.val:Nat)+d)=((({x with l:=Z6,c:=x.c-1,s:=if cl then E else x.s}:Wd).val:Nat):Int)):=by intro cl d hd x v xC hb;have hnb:¬(x.l=Z6\/x.s=E\/x.c=0):=λe=>hb ((.bad,0),x,v) (by simp[gE,iq,e,gW]) rfl;refine⟨by simp[gE,iq,hnb,gW],?_⟩;obtain⟨l',w',s',c'⟩:=x;simp only[not_or,Bool.not_eq_true,Bool.not_eq_false]at hnb;obtain⟨rfl,rfl,AM⟩:=hnb;subst hd;simp only at AM xC;have Xc:IntKind.i32.bits=32:=rfl;cases cl<;>cases w'<;>simp[Wd.val,b1,IntKind.wrap,Xc]<;>omega
  co_apply fJ ((!sv || c == 1)=Z6)
  ·intro qO;rw[qO]at hS;have ht:(sv=E\/c=1):=by revert qO;cases sv<;>simp
   have hH:=yI Z6 (-11) rfl;clear yI qO;co_apply fJ (sv=E)
   ·intro rD;subst rD;clear ht;co_apply (eG);intro _ hS;co_apply qN (n:=0) hS.pos XI rfl rfl Ym rfl func113 Yl Yl Yl Yl Ym Ym hH.out (λ_=>rfl);intro W1 hR x v hM xC hb;replace hS:=(hS.rely hR).jump (T':=.hold) (m':=5) (bA.set pb W1 0 (.int .i32 ((({x with l:=Z6,c:=x.c-1,s:=if Z6 then E else x.s}:Wd).val:Nat):Int)) I);simp only[gW];try simp only[if_true]at hS⊢
    generalize O.jump O.own _=O2 at hS⊢;clear hR hM hb;generalize W1.setCell _ _=W2 at hS⊢;walk_nrm;co_apply (jO);exact hQ.out _ _ _ rfl rfl rfl (hS.weak (k':=Kf) I)
   ·intro rD;obtain rfl:sv=Z6:=by simpa using rD
    obtain rfl:c=1:=by simpa using ht
    clear ht rD;co_apply (eG);intro _ hS;co_apply qN (n:=0) hS.pos XI rfl rfl Ym rfl func113 Yl Yl Yl Yl Ym Ym hH.out (λ_=>rfl);intro W1 hR x v hM xC hb;replace hS:=(hS.rely hR).jump (T':=.hold) (m':=5) (bA.set pb W1 0 (.int .i32 ((({x with l:=Z6,c:=x.c-1,s:=if Z6 then E else x.s}:Wd).val:Nat):Int)) I);simp only[gW];try simp only[if_true]at hS⊢
    generalize O.jump O.own _=O2 at hS⊢;clear hR hM hb;generalize W1.setCell _ _=W2 at hS⊢;walk_nrm;co_apply (jO);exact hQ.out _ _ _ rfl rfl rfl (hS.weak (k':=Kf) I)
  ·intro qO;have XH:(!sv || c == 1)=E:=by simpa using qO
   rw[XH]at hS;obtain⟨rD,hc1⟩:sv=Z6/\¬c=1:=by revert XH;cases sv<;>simp
   subst rD;have hc2:((((c:Nat):Int)== 1)=E):=by simp;omega
   have hH:=yI E (-7) rfl;clear yI qO XH hc1;co_apply (eG);intro _ hS;co_apply qN (n:=0) hS.pos XI rfl rfl Ym rfl func113 Yl Yl Yl Yl Ym Ym hH.out (λ_=>rfl);intro W1 hR x v hM xC hb;replace hS:=(hS.rely hR).jump (T':=.hold) (m':=5) (bA.set pb W1 0 (.int .i32 ((({x with l:=Z6,c:=x.c-1,s:=if E then E else x.s}:Wd).val:Nat):Int)) I);simp only[gW];generalize O.jump O.own _=O2 at hS⊢;clear hR hM hb;generalize W1.setCell _ _=W2 at hS⊢;walk_nrm;co_apply (jO);exact hQ.out _ _ _ rfl rfl rfl (hS.weak (k':=Kf) I)
 ·intro h;obtain rfl:s=E:=by simpa using h
  simp[b1]at h4;simp only[Pq,aa6,if_false]at hS;co_apply (eG);intro _ hS;exact⟨⟨rfl,rfl,rfl,rfl,rfl,rfl,rfl,rfl⟩,hS⟩
def abB:∃n,∀(O1:aL) (W:af) (Kf:Nat) (t:Int) (sv aw:Bool) (it:Nat) (old:Wd) (O:aL) (a:Act) (w:af) (Q:eK),nV a pb t sv aw it old->dK L O1 W pb Kf (mI old Z6 sv 0 (decide (t≠0))) 0 O w->Hid (∀O' a' w',nV a' pb t sv Z6 0 old->dK L O1 W pb Kf (mI old Z6 sv 0 (decide (t≠0))) 0 O' w'->Q O' .normal a' w')->
 cZ prog main (jo prog main pb) (RX L) (DX L) 111 (cB (cB (cB (cB (cB (cB (cB rC))))))) n (Q) O a w:=by co_apply aa1;intro O1 W Kf t sv aw it old O a w Q hl hS hQ;dsimp only[rC,dL,bU,cA,cB,cI,cT,cE,f111,aa0];(co_apply (L4);intro fv);co_apply (eG);intro _ hS;exact hQ.out _ _ _ ⟨rfl,rfl,rfl,rfl,rfl,rfl,rfl,rfl⟩ hS
def abC:∃n,∀(O1:aL) (W:af) (Kf:Nat) (t:Int) (sv aw:Bool) (it:Nat) (old:Wd) (O:aL) (a:Act) (w:af) (Q:eK),nV a pb t sv aw it old->dK L O1 W pb Kf (.rd aw sv it (decide (t≠0))) 0 O w->Hid (∀O' a' w' x,x.c<=1000->nV a' pb t sv aw it x->dK L O1 W pb (Kf-1) (mI x aw sv it (decide (t≠0))) 0 O' w'->Q O' .normal a' w')->
 cZ prog main (jo prog main pb) (RX L) (DX L) 111 (cE (cB (cB (cB (cB (cB (cB (cB dL)))))))) n (Q) O a w:=by co_apply aa1;intro O1 W Kf t sv aw it old O a w Q hl hS hQ;dsimp only[rC,dL,bU,cA,cB,cI,cT,cE,f111,aa0];(co_apply (L4);intro fv);co_apply (eG);intro _ hS;co_apply CS (n:=0) hS rfl Ym (λ_ _ hx=>run_eq_of (by intro K hK;go_simp;exact hK)) (λ_ _ hx=>gJ (ad:=⟨pb,0,F⟩) Ym (by simp[go_sem,hx]));intro O2 W1 x hx gN;walk_nrm;co_apply (Zw);intro _ gN;exact hQ.out _ _ _ x hx ⟨rfl,rfl,rfl,rfl,rfl,rfl,rfl,rfl⟩ gN
end
end Go.Proofs.YteoahlieielcdaaGreat
