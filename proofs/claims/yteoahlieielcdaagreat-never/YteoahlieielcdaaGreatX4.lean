import Derived.Test.YteoahlieielcdaaGreatM1
import Derived.Test.YteoahlieielcdaaGreatBase
set_option linter.all false
set_option maxHeartbeats 4000000
set_option maxRecDepth 100000
namespace Go.Proofs.YteoahlieielcdaaGreat
open Go.Proofs.Tryz
variable{w:af}{o:Oper}{O:aI}{r n i it:Nat}{es evs:Array aC}{P:aB}{f fn:ay}{a:Act}
section
open Go Go.Conc Go.RowKit Go.MuLone
section
variable {P:aB}
def Me{g o:Nat}{cur:Array aj}{t:az}(hg:w.heap[g]?=some (.cells cur t (0,0)))(ho:o<cur.size){v:aj}(h1:v.oneCell'=true)(es:Array aC):
 (store ⟨g,o,none⟩ v).events P w es=es.push ⟨.cell ⟨g,o,none⟩,true,false⟩/\(store ⟨g,o,none⟩ v).run P w=.ok () (w.setRow g (cur.setIfInBounds o v)):=by
 have hcell:w.cell? ⟨g,o,none⟩=some cur[o]:=by simp[World.cell?,hg,ho]
 have acD:w.frozen? ⟨g,o,none⟩=false:=by simp[World.frozen?,hg]
 constructor
 ·rw[events_store P w es _ v _ h1,hcell];simp only[acD,Bool.false_eq_true,if_false];rfl
 ·rw[run_store P w _ v _ h1,hcell];simp[acD,setCell_eq_setRow w g o cur t (0,0) v hg]
def Ar(g o:Nat)(t:az)(vs:List aj)(i:Nat)(cur:Array aj)(w:af)(es:Array aC)(hg:w.heap[g]?=some (.cells cur t (0,0)))(hl:o+i+vs.length<=cur.size)(h1:∀v∈vs,v.oneCell'=true):
 ∀ev∈(storeCells ⟨g,o,none⟩ vs i).events P w es,ev∈es\/∃ad,ev=⟨.cell ad,true,false⟩/\ad.block=g:=by
 induction vs generalizing i cur w es with
 |nil=>exact fun ev h=>.inl (by simpa[storeCells]using h)
 |cons v rest ih=>
  intro ev h;simp only[List.length_cons]at hl;have xG:(⟨g,o,none⟩:aA).add i=⟨g,o+i,none⟩:=by unfold Addr.add;split<;>simp_all
  obtain⟨he,hr⟩:=Me (P:=P) hg (show o+i<cur.size by omega) (h1 v (by simp)) es;simp only[storeCells,Sem.events_bind,xG,hr,Result.evThen_ok,he]at h;rcases ih (i+1) _ _ _ (setRow_heap w g cur _ t _ hg) (by simp;omega) (fun x hx=>h1 x (by simp[hx])) ev h with h|h
  ·rcases Array.mem_push.1 h with h|rfl
   ·exact .inl h
   ·exact .inr ⟨_,rfl,rfl⟩
  ·exact .inr h
def C3(l:List UInt8)(a:aA)(acc:ah)(w:af)(es:Array aC)(hc:∀j x,l[j]?=some x->w.cell? (a.add j)=some (.int .u8 x.toNat)):
 ∀ev∈(loadBytes a acc l.length).events P w es,ev∈es\/∃ad,ev=⟨.cell ad,false,false⟩/\ad.block=a.block:=by
 induction l generalizing a acc es with
 |nil=>exact fun ev h=>.inl (by simpa[loadBytes]using h)
 |cons x l ih=>
  intro ev h;have h0:w.cell? a=some (.int .u8 x.toNat):=by have:=hc 0 x rfl;simpa[Addr.add]using this
  have hb:(a.add 1).block=a.block:=by simp[Addr.add]
  simp only[List.length_cons,loadBytes,Sem.events_bind,run_load,h0,Result.evThen_ok,events_load]at h;rcases ih (a.add 1) _ _ (fun j y hy=>by
   have:=hc (j+1) y (by simpa using hy);have e:(a.add 1).add j=a.add (j+1):=by
    unfold Addr.add;by_cases hj:j=0
    ·subst hj;simp
    ·simp[hj];omega
   rw[e];exact this) ev h with h|⟨ad,h1,h2⟩
  ·rcases Array.mem_push.1 h with h|rfl
   ·exact .inl h
   ·exact .inr ⟨_,rfl,rfl⟩
  ·exact .inr ⟨ad,h1,h2.trans hb⟩
def T3(w:af)(dT sT ty elem:az)(g:Nat)(s:ah)(cur:Array aj)(t:az)
 (hu:P.underlying dT=some (.slice elem)) (hs:(P.info? elem).map (·.size)=some 1) (hg:w.heap[g]?=some (.cells cur t (0,0))) (hfit:s.size<=cur.size) (cap:Nat):
 ∀ev∈(Builtin.copy_ #[dT,sT] ty #[.slice (some ⟨g,0,none⟩) s.size cap,.string s]).events P w #[],∃ad,ev=⟨.cell ad,true,false⟩/\ad.block=g:=by
 intro ev h;have hlen:(Lib.byteCells s.data.toList).length=s.size:=by rw[Lib.byteCells_length,<-Lib.size_eq]
 have htk:List.take s.size (List.map (fun b:UInt8=>Value.int IntKind.u8 (b.toNat:Int)) s.data.toList)=Lib.byteCells s.data.toList:=by rw[List.take_of_length_le (by rw[List.length_map,<-Lib.size_eq];exact Nat.le_refl _)];rfl
 have hst:=Ar (P:=P) g 0 t (Lib.byteCells s.data.toList) 0 cur w #[] hg (by rw[hlen];simpa using hfit) (Lib.byteCells_one _);cases hq:P.info? elem with
 |none=>rw[hq]at hs;cases hs
 |some i=>
  simp[Builtin.copy_,run_underlying hu,Builtin.lenOf,sizeOf,typeInfo,hq,Builtin.firstCells,htk]at h;exact(hst ev h).elim (fun x=>by simp at x) id
def wA(w:af)(pt it ty e:az)(hp:P.underlying pt=some (.pointer e))(hc:P.cellsOf e=1)(g cells:Nat)(hsh:w.shape? g=some (e,cells))(l:List UInt8)(h0:l≠ [])(hn:l.length<=cells)(h63:l.length<=9223372036854775807)
 (hcell:∀j x,l[j]?=some x->w.cell? ((⟨g,0,none⟩:aA).add j)=some (.int .u8 x.toNat)):
 ∀ev∈(Builtin.unsafeString_ #[pt,it] ty #[.pointer (some ⟨g,0,none⟩),.int .i64 l.length]).events P w #[],∃ad,ev=⟨.cell ad,false,false⟩/\ad.block=g:=by
 intro ev h;have hl:l.length≠0:=by simpa using h0
 have hlb:=Lib.run_loadBytes (P:=P) w l ⟨g,0,none⟩ .empty hcell;have hle:=C3 (P:=P) l ⟨g,0,none⟩ .empty w #[] hcell;have hlies:=Lib.liesAt_bytes (P:=P) hc (cells / P.cellsOf e) l.length (by rw[hc];simpa using hn);have h63':¬(9223372036854775807:Int)< (l.length:Int):=by omega
 have ahw:IntKind.i64.max=9223372036854775807:=rfl;have hneg:¬(l.length:Int)<0:=by omega
 have ahx:Builtin.unsafeString_ #[pt,it] ty #[.pointer (some ⟨g,0,none⟩),.int .i64 l.length]=
  (do
    let n <-asInt (.int .i64 l.length)
    if n<0 then runtimePanic (.error "unsafe.String: len out of range")
    if n > IntKind.i64.max then unsupported (.unsafePointer "String: a length above the largest int")
    if n=0 then pure (.string .empty)
    else if <-variablesAt ⟨g,0,none⟩ (<-elemOf pt) n.toNat then do
     let s <-loadBytes ⟨g,0,none⟩ .empty n.toNat
     freeze ⟨g,0,none⟩ n.toNat
     pure (.string s)
    else unsupported (.unsafePointer "String: not so many bytes at ptr")):=rfl
 rw[ahx]at h;simp[asInt,asIntOf,ahw,h63',hneg,hl,variablesAt,hsh,elemOf,run_underlying hp,hlies,hlb]at h;exact(hle ev h).elim (fun x=>by simp at x) id
end
end
section
open Go Go.Conc Go.RowKit Go.MuLone
variable {main:Bool}{J:Jm}{L:dY}
@[go_sem] theorem Yg (s:ah) (w:af) (es:Array aC):(Builtin.len_ #[9] 3 #[.string s]).events prog w es=es:=by simp[Builtin.len_,run_underlying underlying9]
def dO.row(r:Nat)(w:af)(Y:Array aj):dO r w (w.setRow r Y):=⟨rfl,rfl,rfl,by simp,fun i hi=>setRow_other _ _ _ _ hi⟩
def dO.freeze(r n:Nat)(w:af):dO r w (w.freeze ⟨r,0,none⟩ n):=by
 unfold World.freeze;split
 ·exact⟨rfl,rfl,rfl,rfl,fun _ _=>rfl⟩
 ·exact⟨rfl,rfl,rfl,by simp,fun i hi=>by simp[Array.getElem?_modify,Ne.symm hi]⟩
def cO{L:dY}(h:O.own r){b:Bool}(he:∀e∈es,∃ad,e=⟨.cell ad,b,false⟩/\ad.block=r):∀e∈es,Dv L O e:=by intro e hm;obtain⟨ad,rfl,hb⟩:=he e hm;exact⟨rfl,.inl ⟨ad,rfl,.inl (hb▸h)⟩⟩
def bF{R:uA}{D:uB}{fn:Func}{c:Code}{args:Array aj}{Post:aI->aj->af->Prop}(hf:P.funcs[f]?=some fn)(hname:(fn.name == "runtime.NumGoroutine")=false)(hb:fn.body=some c)
 (h:cR P main J R D f c n (nY P main J R D 0 f fn Post) O {tmps:=args++Array.replicate (fn.ntmps-args.size) undef,defers:= []} w):bE P main J R D f args n O w Post:=⟨fn,c,n,0,Nat.le_refl _,hf,hname,hb,h⟩
def Mf:∃n,∀(s:ah) (O:aI) (w:af),s.size<=1000->L.N<=w.heap.size->
 bE prog main J (RX L) (DX L) 129 #[.string s] n O w fun O' v w'=>v=.string s/\bG L O w O' w':=by
 co_apply Exists.intro;intro s O w hs hN;have hF:bG L O w O w:=bG.refl hN;have hlen:s.data.toList.length=s.size:=(Lib.size_eq s).symm;obtain⟨i0,hi,hz0,MO,Tr⟩:=info_parts yh;have hsz:(prog.info? 5).map (·.size)=some 1:=by rw[hi];simp[MO]
 have hco:prog.cellsOf 5=1:=by simp[Program.cellsOf,hi,MO]
 have hmk:=fun W=>yj s.size hs W;have hme:=fun W es=>events_make (P:=prog) W 116 5 i0 (.int .u8 0) underlying116 hi hz0 .i64 .i64 (s.size:Int) (s.size:Int) (by omega) (by omega) (by rw[Tr];omega) (by omega) (by rw[Tr];omega) es;co_apply bF func129 (by rfl) rfl;walk_nrmf ntmps129;generalize hW:w=W at hF⊢;generalize hO:O=O1 at hF⊢;co_apply (xH);intro _ hF;(co_apply aU (aF L) (t:=((s.size:Int)== 0));focus(simp[Act.eval]))
 ·intro h0;have h0':s.size=0:=by simpa using h0
  obtain rfl:s=⟨#[]⟩:=ByteArray.ext (Array.eq_empty_of_size_eq_zero h0');co_apply (xH);intro _ hF;exact .inl ⟨rfl,_,bR (aF L) (resultsC_tmp (by rfl) _),rfl,by subst hW;subst hO;exact hF⟩
 ·intro h0;(first|co_apply xI|co_apply F0|co_apply xJ|co_apply wO);co_then;(first|co_apply xI|co_apply F0|co_apply xJ|co_apply wO);co_apply AO;co_apply (jY);intro _ hF;co_apply (jY);intro _ hF;co_apply bJ rfl (by rfl);intro W1 hR K hK;replace hF:=bG.rely hF hR;clear hR;obtain⟨M,hM,hm⟩:=hmk W1;go_simp;refine hK _ _ ⟨?_,?_⟩
  ·rw[listed_nil (by simp[go_sem,hme])];exact DX.alloc _ _ _
  clear hK K hm;try walk_nrm
  have hr:w.heap.size<=W1.heap.size:=by rw[hW];exact hF.rel.le
  have hG:bG L O1 W (O1.grow W1 (W1.alloc (.cells M 5))) (W1.alloc (.cells M 5))/\OB W1.heap.size (.cells M 5) (O1.grow W1 (W1.alloc (.cells M 5))) (W1.alloc (.cells M 5)):=⟨hF.alloc _,OB.new _ _ _⟩
  clear hF;generalize (O1.grow W1 (W1.alloc (.cells M 5)))=O2 at hG⊢;generalize (W1.alloc (.cells M 5))=W2 at hG⊢;generalize W1.heap.size=r at hG hr⊢;have rl:∀{M:Array aj} {Wa Wb:af},(bG L O1 W O2 Wa/\OB r (.cells M 5) O2 Wa)->RX L O2 Wa Wb->(bG L O1 W O2 Wb/\OB r (.cells M 5) O2 Wb):=fun h x=>⟨h.1.rely x,h.2.rely x⟩
  co_apply (ox);intro _ hG;(first|co_apply xI|co_apply F0|co_apply xJ|co_apply wO);co_then;(first|co_apply xI|co_apply F0|co_apply xJ|co_apply wO);co_apply AO;co_apply (ox);intro _ hG;co_apply (ox);intro _ hG;co_apply bJ rfl (by rfl);intro W3 hR K hK;replace hG:=rl hG hR;clear hR;have Y1:=Lib.run_copy_row_string (P:=prog) W3 116 9 3 5 r 0 s.size s.size s M 5 underlying116 hsz hG.2.heap (Nat.le_refl _) (by omega);have hce:=T3 (P:=prog) W3 116 9 3 5 r s M 5 underlying116 hsz hG.2.heap (by omega) s.size;generalize hY:(M.toList.take 0++Lib.byteCells s.data.toList++M.toList.drop (0+s.size)).toArray=Y at Y1;go_simp;refine hK _ _ ⟨?_,?_⟩
  ·refine DX.own hG.2.own (dO.row r W3 Y) (cO (b:=true) hG.2.own fun e he=>?_);have hm:=mem_listed he;simp[go_sem]at hm;exact hce e hm
  clear hK K;rw[O2.dz (by simp)];try walk_nrm
  have hYl:Y.toList=Lib.byteCells s.data.toList:=by rw[<-hY];simp[<-hM]
  have hYs:Y.size=s.size:=by rw[<-Array.length_toList,hYl,Lib.byteCells_length,hlen]
  clear Y1 hce hY;have hH:bG L O1 W O2 (W3.setRow r Y)/\OB r (.cells Y 5) O2 (W3.setRow r Y):=⟨(dO.row r W3 Y).wN hG.1 (by rw[<-hW];exact hr),hG.2.own,setRow_heap _ _ M _ 5 (0,0) hG.2.heap⟩
  clear hG;generalize W3.setRow r Y=W4 at hH⊢;have hp:0<s.size:=by
   rcases Nat.eq_zero_or_pos s.size with h|h
   ·rw[h]at h0;simp at h0
   ·exact h
  (first|co_apply xI|co_apply F0|co_apply xJ|co_apply wO);co_then;(first|co_apply xI|co_apply F0|co_apply xJ|co_apply wO);co_apply AO;(co_apply (uE);intro _ hR;replace hH:=rl hH hR;clear hR;refine⟨by simp[go_sem],fun K z=>?_⟩;go_simp;refine z _ ?_;clear z K;try walk_nrm);(co_apply (uE);intro _ hR;replace hH:=rl hH hR;clear hR;refine⟨by simp[*,go_sem],fun K z=>?_⟩;go_simp;refine z _ ?_;clear z K;try walk_nrm);(co_apply (uE);intro _ hR;replace hH:=rl hH hR;clear hR;refine⟨by simp[go_sem],fun K z=>?_⟩;go_simp;refine z _ ?_;clear z K;try walk_nrm);(co_apply (uE);intro _ hR;replace hH:=rl hH hR;clear hR;refine⟨by simp[*,go_sem],fun K z=>?_⟩;go_simp;refine z _ ?_;clear z K;try walk_nrm);co_apply bJ rfl (by rfl);intro W5 hR K hK;replace hH:=rl hH hR;clear hR;have qY:∀j x,s.data.toList[j]?=some x->W5.cell? ((⟨r,0,none⟩:aA).add j)=some (.int .u8 x.toNat):=
   fun j x hx=>Lib.cells_of_row hH.2.heap Y.size j _ (by rw[List.take_of_length_le (by rw[Array.length_toList];exact Nat.le_refl _),hYl];simp[Lib.byteCells,hx])
  have hsh:W5.shape? r=some (5,Y.size):=by unfold World.shape?;rw[hH.2.heap]
  have hne:s.data.toList≠ []:=fun e=>by rw[e]at hlen;simp at hlen;omega
  have Sf:=Lib.run_unsafeString_row (P:=prog) W5 242 3 9 5 underlying242 hco r Y.size hsh s.data.toList hne (by omega) (by omega) qY;have hue:=wA (P:=prog) W5 242 3 9 5 underlying242 hco r Y.size hsh s.data.toList hne (by omega) (by omega) qY;rw[hlen]at Sf hue;go_simp;refine hK _ _ ⟨?_,?_⟩
  ·refine DX.own hH.2.own (dO.freeze r s.size W5) (cO (b:=false) hH.2.own fun e he=>?_);have hm:=mem_listed he;simp[go_sem]at hm;exact hue e hm
  clear hK K;rw[O2.dz (dO.freeze r s.size W5).size];try walk_nrm
  have hE:bG L O1 W O2 (W5.freeze ⟨r,0,none⟩ s.size):=(dO.freeze r s.size W5).wN hH.1 (by rw[<-hW];exact hr);clear hH Sf hue qY hsh;generalize W5.freeze ⟨r,0,none⟩ s.size=W6 at hE⊢;(repeat(first|co_apply AO|(co_apply (uE);intro _ hR;replace hE:=hE.rely hR;clear hR;refine⟨by simp[*,go_sem],fun K z=>?_⟩;go_simp;refine z _ ?_;clear z K;try walk_nrm)|((first|co_apply xI|co_apply F0|co_apply xJ|co_apply wO);try co_then)));exact .inl ⟨rfl,_,bR (aF L) (resultsC_tmp (by rfl) _),rfl,by subst hW;subst hO;exact hE⟩
end
section
open Go Go.Conc Go.ConcM Go.RowKit
variable {main:Bool}{L:dY}{pb:Nat}
structure mZ(a:Act)(pb:Nat)(t:Int)(sv aw:Bool)(it:Nat)(old:Wd):Prop where
 d:a.defers= []
 size:a.tmps.size=139
 g0:a.tmps[0]?=some (.pointer (some ⟨pb,0,none⟩))
 g2:a.tmps[2]?=some (.int .i64 t)
 g3:a.tmps[3]?=some (.bool sv)
 g4:a.tmps[4]?=some (.bool aw)
 g5:a.tmps[5]?=some (.int .i64 (it:Nat))
 g6:a.tmps[6]?=some (.int .i32 (old.val:Nat))
def gq{ad:aA}(hq:(P.funcs[fn]?).any (·.norace)=true)(h:(execOp a.eval o).events P w #[]=#[⟨.cell ad,false,false⟩]):listed P fn a o w=#[]:=by unfold listed;rw[h,seen_def,hq];rfl
def sS{g:ay}{fn':Func}{xs:Array aD}{ats:Array az}{e:Array aj->Sem aj}(hop:o.op=.call {callee:=.value (.func g),args:=xs,argTypes:=ats})
 (hf:P.funcs[g]?=some fn') (hname:(fn'.name == "runtime.NumGoroutine")=false) (hb:fn'.body.isNone=true) (hn:Extern.findNext fn'=none) (he:Extern.find fn'=some e)
 (hev:(e (xs.map a.eval)).events P w #[⟨.mark (.extern g),false,true⟩]=#[⟨.mark (.extern g),false,true⟩]++evs) (hs:∀x∈evs,x.sync=true/\∀g,x.loc≠.mark (.extern g)):listed P fn a o w=evs:=by unfold listed;rw[execOp_call_func hop,events_callFunc_extern hf hname hb hn he];simp only[List.push_toArray,List.nil_append];rw[hev,seen_entry _ _ _ hs]
def cA:Code->Code
 |.seq x _=>x
 |c=>c
def cB:Code->Code
 |.seq _ y=>y
 |c=>c
def cI:Code->Code
 |.block _ c=>c
 |.loop c=>c
 |c=>c
def cT:Code->Code
 |.cond _ x _=>x
 |c=>c
noncomputable def bP:Code:=f111.body.getD .skip
def cE:Code->Code
 |.cond _ _ y=>y
 |c=>c
noncomputable def dD:Code:=cI (cI (cI (cA (cB (cB (cB (cB (cB bP))))))))
def spT(old:Wd)(aw sv:Bool)(it:Nat)(ws:Bool):Lk:=if aw=false/\old.w=false/\old.c≠0 then .cw old sv it ws else .rd aw sv (it+1) ws
def Xb(L:dY)(O1:aI)(W:af)(pb K:Nat)(O:aI)(a:Act)(w:af):Prop:=
 ∃(t:Int) (sv aw:Bool) (it:Nat) (old:Wd),mZ a pb t sv aw it old/\old.c<=1000/\it<=4/\dB L O1 W pb K (lM old aw sv it (decide (t≠0))) 0 O w
def GJ(w:af):(callFunc 135 #[]).run prog w=.ok (.value (.tuple #[])) w:=by rw[run_callFunc_extern func135 (by kernel_rfl) (by kernel_rfl) (by kernel_rfl) (e:=Extern.Sync.nothing) (by kernel_rfl)];rfl
def OH(x:Wd)(aw sv:Bool)(it:Nat)(ws:Bool):gD (lM x aw sv it ws)=0:=by unfold lM;split<;>rfl
def OI(x:Wd)(aw sv:Bool)(it:Nat)(ws:Bool):wK (lM x aw sv it ws) 0=1:=by unfold lM;split<;>rfl
def Xc(aw sv:Bool)(it:Nat)(ws:Bool)(x:Wd)(v:Nat):gf (.rd aw sv it ws) 0 x v= [((lM x aw sv it ws,0),x,v)]:=by simp[gf,gH,OH]
def Cb{Q:ep}{O1:aI}{W:af}{k:Nat}{ops:Array Oper}{rest:List Nat}{aw sv ws:Bool}(hS:dB L O1 W pb k (.rd aw sv it ws) 0 O w)
 (ho:ops[i]?=some o) (hw:Region.wanted o (yielded ops a.tmps)=true)
 (hrun:∀w₁ x',w₁.cell? ⟨pb,0,none⟩=some (.int .i32 x')->(execOp a.eval o).run P w₁=.ok (.value (.int .i32 x')) w₁) (hev:∀w₁ x',w₁.cell? ⟨pb,0,none⟩=some (.int .i32 x')->listed P fn a o w₁=#[]) {n1:Nat}
 (k1:∀(O':aI) w₁ (x':Wd),x'.c<=1000->dB L O1 W pb (k-1) (lM x' aw sv it ws) 0 O' w₁->bN P main (iR P main pb) (RX L) (DX L) fn ops rest n1 Q O' (a.put o.dst (.int .i32 (x'.val:Nat))) w₁):
 bN P main (iR P main pb) (RX L) (DX L) fn ops (i :: rest) n Q O a w:=
 uz hS.pos (by simp) ho hw hrun hev (F:=fun x'=>lM x' aw sv it ws) (mm:=fun _=>0) (fun x' v _ _=>Xc aw sv it ws x' v) (fun x'=>OI x' aw sv it ws) fun w₁ hR x' v _ hc _=>k1 _ w₁ x' hc ((hS.rely hR).jump (bu.refl _ _))
def afk:∃n,∀(O1:aI) (W:af) (Kf:Nat) (t:Int) (sv aw:Bool) (it:Nat) (old:Wd) (O:aI) (a:Act) (w:af) (Q:ep),mZ a pb t sv aw it old->old.c<=1000->dB L O1 W pb Kf (lM old aw sv it (decide (t≠0))) 0 O w->
 cR prog main (iR prog main pb) (RX L) (DX L) 111 (cA (cA dD)) n (bh (fun O' a' w'=>mZ a' pb t sv aw it old/\∃b:Bool,a'.tmps[20]?=some (.bool b)/\(b=false/\dB L O1 W pb Kf (.rz old aw sv it (decide (t≠0))) 0 O' w'\/b=true/\it<4/\old.l=true/\old.s=false/\dB L O1 W pb (Kf-1) (spT old aw sv it (decide (t≠0))) 0 O' w')) Q) O a w:=by
 co_apply Exists.intro;intro O1 W Kf t sv aw it old O a w Q hl hc hS;dsimp only[dD,bP,cA,cB,cI,cT,f111,Option.getD_some];generalize lf:decide (t≠0)=ws at hS⊢;(co_apply (K2);intro fv);obtain⟨l,ww,s,c⟩:=old;have h5:=Gv (x:=⟨l,ww,s,c⟩) (by simp at hc⊢;omega);co_apply eT (l=true/\s=false)
 ·intro hsp;obtain⟨rfl,rfl⟩:=hsp;simp only[lM,and_self,if_true]at hS;simp[b1]at h5;co_apply (dX);intro _ hS;co_apply KR (n:=0) hS.pos rfl (by rfl) rfl func134 (by kernel_rfl) (by kernel_rfl) (by kernel_rfl) (by kernel_rfl) (by first|(walk_nrm;done)|simp[Act.eval]);intro W1 W2 hR hE b hb;replace hS:=(hS.rely hR).jump (T':=(if b=true then(if aw=false/\(⟨true,ww,false,c⟩:Wd).w=false/\(⟨true,ww,false,c⟩:Wd).c≠0 then .cw ⟨true,ww,false,c⟩ sv it ws else .rd aw sv (it+1) ws)else .rz ⟨true,ww,false,c⟩ aw sv it ws)) (m':=0) hE;generalize O.jump O.own _=O2 at hS⊢;clear hE hR;walk_nrm;co_apply (dX);intro _ hS;refine⟨⟨rfl,rfl,rfl,rfl,rfl,rfl,rfl,rfl⟩,b,rfl,?_⟩;cases b with
  |false=>exact .inl ⟨rfl,hS.weak (by omega)⟩
  |true=>exact .inr ⟨rfl,hb rfl,by trivial,by trivial,hS⟩
 ·intro hsp;have hS':dB L O1 W pb Kf (.rz ⟨l,ww,s,c⟩ aw sv it ws) 0 O w:=by
   have:lM ⟨l,ww,s,c⟩ aw sv it ws=.rz ⟨l,ww,s,c⟩ aw sv it ws:=by simp only[lM];rw[if_neg hsp]
   rwa [this]at hS
  clear hS;have h5':(bits .and .i32 (((⟨l,ww,s,c⟩:Wd).val:Nat):Int) 5 == 1)=false:=by rw[h5];revert hsp;cases l<;>cases s<;>simp[b1]
  clear h5;(repeat(first|co_apply AO|(co_apply (uE);intro _ hR;replace hS':=hS'.rely hR;clear hR;refine⟨by simp[*,go_sem],fun K z=>?_⟩;go_simp;refine z _ ?_;clear z K;try walk_nrm)|(co_apply (SV);try walk_nrm)|(co_apply wO;try co_then)));exact⟨⟨rfl,rfl,rfl,rfl,rfl,rfl,rfl,rfl⟩,false,rfl,.inl ⟨rfl,hS'⟩⟩
def afl:∃n,∀(O1:aI) (W:af) (Kf:Nat) (t:Int) (sv aw:Bool) (it:Nat) (old:Wd) (O:aI) (a:Act) (w:af) (Q:ep),mZ a pb t sv aw it old->old.c<=1000->dB L O1 W pb Kf (spT old aw sv it (decide (t≠0))) 0 O w->
 cR prog main (iR prog main pb) (RX L) (DX L) 111 (cA (cA (cT (cB (cA dD))))) n (bh (fun O' a' w'=>mZ a' pb t sv aw it old/\∃b:Bool,a'.tmps[41]?=some (.bool b)/\dB L O1 W pb Kf (.rd (aw || b) sv (it+1) (decide (t≠0))) 0 O' w') Q) O a w:=by
 co_apply Exists.intro;intro O1 W Kf t sv aw it old O a w Q hl hc hS;dsimp only[dD,bP,cA,cB,cI,cT,f111,Option.getD_some];generalize lf:decide (t≠0)=ws at hS⊢;(co_apply (K2);intro fv);obtain⟨l,ww,s,c⟩:=old;have h2:=Ok (x:=⟨l,ww,s,c⟩) (by simp at hc⊢;omega);have hor:=UW (x:=⟨l,ww,s,c⟩) (by simp at hc⊢;omega);have hsh:=Ec ⟨l,ww,s,c⟩;have hs8:(((⟨l,ww,s,c⟩:Wd).val:Nat):Int)/ 8=((c:Nat):Int):=hsh;simp only at hor hsh hc;simp only[spT]at hS;co_apply eT (aw=true)
 ·intro h;subst h;simp only[Bool.true_eq_false,false_and,if_false]at hS;co_apply (dX);intro _ hS;exact⟨⟨rfl,rfl,rfl,rfl,rfl,rfl,rfl,rfl⟩,false,rfl,hS⟩
 intro U2;obtain rfl:aw=false:=by simpa using U2
 clear U2;co_apply eT (ww=true)
 ·intro h;subst h;simp[b1]at h2;simp only[Bool.true_eq_false,false_and,and_false,if_false]at hS;co_apply (dX);intro _ hS;exact⟨⟨rfl,rfl,rfl,rfl,rfl,rfl,rfl,rfl⟩,false,rfl,hS⟩
 intro hww;obtain rfl:ww=false:=by simpa using hww
 clear hww;simp[b1]at h2;co_apply eT (c=0)
 ·intro h;subst h;simp only[ne_eq,not_true,and_false,if_false]at hS;co_apply (dX);intro _ hS;exact⟨⟨rfl,rfl,rfl,rfl,rfl,rfl,rfl,rfl⟩,false,rfl,hS⟩
 intro hc0;have hc1:((((c:Nat):Int)== 0)=false):=by simp;omega
 have hc2:((((c:Nat):Int)!= 0)=true):=by simp;omega
 simp only[ne_eq,hc0,not_false_eq_true,and_self,if_true]at hS;co_apply (dX);intro _ hS;co_apply sP (n:=0) (old:=⟨l,false,s,c⟩) (nw:=⟨l,true,s,c⟩) (T1:=.rd true sv (it+1) ws) (T2:=.rd false sv (it+1) ws) hS.pos (by simp) rfl rfl (by rfl) rfl func108 (by kernel_rfl) (by kernel_rfl) (by kernel_rfl) (by kernel_rfl) (by rfl) (by rfl) (by rfl) (fun v _=>by simp[gf,gH,gD]) (fun x v hx _=>by simp[gf,gH,gD,hx]) rfl rfl
 ·intro W1 hR v hM _;replace hS:=(hS.rely hR).jump (T':=.rd true sv (it+1) ws) (m':=0) (bu.set pb W1 0 (.int .i32 ((⟨l,true,s,c⟩:Wd).val:Nat)) (by omega));simp only[gD];generalize O.jump O.own _=O2 at hS⊢;clear hR hM;generalize W1.setCell _ _=W2 at hS⊢;walk_nrm;co_apply (dX);intro _ hS;exact⟨⟨rfl,rfl,rfl,rfl,rfl,rfl,rfl,rfl⟩,true,rfl,hS.weak (by omega)⟩
 ·intro W1 hR x v hx hM _;replace hS:=(hS.rely hR).jump (T':=.rd false sv (it+1) ws) (m':=0) (bu.refl pb W1);simp only[gD];generalize O.jump O.own _=O2 at hS⊢;clear hR hM hx;walk_nrm;co_apply (dX);intro _ hS;exact⟨⟨rfl,rfl,rfl,rfl,rfl,rfl,rfl,rfl⟩,false,rfl,hS.weak (by omega)⟩
def afn:∃n,∀(O1:aI) (W:af) (Kf:Nat) (t:Int) (sv aw:Bool) (it:Nat) (old:Wd) (O:aI) (a:Act) (w:af) (Q:ep),mZ a pb t sv aw it old->it<4->dB L O1 W pb Kf (.rd aw sv (it+1) (decide (t≠0))) 0 O w->Hid (∀O' a' w',Xb L O1 W pb (Kf-1) O' a' w'->Q O' (.exit 1) a' w')->
 cR prog main (iR prog main pb) (RX L) (DX L) 111 (cB (cT (cB (cA dD)))) n (Q) O a w:=by
 co_apply Exists.intro;intro O1 W Kf t sv aw it old O a w Q hl hit hS hQ;have hds:=GJ;dsimp only[dD,bP,cA,cB,cI,cT,f111,Option.getD_some];generalize lf:decide (t≠0)=ws at hS;(co_apply (K2);intro fv);have ak7:IntKind.i64.wrap ((it:Int)+1)=((it+1:Nat):Int):=by rw[IntKind.wrap_i64];omega
 co_apply (gJ);(co_apply aN rfl (by rfl);intro _ hR K hK;replace hS:=dB.rely hS hR;clear hR;(skip);go_simp;refine hK _ ⟨?_,?_⟩;(focus(rw[sS (evs:=#[]) rfl func135 (by kernel_rfl) (by kernel_rfl) (by kernel_rfl) (e:=Extern.Sync.nothing) (by kernel_rfl) (by rfl) (by simp)];exact DX.idle _ _));clear hK K;try walk_nrm);co_apply (dX);intro _ hS;co_apply Cb (n:=0) hS rfl (by rfl) (fun _ _ hx=>run_eq_of (by intro K hK;go_simp;exact hK)) (fun _ _ hx=>gq (ad:=⟨pb,0,none⟩) (by rfl) (by simp[go_sem,hx]));intro O2 W1 x hx gI;walk_nrm;co_apply (YP);intro _ gI;refine hQ.out _ _ _ ⟨t,sv,aw,it+1,x,⟨rfl,rfl,rfl,rfl,rfl,rfl,rfl,rfl⟩,hx,by omega,?_⟩;rw[lf];exact gI
end
section
open Go Go.Conc Go.ConcM Go.RowKit
variable {main:Bool}{L:dY}{pb:Nat}
def K5(old:Wd):Wd:=if old.s then old else{old with l:=true}
def Ju(old:Wd):Wd:=if old.l || old.s then{K5 old with c:=old.c+1}else K5 old
def GL(old:Wd)(sv:Bool):Wd:=if sv && old.l then{Ju old with s:=true}else Ju old
def nw4(old:Wd)(aw sv:Bool):OS old aw sv=if aw then{GL old sv with w:=false}else GL old sv:=by obtain⟨l,w,s,c⟩:=old;cases l<;>cases w<;>cases s<;>cases aw<;>cases sv<;>rfl
def Xn(old:Wd):(K5 old).c=old.c:=by unfold K5;split<;>rfl
def aaW(old:Wd):(Ju old).c<=old.c+1:=by unfold Ju;split<;>simp[Xn]
def aaX(old:Wd)(sv:Bool):(GL old sv).c<=old.c+1:=by unfold GL;split<;>exact aaW old
def afH(old:Wd)(sv:Bool):(GL old sv).w=old.w:=by obtain⟨l,w,s,c⟩:=old;cases l<;>cases w<;>cases s<;>cases sv<;>rfl
def aaY:∃n,∀(O1:aI) (W:af) (Kf:Nat) (t:Int) (sv aw:Bool) (it:Nat) (old:Wd) (O:aI) (a:Act) (w:af) (Q:ep),mZ a pb t sv aw it old->old.c<=1000->dB L O1 W pb Kf (.rz old aw sv it (decide (t≠0))) 0 O w->
 cR prog main (iR prog main pb) (RX L) (DX L) 111 (cA (cB dD)) n (bh (fun O' a' w'=>mZ a' pb t sv aw it old/\a'.tmps[7]?=some (.int .i32 ((old).val:Nat))/\dB L O1 W pb Kf (.rz old aw sv it (decide (t≠0))) 0 O' w') Q) O a w:=by co_apply Exists.intro;intro O1 W Kf t sv aw it old O a w Q hl hc hS;dsimp only[dD,bP,cA,cB,cI,cT,cE,f111,Option.getD_some];generalize lf:decide (t≠0)=ws at hS⊢;(co_apply (K2);intro fv);co_apply (dX);intro _ hS;exact⟨⟨rfl,rfl,rfl,rfl,rfl,rfl,rfl,rfl⟩,rfl,hS⟩
def aaZ:∃n,∀(O1:aI) (W:af) (Kf:Nat) (t:Int) (sv aw:Bool) (it:Nat) (old:Wd) (O:aI) (a:Act) (w:af) (Q:ep),mZ a pb t sv aw it old->a.tmps[7]?=some (.int .i32 ((old).val:Nat))->old.c<=1000->dB L O1 W pb Kf (.rz old aw sv it (decide (t≠0))) 0 O w->
 cR prog main (iR prog main pb) (RX L) (DX L) 111 (cA (cB (cB dD))) n (bh (fun O' a' w'=>mZ a' pb t sv aw it old/\a'.tmps[7]?=some (.int .i32 ((K5 old).val:Nat))/\dB L O1 W pb Kf (.rz old aw sv it (decide (t≠0))) 0 O' w') Q) O a w:=by
 co_apply Exists.intro;intro O1 W Kf t sv aw it old O a w Q hl h7 hc hS;dsimp only[dD,bP,cA,cB,cI,cT,cE,f111,Option.getD_some];generalize lf:decide (t≠0)=ws at hS⊢;(co_apply (wlM);intro fv);have h4:=Gu (x:=old) (by omega);have ho:=Z3 (x:=old) (by omega);co_apply eT (old.s=true)
 ·intro h;have e:K5 old=old:=by simp[K5,h]
  rw[e];simp[h,b1]at h4;clear h e;co_apply (dX);intro _ hS;exact⟨⟨rfl,rfl,rfl,rfl,rfl,rfl,rfl,rfl⟩,rfl,hS⟩
 ·intro h;have e:K5 old={old with l:=true}:=by simp[K5,h]
  rw[e];simp[h,b1]at h4;clear h e;co_apply (dX);intro _ hS;exact⟨⟨rfl,rfl,rfl,rfl,rfl,rfl,rfl,rfl⟩,rfl,hS⟩
def aa1:∃n,∀(O1:aI) (W:af) (Kf:Nat) (t:Int) (sv aw:Bool) (it:Nat) (old:Wd) (O:aI) (a:Act) (w:af) (Q:ep),mZ a pb t sv aw it old->a.tmps[7]?=some (.int .i32 ((K5 old).val:Nat))->old.c<=1000->dB L O1 W pb Kf (.rz old aw sv it (decide (t≠0))) 0 O w->
 cR prog main (iR prog main pb) (RX L) (DX L) 111 (cA (cB (cB (cB dD)))) n (bh (fun O' a' w'=>mZ a' pb t sv aw it old/\a'.tmps[7]?=some (.int .i32 ((Ju old).val:Nat))/\dB L O1 W pb Kf (.rz old aw sv it (decide (t≠0))) 0 O' w') Q) O a w:=by
 co_apply Exists.intro;intro O1 W Kf t sv aw it old O a w Q hl h7 hc hS;dsimp only[dD,bP,cA,cB,cI,cT,cE,f111,Option.getD_some];generalize lf:decide (t≠0)=ws at hS⊢;(co_apply (wlM);intro fv);have h5:=Gv (x:=old) (by omega);have ho:=WI (x:=K5 old) (by rw[Xn];omega);rw[Xn]at ho;co_apply eT ((old.l || old.s)=true)
 ·intro h;have e:Ju old={K5 old with c:=old.c+1}:=by simp only[Ju];rw[if_pos h]
  rw[e];have h5':(bits .and .i32 ((old.val:Nat):Int) 5 != 0)=true:=by rw[h5];revert h;cases old.l<;>cases old.s<;>simp[b1]
  clear h5 h e;co_apply (dX);intro _ hS;exact⟨⟨rfl,rfl,rfl,rfl,rfl,rfl,rfl,rfl⟩,rfl,hS⟩
 ·intro h;have e:Ju old=K5 old:=by simp only[Ju];rw[if_neg h]
  rw[e];have h5':bits .and .i32 ((old.val:Nat):Int) 5=0:=by rw[h5];revert h;cases old.l<;>cases old.s<;>simp[b1]
  clear h5 h e;co_apply (dX);intro _ hS;exact⟨⟨rfl,rfl,rfl,rfl,rfl,rfl,rfl,rfl⟩,rfl,hS⟩
def aa2:∃n,∀(O1:aI) (W:af) (Kf:Nat) (t:Int) (sv aw:Bool) (it:Nat) (old:Wd) (O:aI) (a:Act) (w:af) (Q:ep),mZ a pb t sv aw it old->a.tmps[7]?=some (.int .i32 ((Ju old).val:Nat))->old.c<=1000->dB L O1 W pb Kf (.rz old aw sv it (decide (t≠0))) 0 O w->
 cR prog main (iR prog main pb) (RX L) (DX L) 111 (cA (cB (cB (cB (cB dD))))) n (bh (fun O' a' w'=>mZ a' pb t sv aw it old/\a'.tmps[7]?=some (.int .i32 ((GL old sv).val:Nat))/\dB L O1 W pb Kf (.rz old aw sv it (decide (t≠0))) 0 O' w') Q) O a w:=by
 co_apply Exists.intro;intro O1 W Kf t sv aw it old O a w Q hl h7 hc hS;dsimp only[dD,bP,cA,cB,cI,cT,cE,f111,Option.getD_some];generalize lf:decide (t≠0)=ws at hS⊢;(co_apply (wlM);intro fv);have h1:=Oj (x:=old) (by omega);have ho:=Z4 (x:=Ju old) (by have:=aaW old;omega);co_apply eT (sv=true)
 ·intro h;subst h;co_apply eT (old.l=true)
  ·intro h;have e:GL old true={Ju old with s:=true}:=by simp[GL,h]
   rw[e];simp[h,b1]at h1;clear h e;co_apply (dX);intro _ hS;exact⟨⟨rfl,rfl,rfl,rfl,rfl,rfl,rfl,rfl⟩,rfl,hS⟩
  ·intro h;have e:GL old true=Ju old:=by simp[GL,h]
   rw[e];simp[h,b1]at h1;clear h e;co_apply (dX);intro _ hS;exact⟨⟨rfl,rfl,rfl,rfl,rfl,rfl,rfl,rfl⟩,rfl,hS⟩
 ·intro h;obtain rfl:sv=false:=by simpa using h
  have e:GL old false=Ju old:=by simp[GL]
  rw[e];co_apply (dX);intro _ hS;exact⟨⟨rfl,rfl,rfl,rfl,rfl,rfl,rfl,rfl⟩,rfl,hS⟩
def aa3:∃n,∀(O1:aI) (W:af) (Kf:Nat) (t:Int) (sv aw:Bool) (it:Nat) (old:Wd) (O:aI) (a:Act) (w:af) (Q:ep),mZ a pb t sv aw it old->a.tmps[7]?=some (.int .i32 ((GL old sv).val:Nat))->old.c<=1000->dB L O1 W pb Kf (.rz old aw sv it (decide (t≠0))) 0 O w->
 cR prog main (iR prog main pb) (RX L) (DX L) 111 (cA (cB (cB (cB (cB (cB dD)))))) n (bh (fun O' a' w'=>mZ a' pb t sv aw it old/\a'.tmps[7]?=some (.int .i32 ((OS old aw sv).val:Nat))/\dB L O1 W pb Kf (.rz old aw sv it (decide (t≠0))) 0 O' w') Q) O a w:=by
 co_apply Exists.intro;intro O1 W Kf t sv aw it old O a w Q hl h7 hc hS;dsimp only[dD,bP,cA,cB,cI,cT,cE,f111,Option.getD_some];generalize lf:decide (t≠0)=ws at hS⊢;(co_apply (wlM);intro fv);have h2:=Ok (x:=GL old sv) (by have:=aaX old sv;omega);have ho:=WH (x:=GL old sv) (by have:=aaX old sv;omega);rw[afH]at h2;rw[nw4];co_apply eT (aw=true)
 ·intro h;subst h;simp only[if_true];co_apply eT (old.w=true)
  ·intro h;simp[h,b1]at h2;clear h;co_apply (dX);intro _ hS;exact⟨⟨rfl,rfl,rfl,rfl,rfl,rfl,rfl,rfl⟩,rfl,hS⟩
  ·intro h;simp[h,b1]at h2;co_apply (gJ);co_apply (SM);intro _ hS;co_apply (gJ);(first|co_apply (xCt)|co_apply (xCf));co_apply aK (aF L) (n₂:=0) (fun _ _ _=>False);case hy=>exact fun _ _ _ h=>h.elim
   co_apply (dX);intro _ hS;co_apply OA (n:=0) hS.pos;intro x v;exact⟨((.bad,0),x,v),by simp[gf,gH,h,gD],rfl⟩
 ·intro h;obtain rfl:aw=false:=by simpa using h
  simp only[Bool.false_eq_true,if_false];co_apply (dX);intro _ hS;exact⟨⟨rfl,rfl,rfl,rfl,rfl,rfl,rfl,rfl⟩,rfl,hS⟩
def sX(old:Wd)(sv ws:Bool):Lk:=if old.l=true\/old.s=true then(if ws then .gV sv true else .t1 sv)else .hold
def aa6:∃n,∀(O1:aI) (W:af) (Kf:Nat) (t:Int) (sv aw:Bool) (it:Nat) (old:Wd) (O:aI) (a:Act) (w:af) (Q:ep),mZ a pb t sv aw it old->a.tmps[7]?=some (.int .i32 ((OS old aw sv).val:Nat))->old.c<=1000->dB L O1 W pb Kf (.rz old aw sv it (decide (t≠0))) 0 O w->
 cR prog main (iR prog main pb) (RX L) (DX L) 111 (cA (cB (cB (cB (cB (cB (cB dD))))))) n (bh (fun O' a' w'=>mZ a' pb t sv aw it old/\∃b:Bool,a'.tmps[80]?=some (.bool b)/\(b=true/\dB L O1 W pb (Kf-1) (sX old sv (decide (t≠0))) (gD (sX old sv (decide (t≠0)))) O' w'\/b=false/\dB L O1 W pb (Kf-1) (.rd aw sv it (decide (t≠0))) 0 O' w')) Q) O a w:=by
 co_apply Exists.intro;intro O1 W Kf t sv aw it old O a w Q hl h7 hc hS;dsimp only[dD,bP,cA,cB,cI,cT,cE,f111,Option.getD_some];generalize lf:decide (t≠0)=ws at hS⊢;(co_apply (wlM);intro fv);co_apply (dX);intro _ hS;have hbd:Hid (∀x v,(∀r∈gf (.rz old aw sv it ws) 0 x v,r.1.1≠.bad)->¬(aw=true/\old.w=false)):=by intro x v h e;exact h ((.bad,0),x,v) (by simp[gf,gH,e,gD]) rfl
 co_apply sP (n:=0) (old:=old) (nw:=OS old aw sv) (T1:=sX old sv ws) (T2:=.rd aw sv it ws) hS.pos (by simp) rfl rfl (by rfl) rfl func108 (by kernel_rfl) (by kernel_rfl) (by kernel_rfl) (by kernel_rfl) (by rfl) (by rfl) (by rfl) (fun v h=>by
  have hb:=hbd.out _ _ h;by_cases e:old.l=true\/old.s=true
  ·simp[gf,gH,hb,e,sX]
  ·simp[gf,gH,hb,e,sX]) (fun x v hx h=>by have hb:=hbd.out _ _ h;simp[gf,gH,hb,hx,gD]) (by unfold sX;split<;>(try split) <;>rfl) rfl
 ·intro W1 hR v hM _;replace hS:=(hS.rely hR).jump (T':=sX old sv ws) (m':=gD (sX old sv ws)) (bu.set pb W1 0 (.int .i32 ((OS old aw sv).val:Nat)) (by omega));generalize O.jump O.own _=O2 at hS⊢;clear hR hM;generalize W1.setCell _ _=W2 at hS⊢;walk_nrm;co_apply (jy);exact⟨⟨rfl,rfl,rfl,rfl,rfl,rfl,rfl,rfl⟩,true,rfl,.inl ⟨rfl,hS⟩⟩
 ·intro W1 hR x v hx hM _;replace hS:=(hS.rely hR).jump (T':=.rd aw sv it ws) (m':=0) (bu.refl pb W1);simp only[gD];generalize O.jump O.own _=O2 at hS⊢;clear hR hM hx;walk_nrm;co_apply (jy);exact⟨⟨rfl,rfl,rfl,rfl,rfl,rfl,rfl,rfl⟩,false,rfl,.inr ⟨rfl,hS⟩⟩
end
section
open Go Go.Conc Go.RowKit Go.MuLone
variable {main:Bool}{J:Jm}{L:dY}
def T4:∃n,∀(s:ah) (O:aI) (w:af),s.size<=1000->L.N<=w.heap.size->
 bE prog main J (RX L) (DX L) 85 #[.string s] n O w fun O' v w'=>v=.string s/\bG L O w O' w':=by obtain⟨nc,hc⟩:=Mf (main:=main) (J:=J) (L:=L);co_apply Exists.intro;intro s O w hs hN;have hF:bG L O w O w:=bG.refl hN;co_apply bF func85 (by rfl) rfl;walk_nrmf ntmps85;generalize hW:w=W at hF⊢;generalize hO:O=O1 at hF⊢;co_apply (xH);intro _ hF;co_apply bS (aF L) rfl (by rfl) rfl (by walk_nrm;exact hc s _ _ hs hF.top);rintro O' v w' ⟨rfl,Xe⟩;replace Xe:=hF.trans Xe;walk_nrm;(repeat(first|co_apply AO|(co_apply (uE);intro _ hR;replace Xe:=Xe.rely hR;clear hR;refine⟨by simp[*,go_sem],fun K z=>?_⟩;go_simp;refine z _ ?_;clear z K;try walk_nrm)|((first|co_apply xI|co_apply xJ|co_apply wO);try co_then)));exact .inl ⟨rfl,_,bR (aF L) (resultsC_tmp (by rfl) _),rfl,by subst hW;subst hO;exact Xe⟩
def C4(w:af)(a:aA)(n i:Nat)(acc:Array aj)(es:Array aC)(hc:∀j,j<n->∃u,w.cell? (a.add (i+j))=some u):
 ∀ev∈(loadCellsFrom a i n acc).events P w es,ev∈es\/∃ad,ev=⟨.cell ad,false,false⟩/\ad.block=a.block:=by
 induction n generalizing i acc es with
 |zero=>exact fun ev h=>.inl (by simpa[loadCellsFrom]using h)
 |succ n ih=>
  intro ev h;obtain⟨u,hu⟩:=hc 0 (by omega);simp only[Nat.add_zero]at hu;simp only[loadCellsFrom,Sem.events_bind,run_load,hu,Result.evThen_ok,events_load]at h;rcases ih (i+1) _ _ (fun j hj=>by have:=hc (j+1) (by omega);rwa [show i+(j+1)=i+1+j by omega]at this) ev h with h|h
  ·rcases Array.mem_push.1 h with h|rfl
   ·exact .inl h
   ·exact .inr ⟨_,rfl,by unfold Addr.add;split<;>rfl⟩
  ·exact .inr h
def IE(w:af)(a:aA)(ty:az)(s:Nat)(d:TypeDesc)(hu:P.underlying ty=some d)(hd:(match d with|.struct _|.array _ _=>true|_=>false)=true)(hi:(P.info? ty).map (·.size)=some s)
 (hc:∀j,j<s->∃u,w.cell? (a.add j)=some u):∀ev∈(loadVar ty a).events P w #[],∃ad,ev=⟨.cell ad,false,false⟩/\ad.block=a.block:=by
 intro ev h;have hia:(isAgg ty).run P w=.ok true w:=by unfold isAgg;rw[Sem.run_bind,run_underlying hu];cases d<;>first|rfl|cases hd
 obtain⟨i,hq,hs⟩:=Option.map_eq_some_iff.1 hi;have hsz:(sizeOf ty).run P w=.ok s w:=by simp[sizeOf,typeInfo,hq,hs]
 have key:=C4 (P:=P) w a s 0 #[] #[] (fun j hj=>by rw[Nat.zero_add];exact hc j hj);simp only[loadVar,Sem.events_bind,hia,Result.evThen_ok,events_isAgg,if_true,hsz,events_sizeOf,Sem.events_pure,loadCells]at h;cases hr:(loadCellsFrom a 0 s #[]).run P w<;>rw[hr]at h<;>simp only[Result.evThen]at h<;>exact(key ev h).elim (fun x=>by simp at x) id
def kL{a:aA}{x v:aj}(hc:w.cell? a=some x)(hf:w.frozen? a=false)(h1:v.oneCell'=true)(es:Array aC):(store a v).events P w es=es.push ⟨.cell a,true,false⟩:=by rw[events_store P w es a v .plain h1,hc];simp only[hf,Bool.false_eq_true,if_false];rfl
def dO.cell(r o:Nat)(w:af)(v:aj):dO r w (w.setCell ⟨r,o,none⟩ v):=⟨rfl,rfl,rfl,by simp[World.setCell],fun i hi=>by simp[World.setCell,Array.getElem?_modify,Ne.symm hi]⟩
def dO.trans{r:Nat}{a b c:af}(h:dO r a b)(h':dO r b c):dO r a c:=⟨h'.tape.trans h.tape,h'.os.trans h.os,h'.out.trans h.out,h'.size.trans h.size,fun i hi=>(h'.other i hi).trans (h.other i hi)⟩
def vn:∃n,∀(k:ah) (c:Int) (v:ah) (O:aI) (w:af),v.size<=1000->L.N<=w.heap.size->
 bE prog main J (RX L) (DX L) 78 #[.string k,.int .i64 c,.string v] n O w fun O' x w'=>x=.agg #[.string k,.int .i64 c,.string v]/\bG L O w O' w':=by
 obtain⟨nc,hc⟩:=T4 (main:=main) (J:=J) (L:=L);co_apply Exists.intro;intro k c v O w hs hN;have hF:bG L O w O w:=bG.refl hN;co_apply bF func78 (by rfl) rfl;walk_nrmf ntmps78;generalize hW:w=W at hF⊢;generalize hO:O=O1 at hF⊢;(first|co_apply xI|co_apply xJ|co_apply wO);co_apply AO;co_apply bJ rfl (by rfl);intro W1 hR K hK;replace hF:=bG.rely hF hR;clear hR;go_simp;refine hK _ _ ⟨?_,?_⟩
 ·rw[listed_nil (by simp[go_sem])];exact DX.alloc _ _ _
 clear hK K;try walk_nrm
 have hr:w.heap.size<=W1.heap.size:=by rw[hW];exact hF.rel.le
 have hG:bG L O1 W (O1.grow W1 (W1.alloc (.cells #[.string ⟨#[]⟩,.int .i64 0,.string ⟨#[]⟩] 62))) (W1.alloc (.cells #[.string ⟨#[]⟩,.int .i64 0,.string ⟨#[]⟩] 62))/\OB W1.heap.size (.cells #[.string ⟨#[]⟩,.int .i64 0,.string ⟨#[]⟩] 62) (O1.grow W1 (W1.alloc (.cells #[.string ⟨#[]⟩,.int .i64 0,.string ⟨#[]⟩] 62))) (W1.alloc (.cells #[.string ⟨#[]⟩,.int .i64 0,.string ⟨#[]⟩] 62)):=⟨hF.alloc _,OB.new _ _ _⟩
 clear hF;generalize (O1.grow W1 (W1.alloc (.cells #[.string ⟨#[]⟩,.int .i64 0,.string ⟨#[]⟩] 62)))=O2 at hG⊢;generalize (W1.alloc (.cells #[.string ⟨#[]⟩,.int .i64 0,.string ⟨#[]⟩] 62))=W2 at hG⊢;generalize W1.heap.size=r at hG hr⊢;have rl:∀{O2:aI} {o:Obj} {Wa Wb:af},(bG L O1 W O2 Wa/\OB r o O2 Wa)->RX L O2 Wa Wb->(bG L O1 W O2 Wb/\OB r o O2 Wb):=fun h x=>⟨h.1.rely x,h.2.rely x⟩
 (first|co_apply xI|co_apply xJ|co_apply wO);co_then;(first|co_apply xI|co_apply xJ|co_apply wO);co_apply AO;co_apply (ox);intro _ hG;co_apply (ox);intro _ hG;co_apply (ox);intro _ hG;co_apply bS (aF L) rfl (by rfl) rfl (by walk_nrm;exact hc v _ _ hs hG.1.top);rintro O3 x W3 ⟨rfl,JF⟩;have hH:bG L O1 W O3 W3/\OB r (.cells #[.string ⟨#[]⟩,.int .i64 0,.string ⟨#[]⟩] 62) O3 W3:=⟨hG.1.trans JF,hG.2.wN JF⟩
 clear hG JF;walk_nrm;(co_apply (uE);intro _ hR;replace hH:=rl hH hR;clear hR;refine⟨by simp[go_sem],fun K z=>?_⟩;go_simp;refine z _ ?_;clear z K;try walk_nrm);co_apply bJ rfl (by rfl);intro W4 hR K hK;replace hH:=rl hH hR;clear hR;have hA:bg W4 r #[.string ⟨#[]⟩,.int .i64 0,.string ⟨#[]⟩] 62:=hH.2.heap;have t0:=hA.cell (o:=0) (v:=.string ⟨#[]⟩) rfl;have t1:=hA.cell (o:=1) (v:=.int .i64 0) rfl;have t2:=hA.cell (o:=2) (v:=.string ⟨#[]⟩) rfl;have g0:=hA.frozen 0;have g1:=hA.frozen 1;have g2:=hA.frozen 2;go_simp;try(unfold stored;go_simp)
 refine hK _ _ ⟨?_,?_⟩
 ·refine DX.own hH.2.own (((dO.cell r 0 W4 _).trans (dO.cell r 1 _ _)).trans (dO.cell r 2 _ _)) (cO (b:=true) hH.2.own fun e he=>?_);have hm:=mem_listed he;have E0:=fun es=>kL (P:=prog) (v:=.string k) t0 g0 rfl es;have hA2:=(hA.set 0 (.string k)).set 1 (.int .i64 c);have E2:=fun es=>kL (P:=prog) (v:=.string v) (hA2.cell (o:=2) (v:=.string ⟨#[]⟩) rfl) (hA2.frozen 2) rfl es;simp[go_sem, *]at hm;rcases hm with rfl|rfl|rfl<;>exact⟨_,rfl,rfl⟩
 clear hK K;have KZ:bg (((W4.setCell ⟨r,0,none⟩ (.string k)).setCell ⟨r,1,none⟩ (.int .i64 c)).setCell ⟨r,2,none⟩ (.string v)) r #[.string k,.int .i64 c,.string v] 62:=by simpa using((hA.set 0 (.string k)).set 1 (.int .i64 c)).set 2 (.string v)
 have hT:=((dO.cell r 0 W4 (.string k)).trans (dO.cell r 1 _ (.int .i64 c))).trans (dO.cell r 2 _ (.string v));have hE:bG L O1 W O3 (((W4.setCell ⟨r,0,none⟩ (.string k)).setCell ⟨r,1,none⟩ (.int .i64 c)).setCell ⟨r,2,none⟩ (.string v))/\OB r (.cells #[.string k,.int .i64 c,.string v] 62) O3 (((W4.setCell ⟨r,0,none⟩ (.string k)).setCell ⟨r,1,none⟩ (.int .i64 c)).setCell ⟨r,2,none⟩ (.string v)):=
  ⟨hT.wN hH.1 (by rw[<-hW];exact hr),hH.2.own,KZ⟩
 rw[O3.dz hT.size];clear hH hA KZ t0 t1 t2 g0 g1 g2 hT;generalize (((W4.setCell ⟨r,0,none⟩ (.string k)).setCell ⟨r,1,none⟩ (.int .i64 c)).setCell ⟨r,2,none⟩ (.string v))=W5 at hE⊢;try walk_nrm
 (repeat(first|co_apply AO|(co_apply (uE);intro _ hR;replace hE:=rl hE hR;clear hR;refine⟨by simp[*,go_sem],fun K z=>?_⟩;go_simp;refine z _ ?_;clear z K;try walk_nrm)|((first|co_apply xI|co_apply xJ|co_apply wO);try co_then)));refine .inl ⟨rfl,_,?_,rfl,by subst hW;subst hO;exact hE.1⟩;intro W7 h7;have h8:=rl hE h7;have hB:bg W7 r #[.string k,.int .i64 c,.string v] 62:=h8.2.heap;refine⟨results_cell_row rfl _ _ r _ _ (0,0) _ rfl hB underlying62 rfl CH,DX.still _ _ (cO (b:=false) h8.2.own fun e he=>?_)⟩;have hm:=mem_seen he;have hm2:e∈(loadVar 62 ⟨r,0,none⟩).events prog W7 #[]:=by have hfr:(f78).results=#[.cell 6 62]:=rfl;have FU:=run_loadVar_row (P:=prog) W7 r 62 62 _ (0,0) _ hB underlying62 rfl CH;simpa[results,hfr,asAddr,FU]using hm
 exact IE (P:=prog) W7 ⟨r,0,none⟩ 62 3 _ underlying62 rfl CH (fun j hj=>by
  have:j=0\/j=1\/j=2:=by omega
  rcases this with rfl|rfl|rfl
  ·exact⟨_,hB.cell (o:=0) rfl⟩
  ·exact⟨_,hB.cell (o:=1) rfl⟩
  ·exact⟨_,hB.cell (o:=2) rfl⟩) e hm2
end
section
open Go Go.Conc Go.ConcM Go.RowKit
variable {main:Bool}{L:dY}{pb:Nat}
noncomputable def qo:Code:=cT (cB (cB (cB (cB (cB (cB (cB dD)))))))
def aa7:∃n,∀(O1:aI) (W:af) (Kf:Nat) (t:Int) (sv aw:Bool) (it:Nat) (old:Wd) (O:aI) (a:Act) (w:af) (Q:ep),mZ a pb t sv aw it old->old.c<=1000->dB L O1 W pb Kf (sX old sv (decide (t≠0))) (gD (sX old sv (decide (t≠0)))) O w->Hid (∀O' a' w',a'.defers= []->a'.tmps.size=139->a'.tmps[0]?=some (.pointer (some ⟨pb,0,none⟩))->dB L O1 W pb Kf (.hold) 5 O' w'->Q O' (.exit 0) a' w')->
 cR prog main (iR prog main pb) (RX L) (DX L) 111 (cA qo) n (bh (fun O' a' w'=>mZ a' pb t sv aw it old/\dB L O1 W pb Kf (if decide (t≠0)=true then .gV sv true else .t1 sv) 0 O' w') Q) O a w:=by
 co_apply Exists.intro;intro O1 W Kf t sv aw it old O a w Q hl hc hS hQ;dsimp only[qo,dD,bP,cA,cB,cI,cT,cE,f111,Option.getD_some];generalize lf:decide (t≠0)=ws at hS⊢;(co_apply (K2);intro fv);have h5:=Gv (x:=old) (by omega);co_apply eT (old.l=true\/old.s=true)
 ·intro h;simp only[sX,h,if_true]at hS;have h5':(bits .and .i32 ((old.val:Nat):Int) 5 == 0)=false:=by rw[h5];revert h;cases old.l<;>cases old.s<;>simp[b1]
  have hm:gD (if ws=true then .gV sv true else .t1 sv)=0:=by cases ws<;>rfl
  rw[hm]at hS;clear h5 h hm;co_apply (dX);intro _ hS;exact⟨⟨rfl,rfl,rfl,rfl,rfl,rfl,rfl,rfl⟩,hS⟩
 ·intro h;simp only[sX,h,if_false,gD]at hS;have h5':bits .and .i32 ((old.val:Nat):Int) 5=0:=by rw[h5];revert h;cases old.l<;>cases old.s<;>simp[b1]
  clear h5 h;co_apply (dX);intro _ hS;exact hQ.out _ _ _ rfl rfl rfl hS
def aa8:∃n,∀(O1:aI) (W:af) (Kf:Nat) (t:Int) (sv aw:Bool) (it:Nat) (old:Wd) (O:aI) (a:Act) (w:af) (Q:ep),mZ a pb t sv aw it old->dB L O1 W pb Kf (if decide (t≠0)=true then .gV sv true else .t1 sv) 0 O w->
 cR prog main (iR prog main pb) (RX L) (DX L) 111 (cA (cB qo)) n (bh (fun O' a' w'=>mZ a' pb t sv aw it old/\dB L O1 W pb Kf (if decide (t≠0)=true then .gV sv true else .t1 sv) 0 O' w') Q) O a w:=by co_apply Exists.intro;intro O1 W Kf t sv aw it old O a w Q hl hS;dsimp only[qo,dD,bP,cA,cB,cI,cT,cE,f111,Option.getD_some];generalize lf:decide (t≠0)=ws at hS⊢;(co_apply (K2);intro fv);clear lf;co_apply (dX);intro _ hS;exact⟨⟨rfl,rfl,rfl,rfl,rfl,rfl,rfl,rfl⟩,hS⟩
def aa9:∃n,∀(O1:aI) (W:af) (Kf:Nat) (t:Int) (sv aw:Bool) (it:Nat) (old:Wd) (O:aI) (a:Act) (w:af) (Q:ep),mZ a pb t sv aw it old->dB L O1 W pb Kf (if decide (t≠0)=true then .gV sv true else .t1 sv) 0 O w->
 cR prog main (iR prog main pb) (RX L) (DX L) 111 (cA (cB (cB qo))) n (bh (fun O' a' w'=>∃t':Int,mZ a' pb t' sv aw it old/\dB L O1 W pb Kf (.gV sv (decide (t'≠0))) 0 O' w') Q) O a w:=by
 co_apply Exists.intro;intro O1 W Kf t sv aw it old O a w Q hl hS;dsimp only[qo,dD,bP,cA,cB,cI,cT,cE,f111,Option.getD_some];(co_apply (K2);intro fv);co_apply eT (t=0)
 ·intro h;subst h;simp at hS;co_apply (dX);intro _ hS;co_apply AM (n:=0) hS.pos (by simp) rfl (by rfl) rfl func137 (by kernel_rfl) (by kernel_rfl) (by kernel_rfl) (by kernel_rfl) (by kernel_rfl) (F:=fun t'=>.gV sv (decide (t'≠0))) (fun x v t'=>by by_cases e:t'=0<;>simp[gf,gH,gD,e]) (fun _=>rfl);intro W1 hR t';replace hS:=(hS.rely hR).jump (T':=.gV sv (decide (t'≠0))) (m':=0) (bu.later pb W1);generalize O.jump O.own _=O2 at hS⊢;clear hR;generalize W1.later=W2 at hS⊢;walk_nrm;co_apply (dX);intro _ hS;exact⟨t',⟨rfl,rfl,rfl,rfl,rfl,rfl,rfl,rfl⟩,hS.weak (by omega)⟩
 ·intro h;have h1:(t == 0)=false:=by simpa using h
  have h2:decide (t≠0)=true:=by simpa using h
  simp only[h2,if_true]at hS;co_apply (dX);intro _ hS;refine⟨t,⟨rfl,rfl,rfl,rfl,rfl,rfl,rfl,rfl⟩,?_⟩;rw[h2];exact hS
def abd:∃n,∀(O1:aI) (W:af) (Kf:Nat) (t:Int) (sv aw:Bool) (it:Nat) (old:Wd) (O:aI) (a:Act) (w:af) (Q:ep),mZ a pb t sv aw it old->dB L O1 W pb Kf (.gV sv (decide (t≠0))) 0 O w->
 cR prog main (iR prog main pb) (RX L) (DX L) 111 (cA (cB (cB (cB qo)))) n (bh (fun O' a' w'=>mZ a' pb t sv aw it old/\dB L O1 W pb Kf (if sv then .wk true (decide (t≠0))else .t2 (decide (t≠0))) 0 O' w') Q) O a w:=by co_apply Exists.intro;intro O1 W Kf t sv aw it old O a w Q hl hS;dsimp only[qo,dD,bP,cA,cB,cI,cT,cE,f111,Option.getD_some];generalize lf:decide (t≠0)=ws at hS⊢;(co_apply (K2);intro fv);co_apply (dX);intro _ hS;co_apply KE (n:=0) hS.pos rfl rfl rfl (by rfl) rfl func138 (by kernel_rfl) (by kernel_rfl) (by kernel_rfl) (by kernel_rfl) (by first|(walk_nrm;done)|simp[Act.eval]);intro W1 hR x v hM;replace hS:=(hS.rely hR).jump (T':=if sv then .wk true ws else .t2 ws) (m':=0) (bu.set pb W1 1 (.int .u32 (v:Nat)) (by omega));generalize O.jump O.own _=O2 at hS⊢;clear hR hM;generalize W1.setCell _ _=W2 at hS⊢;walk_nrm;co_apply (jy);exact⟨⟨rfl,rfl,rfl,rfl,rfl,rfl,rfl,rfl⟩,hS.weak (by omega)⟩
def abe:∃n,∀(O1:aI) (W:af) (Kf:Nat) (t:Int) (sv aw:Bool) (it:Nat) (old:Wd) (O:aI) (a:Act) (w:af) (Q:ep),mZ a pb t sv aw it old->dB L O1 W pb Kf (if sv then .wk true (decide (t≠0))else .t2 (decide (t≠0))) 0 O w->
 cR prog main (iR prog main pb) (RX L) (DX L) 111 (cA (cB (cB (cB (cB qo))))) n (bh (fun O' a' w'=>∃sv':Bool,mZ a' pb t sv' aw it old/\dB L O1 W pb Kf (.wk sv' (decide (t≠0))) 0 O' w') Q) O a w:=by
 co_apply Exists.intro;intro O1 W Kf t sv aw it old O a w Q hl hS;dsimp only[qo,dD,bP,cA,cB,cI,cT,cE,f111,Option.getD_some];generalize lf:decide (t≠0)=ws at hS⊢;(co_apply (K2);intro fv);co_apply eT (sv=true)
 ·intro h;subst h;simp only[if_true]at hS;co_apply (dX);intro _ hS;exact⟨true,⟨rfl,rfl,rfl,rfl,rfl,rfl,rfl,rfl⟩,hS⟩
 ·intro h;obtain rfl:sv=false:=by simpa using h
  simp only[Bool.false_eq_true,if_false]at hS;co_apply (dX);intro _ hS;co_apply AM (n:=0) hS.pos (by simp) rfl (by rfl) rfl func137 (by kernel_rfl) (by kernel_rfl) (by kernel_rfl) (by kernel_rfl) (by kernel_rfl) (F:=fun t'=>.wk (decide (IntKind.i64.wrap (t'-t)> 1000000)) ws) (fun x v t'=>by by_cases e:IntKind.i64.wrap (t'-t)> 1000000<;>simp[gf,gH,gD,e]) (fun _=>rfl);intro W1 hR t';replace hS:=(hS.rely hR).jump (T':=.wk (decide (IntKind.i64.wrap (t'-t)> 1000000)) ws) (m':=0) (bu.later pb W1);generalize O.jump O.own _=O2 at hS⊢;clear hR;generalize W1.later=W2 at hS⊢;walk_nrm;co_apply (dX);intro _ hS;exact⟨_,⟨rfl,rfl,rfl,rfl,rfl,rfl,rfl,rfl⟩,hS.weak (by omega)⟩
def OT(x:Wd)(sv ws:Bool):Lk:=if x.s then .add (!sv || x.c == 1)else lM x true sv 0 ws
def abg:∃n,∀(O1:aI) (W:af) (Kf:Nat) (t:Int) (sv aw:Bool) (it:Nat) (old:Wd) (O:aI) (a:Act) (w:af) (Q:ep),mZ a pb t sv aw it old->dB L O1 W pb Kf (.wk sv (decide (t≠0))) 0 O w->
 cR prog main (iR prog main pb) (RX L) (DX L) 111 (cA (cB (cB (cB (cB (cB qo)))))) n (bh (fun O' a' w'=>∃x:Wd,x.c<=1000/\(x.s=true->x.l=false/\x.w=false/\x.c≠0)/\mZ a' pb t sv aw it x/\dB L O1 W pb (Kf-1) (OT x sv (decide (t≠0))) 0 O' w') Q) O a w:=by
 co_apply Exists.intro;intro O1 W Kf t sv aw it old O a w Q hl hS;dsimp only[qo,dD,bP,cA,cB,cI,cT,cE,f111,Option.getD_some];generalize lf:decide (t≠0)=ws at hS⊢;(co_apply (K2);intro fv);co_apply (dX);intro _ hS;have hbd:Hid (∀x v,(∀r∈gf (.wk sv ws) 0 x v,r.1.1≠.bad)->(x.s=true->x.l=false/\x.w=false/\x.c≠0)):=by
  intro x v h hs;refine Classical.byContradiction fun e=>?_;have e':x.l=true\/x.w=true\/x.c=0:=by revert e;cases x.l<;>cases x.w<;>simp
  exact h ((.bad,0),x,v) (by simp[gf,gH,hs,e',gD]) rfl
 co_apply uz (n:=0) hS.pos (by simp) rfl (by rfl) (fun _ _ hx=>run_eq_of (by intro K hK;go_simp;exact hK)) (fun _ _ hx=>gq (ad:=⟨pb,0,none⟩) (by rfl) (by simp[go_sem,hx])) (F:=fun x=>OT x sv ws) (mm:=fun _=>0) (fun x v _ h=>by
  by_cases hs:x.s=true
  ·obtain⟨q1,q2,q3⟩:=hbd.out x v h hs;simp[gf,gH,hs,q1,q2,q3,OT,gD]
  ·simp[gf,gH,hs,OT,OH]) (fun x=>by
  by_cases hs:x.s=true
  ·simp[OT,hs,wK]
  ·have e:OT x sv ws=lM x true sv 0 ws:=by simp[OT,hs]
   rw[e,OI];rfl)
 intro W1 hR x v hM vT hb;replace hS:=(hS.rely hR).jump (T':=OT x sv ws) (m':=0) (bu.refl pb W1);have S3:Hid (x.s=true->x.l=false/\x.w=false/\x.c≠0):=hbd.out x v hb;generalize O.jump O.own _=O2 at hS⊢;clear hR hM hb;walk_nrm;co_apply (dX);intro _ hS;exact⟨x,vT,S3.out,⟨rfl,rfl,rfl,rfl,rfl,rfl,rfl,rfl⟩,hS⟩
def abh:∃n,∀(O1:aI) (W:af) (Kf:Nat) (t:Int) (sv aw:Bool) (it:Nat) (old:Wd) (O:aI) (a:Act) (w:af) (Q:ep),mZ a pb t sv aw it old->old.c<=1000->Hid (old.s=true->old.l=false/\old.w=false/\old.c≠0)->dB L O1 W pb Kf (OT old sv (decide (t≠0))) 0 O w->Hid (∀O' a' w',a'.defers= []->a'.tmps.size=139->a'.tmps[0]?=some (.pointer (some ⟨pb,0,none⟩))->dB L O1 W pb Kf (.hold) 5 O' w'->Q O' (.exit 0) a' w')->
 cR prog main (iR prog main pb) (RX L) (DX L) 111 (cA (cB (cB (cB (cB (cB (cB qo))))))) n (bh (fun O' a' w'=>mZ a' pb t sv aw it old/\dB L O1 W pb Kf (lM old true sv 0 (decide (t≠0))) 0 O' w') Q) O a w:=by
 co_apply Exists.intro;intro O1 W Kf t sv aw it old O a w Q hl hc h3 hS hQ;dsimp only[qo,dD,bP,cA,cB,cI,cT,cE,f111,Option.getD_some];generalize lf:decide (t≠0)=ws at hS⊢;(co_apply (K2);intro fv);obtain⟨l,ww,s,c⟩:=old;have h4:=Gu (x:=⟨l,ww,s,c⟩) (by simp at hc⊢;omega);have h33:=WC (x:=⟨l,ww,s,c⟩) (by simp at hc⊢;omega);have hs8:(((⟨l,ww,s,c⟩:Wd).val:Nat):Int)/ 8=((c:Nat):Int):=Ec ⟨l,ww,s,c⟩;have hsh:(((⟨l,ww,s,c⟩:Wd).val:Nat):Int)/ 2 ^(3:Int).toNat=((c:Nat):Int):=Ec ⟨l,ww,s,c⟩;simp only at hc;co_apply eT (s=true)
 ·intro h;subst h;obtain⟨q1,q2,q3⟩:=h3.out rfl;simp only at q1 q2 q3;subst q1 q2;simp[b1]at h4 h33;simp only[OT,if_true]at hS;have hc0:((((c:Nat):Int)== 0)=false):=by simp;omega
  have xG:∀(cl:Bool) (d:Int),(d=if cl then -11 else -7)->Hid (∀(x:Wd) (v:Nat),x.c<=1000->(∀r∈gf (.add cl) 0 x v,r.1.1≠.bad)->gf (.add cl) 0 x v= [((.hold,gD .hold),({x with l:=true,c:=x.c-1,s:=if cl then false else x.s}:Wd),v)]/\IntKind.i32.wrap ((x.val:Nat)+d)=((({x with l:=true,c:=x.c-1,s:=if cl then false else x.s}:Wd).val:Nat):Int)):=by intro cl d hd x v vT hb;have hnb:¬(x.l=true\/x.s=false\/x.c=0):=fun e=>hb ((.bad,0),x,v) (by simp[gf,gH,e,gD]) rfl;refine⟨by simp[gf,gH,hnb,gD],?_⟩;obtain⟨l',w',s',c'⟩:=x;simp only[not_or,Bool.not_eq_true,Bool.not_eq_false]at hnb;obtain⟨rfl,rfl,zR⟩:=hnb;subst hd;simp only at zR vT;have WM:IntKind.i32.bits=32:=rfl;cases cl<;>cases w'<;>simp[Wd.val,b1,IntKind.wrap,WM]<;>omega
  co_apply eT ((!sv || c == 1)=true)
  ·intro qY;rw[qY]at hS;have ht:(sv=false\/c=1):=by revert qY;cases sv<;>simp
   have hH:=xG true (-11) rfl;clear xG qY;co_apply eT (sv=false)
   ·intro zG;subst zG;clear ht;co_apply (dX);intro _ hS;co_apply pW (n:=0) hS.pos (by simp) rfl rfl (by rfl) rfl func113 (by kernel_rfl) (by kernel_rfl) (by kernel_rfl) (by kernel_rfl) (by rfl) (by rfl) hH.out (fun _=>rfl);intro W1 hR x v hM vT hb;replace hS:=(hS.rely hR).jump (T':=.hold) (m':=5) (bu.set pb W1 0 (.int .i32 ((({x with l:=true,c:=x.c-1,s:=if true then false else x.s}:Wd).val:Nat):Int)) (by omega));simp only[gD];try simp only[if_true]at hS⊢
    generalize O.jump O.own _=O2 at hS⊢;clear hR hM hb;generalize W1.setCell _ _=W2 at hS⊢;walk_nrm;co_apply (jy);exact hQ.out _ _ _ rfl rfl rfl (hS.weak (k':=Kf) (by omega))
   ·intro zG;obtain rfl:sv=true:=by simpa using zG
    obtain rfl:c=1:=by simpa using ht
    clear ht zG;co_apply (dX);intro _ hS;co_apply pW (n:=0) hS.pos (by simp) rfl rfl (by rfl) rfl func113 (by kernel_rfl) (by kernel_rfl) (by kernel_rfl) (by kernel_rfl) (by rfl) (by rfl) hH.out (fun _=>rfl);intro W1 hR x v hM vT hb;replace hS:=(hS.rely hR).jump (T':=.hold) (m':=5) (bu.set pb W1 0 (.int .i32 ((({x with l:=true,c:=x.c-1,s:=if true then false else x.s}:Wd).val:Nat):Int)) (by omega));simp only[gD];try simp only[if_true]at hS⊢
    generalize O.jump O.own _=O2 at hS⊢;clear hR hM hb;generalize W1.setCell _ _=W2 at hS⊢;walk_nrm;co_apply (jy);exact hQ.out _ _ _ rfl rfl rfl (hS.weak (k':=Kf) (by omega))
  ·intro qY;have Xo:(!sv || c == 1)=false:=by simpa using qY
   rw[Xo]at hS;obtain⟨zG,hc1⟩:sv=true/\¬c=1:=by revert Xo;cases sv<;>simp
   subst zG;have hc2:((((c:Nat):Int)== 1)=false):=by simp;omega
   have hH:=xG false (-7) rfl;clear xG qY Xo hc1;co_apply (dX);intro _ hS;co_apply pW (n:=0) hS.pos (by simp) rfl rfl (by rfl) rfl func113 (by kernel_rfl) (by kernel_rfl) (by kernel_rfl) (by kernel_rfl) (by rfl) (by rfl) hH.out (fun _=>rfl);intro W1 hR x v hM vT hb;replace hS:=(hS.rely hR).jump (T':=.hold) (m':=5) (bu.set pb W1 0 (.int .i32 ((({x with l:=true,c:=x.c-1,s:=if false then false else x.s}:Wd).val:Nat):Int)) (by omega));simp only[gD];generalize O.jump O.own _=O2 at hS⊢;clear hR hM hb;generalize W1.setCell _ _=W2 at hS⊢;walk_nrm;co_apply (jy);exact hQ.out _ _ _ rfl rfl rfl (hS.weak (k':=Kf) (by omega))
 ·intro h;obtain rfl:s=false:=by simpa using h
  simp[b1]at h4;simp only[OT,Bool.false_eq_true,if_false]at hS;co_apply (dX);intro _ hS;exact⟨⟨rfl,rfl,rfl,rfl,rfl,rfl,rfl,rfl⟩,hS⟩
def abi:∃n,∀(O1:aI) (W:af) (Kf:Nat) (t:Int) (sv aw:Bool) (it:Nat) (old:Wd) (O:aI) (a:Act) (w:af) (Q:ep),mZ a pb t sv aw it old->dB L O1 W pb Kf (lM old true sv 0 (decide (t≠0))) 0 O w->Hid (∀O' a' w',mZ a' pb t sv true 0 old->dB L O1 W pb Kf (lM old true sv 0 (decide (t≠0))) 0 O' w'->Q O' .normal a' w')->
 cR prog main (iR prog main pb) (RX L) (DX L) 111 (cB (cB (cB (cB (cB (cB (cB qo))))))) n (Q) O a w:=by co_apply Exists.intro;intro O1 W Kf t sv aw it old O a w Q hl hS hQ;dsimp only[qo,dD,bP,cA,cB,cI,cT,cE,f111,Option.getD_some];(co_apply (K2);intro fv);co_apply (dX);intro _ hS;exact hQ.out _ _ _ ⟨rfl,rfl,rfl,rfl,rfl,rfl,rfl,rfl⟩ hS
def abj:∃n,∀(O1:aI) (W:af) (Kf:Nat) (t:Int) (sv aw:Bool) (it:Nat) (old:Wd) (O:aI) (a:Act) (w:af) (Q:ep),mZ a pb t sv aw it old->dB L O1 W pb Kf (.rd aw sv it (decide (t≠0))) 0 O w->Hid (∀O' a' w' x,x.c<=1000->mZ a' pb t sv aw it x->dB L O1 W pb (Kf-1) (lM x aw sv it (decide (t≠0))) 0 O' w'->Q O' .normal a' w')->
 cR prog main (iR prog main pb) (RX L) (DX L) 111 (cE (cB (cB (cB (cB (cB (cB (cB dD)))))))) n (Q) O a w:=by co_apply Exists.intro;intro O1 W Kf t sv aw it old O a w Q hl hS hQ;dsimp only[qo,dD,bP,cA,cB,cI,cT,cE,f111,Option.getD_some];(co_apply (K2);intro fv);co_apply (dX);intro _ hS;co_apply Cb (n:=0) hS rfl (by rfl) (fun _ _ hx=>run_eq_of (by intro K hK;go_simp;exact hK)) (fun _ _ hx=>gq (ad:=⟨pb,0,none⟩) (by rfl) (by simp[go_sem,hx]));intro O2 W1 x hx gI;walk_nrm;co_apply (YP);intro _ gI;exact hQ.out _ _ _ x hx ⟨rfl,rfl,rfl,rfl,rfl,rfl,rfl,rfl⟩ gI
end
end Go.Proofs.YteoahlieielcdaaGreat
