import Derived.Test.YteoahlieielcdaaGreatM1
import Derived.Test.YteoahlieielcdaaGreatPr1
set_option linter.all false
set_option maxHeartbeats 4000000
set_option maxRecDepth 100000
namespace Go.Proofs.YteoahlieielcdaaGreat
open Go.Proofs.Tryz
variable{w:World}{o:Oper}{O:au}{r n i it:Nat}{es evs:Array Event}{P:Program}{f fn:FuncId}{a:Act}
section
open Go Go.Conc Go.RowKit Go.MuLone
section
variable {P:Program}
theorem Mx{g o:Nat}{cur:Array Value}{t:TypeId}(hg:w.heap[g]?=some (.cells cur t (0,0)))(ho:o<cur.size){v:Value}(h1:v.oneCell'=true)(es:Array Event):
 (store ⟨g,o,none⟩ v).events P w es=es.push ⟨.cell ⟨g,o,none⟩,true,false⟩/\(store ⟨g,o,none⟩ v).run P w=.ok () (w.setRow g (cur.setIfInBounds o v)):=by
 have hcell:w.cell? ⟨g,o,none⟩=some cur[o]:=by simp[World.cell?,hg,ho]
 have aa4:w.frozen? ⟨g,o,none⟩=false:=by simp[World.frozen?,hg]
 constructor
 ·rw[events_store P w es _ v _ h1,hcell];simp only[aa4,Bool.false_eq_true,if_false];rfl
 ·rw[run_store P w _ v _ h1,hcell];simp[aa4,setCell_eq_setRow w g o cur t (0,0) v hg]
theorem Bo(g o:Nat)(t:TypeId)(vs:List Value)(i:Nat)(cur:Array Value)(w:World)(es:Array Event)(hg:w.heap[g]?=some (.cells cur t (0,0)))(hl:o+i+vs.length<=cur.size)(h1:∀v∈vs,v.oneCell'=true):
 ∀ev∈(storeCells ⟨g,o,none⟩ vs i).events P w es,ev∈es\/∃ad,ev=⟨.cell ad,true,false⟩/\ad.block=g:=by
 induction vs generalizing i cur w es with
 |nil=>exact fun ev h=>.inl (by simpa[storeCells]using h)
 |cons v rest ih=>
  intro ev h;simp only[List.length_cons]at hl;have x7:(⟨g,o,none⟩:Addr).add i=⟨g,o+i,none⟩:=by unfold Addr.add;split<;>simp_all
  obtain⟨he,hr⟩:=Mx (P:=P) hg (show o+i<cur.size by omega) (h1 v (by simp)) es;simp only[storeCells,Sem.events_bind,x7,hr,Result.evThen_ok,he]at h;rcases ih (i+1) _ _ _ (setRow_heap w g cur _ t _ hg) (by simp;omega) (fun x hx=>h1 x (by simp[hx])) ev h with h|h
  ·rcases Array.mem_push.1 h with h|rfl
   ·exact .inl h
   ·exact .inr ⟨_,rfl,rfl⟩
  ·exact .inr h
theorem Dz(l:List UInt8)(a:Addr)(acc:ByteArray)(w:World)(es:Array Event)(hc:∀j x,l[j]?=some x->w.cell? (a.add j)=some (.int .u8 x.toNat)):
 ∀ev∈(loadBytes a acc l.length).events P w es,ev∈es\/∃ad,ev=⟨.cell ad,false,false⟩/\ad.block=a.block:=by
 induction l generalizing a acc es with
 |nil=>exact fun ev h=>.inl (by simpa[loadBytes]using h)
 |cons x l ih=>
  intro ev h;have h0:w.cell? a=some (.int .u8 x.toNat):=by have:=hc 0 x rfl;simpa[Addr.add]using this
  have hb:(a.add 1).block=a.block:=by simp[Addr.add]
  simp only[List.length_cons,loadBytes,Sem.events_bind,run_load,h0,Result.evThen_ok,events_load]at h;rcases ih (a.add 1) _ _ (fun j y hy=>by
   have:=hc (j+1) y (by simpa using hy);have e:(a.add 1).add j=a.add (j+1):=by
    unfold Addr.add;by_cases hj:j=0
    ·subst hj;simp
    ·simp[hj];omega
   rw[e];exact this) ev h with h|⟨ad,h1,h2⟩
  ·rcases Array.mem_push.1 h with h|rfl
   ·exact .inl h
   ·exact .inr ⟨_,rfl,rfl⟩
  ·exact .inr ⟨ad,h1,h2.trans hb⟩
theorem S7(w:World)(dT sT ty elem:TypeId)(g:Nat)(s:ByteArray)(cur:Array Value)(t:TypeId)
 (hu:P.underlying dT=some (.slice elem)) (hs:(P.info? elem).map (·.size)=some 1) (hg:w.heap[g]?=some (.cells cur t (0,0))) (hfit:s.size<=cur.size) (cap:Nat):
 ∀ev∈(Builtin.copy_ #[dT,sT] ty #[.slice (some ⟨g,0,none⟩) s.size cap,.string s]).events P w #[],∃ad,ev=⟨.cell ad,true,false⟩/\ad.block=g:=by
 intro ev h;have hlen:(Lib.byteCells s.data.toList).length=s.size:=by rw[Lib.byteCells_length,<-Lib.size_eq]
 have htk:List.take s.size (List.map (fun b:UInt8=>Value.int IntKind.u8 (b.toNat:Int)) s.data.toList)=Lib.byteCells s.data.toList:=by rw[List.take_of_length_le (by rw[List.length_map,<-Lib.size_eq];exact Nat.le_refl _)];rfl
 have hst:=Bo (P:=P) g 0 t (Lib.byteCells s.data.toList) 0 cur w #[] hg (by rw[hlen];simpa using hfit) (Lib.byteCells_one _);cases hq:P.info? elem with
 |none=>rw[hq]at hs;cases hs
 |some i=>
  simp[Builtin.copy_,run_underlying hu,Builtin.lenOf,sizeOf,typeInfo,hq,Builtin.firstCells,htk]at h;exact(hst ev h).elim (fun x=>by simp at x) id
theorem xj(w:World)(pt it ty e:TypeId)(hp:P.underlying pt=some (.pointer e))(hc:P.cellsOf e=1)(g cells:Nat)(hsh:w.shape? g=some (e,cells))(l:List UInt8)(h0:l≠ [])(hn:l.length<=cells)(h63:l.length<=9223372036854775807)
 (hcell:∀j x,l[j]?=some x->w.cell? ((⟨g,0,none⟩:Addr).add j)=some (.int .u8 x.toNat)):
 ∀ev∈(Builtin.unsafeString_ #[pt,it] ty #[.pointer (some ⟨g,0,none⟩),.int .i64 l.length]).events P w #[],∃ad,ev=⟨.cell ad,false,false⟩/\ad.block=g:=by
 intro ev h;have hl:l.length≠0:=by simpa using h0
 have hlb:=Lib.run_loadBytes (P:=P) w l ⟨g,0,none⟩ .empty hcell;have hle:=Dz (P:=P) l ⟨g,0,none⟩ .empty w #[] hcell;have hlies:=Lib.liesAt_bytes (P:=P) hc (cells / P.cellsOf e) l.length (by rw[hc];simpa using hn);have h63':¬(9223372036854775807:Int)< (l.length:Int):=by omega
 have afX:IntKind.i64.max=9223372036854775807:=rfl;have hneg:¬(l.length:Int)<0:=by omega
 have afY:Builtin.unsafeString_ #[pt,it] ty #[.pointer (some ⟨g,0,none⟩),.int .i64 l.length]=
  (do
    let n <-asInt (.int .i64 l.length)
    if n<0 then runtimePanic (.error "unsafe.String: len out of range")
    if n > IntKind.i64.max then unsupported (.unsafePointer "String: a length above the largest int")
    if n=0 then pure (.string .empty)
    else if <-variablesAt ⟨g,0,none⟩ (<-elemOf pt) n.toNat then do
     let s <-loadBytes ⟨g,0,none⟩ .empty n.toNat
     freeze ⟨g,0,none⟩ n.toNat
     pure (.string s)
    else unsupported (.unsafePointer "String: not so many bytes at ptr")):=rfl
 rw[afY]at h;simp[asInt,asIntOf,afX,h63',hneg,hl,variablesAt,hsh,elemOf,run_underlying hp,hlies,hlb]at h;exact(hle ev h).elim (fun x=>by simp at x) id
end
end
section
open Go Go.Conc Go.RowKit Go.MuLone
variable {main:Bool}{J:Jm}{L:eg}
@[go_sem] theorem WV (s:ByteArray) (w:World) (es:Array Event):(Builtin.len_ #[9] 3 #[.string s]).events prog w es=es:=by simp[Builtin.len_,run_underlying underlying9]
theorem dO.row(r:Nat)(w:World)(Y:Array Value):dO r w (w.setRow r Y):=⟨rfl,rfl,rfl,by simp,fun i hi=>setRow_other _ _ _ _ hi⟩
theorem dO.freeze(r n:Nat)(w:World):dO r w (w.freeze ⟨r,0,none⟩ n):=by
 unfold World.freeze;split
 ·exact⟨rfl,rfl,rfl,rfl,fun _ _=>rfl⟩
 ·exact⟨rfl,rfl,rfl,by simp,fun i hi=>by simp[Array.getElem?_modify,Ne.symm hi]⟩
theorem cK{L:eg}(h:O.own r){b:Bool}(he:∀e∈es,∃ad,e=⟨.cell ad,b,false⟩/\ad.block=r):∀e∈es,Ec L O e:=by intro e hm;obtain⟨ad,rfl,hb⟩:=he e hm;exact⟨rfl,.inl ⟨ad,rfl,.inl (hb▸h)⟩⟩
theorem bz{R:uK}{D:uL}{fn:Func}{c:Code}{args:Array Value}{Post:au->Value->World->Prop}(hf:P.funcs[f]?=some fn)(hname:(fn.name == "runtime.NumGoroutine")=false)(hb:fn.body=some c)
 (h:cO P main J R D f c n (oF P main J R D 0 f fn Post) O {tmps:=args++Array.replicate (fn.ntmps-args.size) undef,defers:= []} w):bu P main J R D f args n O w Post:=⟨fn,c,n,0,Nat.le_refl _,hf,hname,hb,h⟩
theorem My:∃n,∀(s:ByteArray) (O:au) (w:World),s.size<=1000->L.N<=w.heap.size->
 bu prog main J (RX L) (DX L) 129 #[.string s] n O w fun O' v w'=>v=.string s/\bA L O w O' w':=by
 co_apply Exists.intro;intro s O w hs hN;have hF:bA L O w O w:=bA.refl hN;have hlen:s.data.toList.length=s.size:=(Lib.size_eq s).symm;obtain⟨i0,hi,hz0,LK,OL⟩:=info_parts yX;have hsz:(prog.info? 5).map (·.size)=some 1:=by rw[hi];simp[LK]
 have hco:prog.cellsOf 5=1:=by simp[Program.cellsOf,hi,LK]
 have hmk:=fun W=>yY s.size hs W;have hme:=fun W es=>events_make (P:=prog) W 116 5 i0 (.int .u8 0) underlying116 hi hz0 .i64 .i64 (s.size:Int) (s.size:Int) (by omega) (by omega) (by rw[OL];omega) (by omega) (by rw[OL];omega) es;co_apply bz func129 (by rfl) rfl;walk_nrmf ntmps129;generalize hW:w=W at hF⊢;generalize hO:O=O1 at hF⊢;(repeat(first|co_apply aQ|(co_apply (aP);intro _ hR;replace hF:=hF.rely hR;clear hR;refine⟨by simp[*,go_sem],fun K z=>?_⟩;go_simp;refine z _ ?_;clear z K;try walk_nrm)|((first|co_apply bh|co_apply cx|co_apply cZ|co_apply aO);try co_then)));(co_apply aN (ah L) (t:=((s.size:Int)== 0));focus(simp[Act.eval]))
 ·intro h0;have h0':s.size=0:=by simpa using h0
  obtain rfl:s=⟨#[]⟩:=ByteArray.ext (Array.eq_empty_of_size_eq_zero h0');(repeat(first|co_apply aQ|(co_apply (aP);intro _ hR;replace hF:=hF.rely hR;clear hR;refine⟨by simp[*,go_sem],fun K z=>?_⟩;go_simp;refine z _ ?_;clear z K;try walk_nrm)|((first|co_apply bh|co_apply cx|co_apply cZ|co_apply aO);try co_then)));exact .inl ⟨rfl,_,bP (ah L) (resultsC_tmp (by rfl) _),rfl,by subst hW;subst hO;exact hF⟩
 ·intro h0;(first|co_apply bh|co_apply cx|co_apply cZ|co_apply aO);co_then;(first|co_apply bh|co_apply cx|co_apply cZ|co_apply aO);co_apply aQ;(co_apply (aP);intro _ hR;replace hF:=hF.rely hR;clear hR;refine⟨by simp[go_sem],fun K z=>?_⟩;go_simp;refine z _ ?_;clear z K;try walk_nrm);(co_apply (aP);intro _ hR;replace hF:=hF.rely hR;clear hR;refine⟨by simp[go_sem],fun K z=>?_⟩;go_simp;refine z _ ?_;clear z K;try walk_nrm);co_apply bB rfl (by rfl);intro W1 hR K hK;replace hF:=bA.rely hF hR;clear hR;obtain⟨M,hM,hm⟩:=hmk W1;go_simp;refine hK _ _ ⟨?_,?_⟩
  ·rw[listed_nil (by simp[go_sem,hme])];exact DX.alloc _ _ _
  clear hK K hm;try walk_nrm
  have hr:w.heap.size<=W1.heap.size:=by rw[hW];exact hF.rel.le
  have hG:bA L O1 W (O1.grow W1 (W1.alloc (.cells M 5))) (W1.alloc (.cells M 5))/\OB W1.heap.size (.cells M 5) (O1.grow W1 (W1.alloc (.cells M 5))) (W1.alloc (.cells M 5)):=⟨hF.alloc _,OB.new _ _ _⟩
  clear hF;generalize (O1.grow W1 (W1.alloc (.cells M 5)))=O2 at hG⊢;generalize (W1.alloc (.cells M 5))=W2 at hG⊢;generalize W1.heap.size=r at hG hr⊢;have rl:∀{M:Array Value} {Wa Wb:World},(bA L O1 W O2 Wa/\OB r (.cells M 5) O2 Wa)->RX L O2 Wa Wb->(bA L O1 W O2 Wb/\OB r (.cells M 5) O2 Wb):=fun h x=>⟨h.1.rely x,h.2.rely x⟩
  (co_apply (aP);intro _ hR;replace hG:=rl hG hR;clear hR;refine⟨by simp[go_sem],fun K z=>?_⟩;go_simp;refine z _ ?_;clear z K;try walk_nrm);(first|co_apply bh|co_apply cx|co_apply cZ|co_apply aO);co_then;(first|co_apply bh|co_apply cx|co_apply cZ|co_apply aO);co_apply aQ;(co_apply (aP);intro _ hR;replace hG:=rl hG hR;clear hR;refine⟨by simp[go_sem],fun K z=>?_⟩;go_simp;refine z _ ?_;clear z K;try walk_nrm);(co_apply (aP);intro _ hR;replace hG:=rl hG hR;clear hR;refine⟨by simp[go_sem],fun K z=>?_⟩;go_simp;refine z _ ?_;clear z K;try walk_nrm);co_apply bB rfl (by rfl);intro W3 hR K hK;replace hG:=rl hG hR;clear hR;have Kc:=Lib.run_copy_row_string (P:=prog) W3 116 9 3 5 r 0 s.size s.size s M 5 underlying116 hsz hG.2.heap (Nat.le_refl _) (by omega);have hce:=S7 (P:=prog) W3 116 9 3 5 r s M 5 underlying116 hsz hG.2.heap (by omega) s.size;generalize hY:(M.toList.take 0++Lib.byteCells s.data.toList++M.toList.drop (0+s.size)).toArray=Y at Kc;go_simp;refine hK _ _ ⟨?_,?_⟩
  ·refine DX.own hG.2.own (dO.row r W3 Y) (cK (b:=true) hG.2.own fun e he=>?_);have hm:=mem_listed he;simp[go_sem]at hm;exact hce e hm
  clear hK K;rw[O2.dh (by simp)];try walk_nrm
  have hYl:Y.toList=Lib.byteCells s.data.toList:=by rw[<-hY];simp[<-hM]
  have hYs:Y.size=s.size:=by rw[<-Array.length_toList,hYl,Lib.byteCells_length,hlen]
  clear Kc hce hY;have hH:bA L O1 W O2 (W3.setRow r Y)/\OB r (.cells Y 5) O2 (W3.setRow r Y):=⟨(dO.row r W3 Y).xC hG.1 (by rw[<-hW];exact hr),hG.2.own,setRow_heap _ _ M _ 5 (0,0) hG.2.heap⟩
  clear hG;generalize W3.setRow r Y=W4 at hH⊢;have hp:0<s.size:=by
   rcases Nat.eq_zero_or_pos s.size with h|h
   ·rw[h]at h0;simp at h0
   ·exact h
  (first|co_apply bh|co_apply cx|co_apply cZ|co_apply aO);co_then;(first|co_apply bh|co_apply cx|co_apply cZ|co_apply aO);co_apply aQ;(co_apply (aP);intro _ hR;replace hH:=rl hH hR;clear hR;refine⟨by simp[go_sem],fun K z=>?_⟩;go_simp;refine z _ ?_;clear z K;try walk_nrm);(co_apply (aP);intro _ hR;replace hH:=rl hH hR;clear hR;refine⟨by simp[*,go_sem],fun K z=>?_⟩;go_simp;refine z _ ?_;clear z K;try walk_nrm);(co_apply (aP);intro _ hR;replace hH:=rl hH hR;clear hR;refine⟨by simp[go_sem],fun K z=>?_⟩;go_simp;refine z _ ?_;clear z K;try walk_nrm);(co_apply (aP);intro _ hR;replace hH:=rl hH hR;clear hR;refine⟨by simp[*,go_sem],fun K z=>?_⟩;go_simp;refine z _ ?_;clear z K;try walk_nrm);co_apply bB rfl (by rfl);intro W5 hR K hK;replace hH:=rl hH hR;clear hR;have uH:∀j x,s.data.toList[j]?=some x->W5.cell? ((⟨r,0,none⟩:Addr).add j)=some (.int .u8 x.toNat):=
   fun j x hx=>Lib.cells_of_row hH.2.heap Y.size j _ (by rw[List.take_of_length_le (by rw[Array.length_toList];exact Nat.le_refl _),hYl];simp[Lib.byteCells,hx])
  have hsh:W5.shape? r=some (5,Y.size):=by unfold World.shape?;rw[hH.2.heap]
  have hne:s.data.toList≠ []:=fun e=>by rw[e]at hlen;simp at hlen;omega
  have hus:=Lib.run_unsafeString_row (P:=prog) W5 242 3 9 5 underlying242 hco r Y.size hsh s.data.toList hne (by omega) (by omega) uH;have hue:=xj (P:=prog) W5 242 3 9 5 underlying242 hco r Y.size hsh s.data.toList hne (by omega) (by omega) uH;rw[hlen]at hus hue;go_simp;refine hK _ _ ⟨?_,?_⟩
  ·refine DX.own hH.2.own (dO.freeze r s.size W5) (cK (b:=false) hH.2.own fun e he=>?_);have hm:=mem_listed he;simp[go_sem]at hm;exact hue e hm
  clear hK K;rw[O2.dh (dO.freeze r s.size W5).size];try walk_nrm
  have hE:bA L O1 W O2 (W5.freeze ⟨r,0,none⟩ s.size):=(dO.freeze r s.size W5).xC hH.1 (by rw[<-hW];exact hr);clear hH hus hue uH hsh;generalize W5.freeze ⟨r,0,none⟩ s.size=W6 at hE⊢;(repeat(first|co_apply aQ|(co_apply (aP);intro _ hR;replace hE:=hE.rely hR;clear hR;refine⟨by simp[*,go_sem],fun K z=>?_⟩;go_simp;refine z _ ?_;clear z K;try walk_nrm)|((first|co_apply bh|co_apply cx|co_apply cZ|co_apply aO);try co_then)));exact .inl ⟨rfl,_,bP (ah L) (resultsC_tmp (by rfl) _),rfl,by subst hW;subst hO;exact hE⟩
end
section
open Go Go.Conc Go.ConcM Go.RowKit
variable {main:Bool}{L:eg}{pb:Nat}
structure nF(a:Act)(pb:Nat)(t:Int)(sv aw:Bool)(it:Nat)(old:Wd):Prop where
 d:a.defers= []
 size:a.tmps.size=139
 g0:a.tmps[0]?=some (.pointer (some ⟨pb,0,none⟩))
 g2:a.tmps[2]?=some (.int .i64 t)
 g3:a.tmps[3]?=some (.bool sv)
 g4:a.tmps[4]?=some (.bool aw)
 g5:a.tmps[5]?=some (.int .i64 (it:Nat))
 g6:a.tmps[6]?=some (.int .i32 (old.val:Nat))
theorem gB{ad:Addr}(hq:(P.funcs[fn]?).any (·.norace)=true)(h:(execOp a.eval o).events P w #[]=#[⟨.cell ad,false,false⟩]):listed P fn a o w=#[]:=by unfold listed;rw[h,seen_def,hq];rfl
theorem sV{g:FuncId}{fn':Func}{xs:Array Operand}{ats:Array TypeId}{e:Array Value->Sem Value}(hop:o.op=.call {callee:=.value (.func g),args:=xs,argTypes:=ats})
 (hf:P.funcs[g]?=some fn') (hname:(fn'.name == "runtime.NumGoroutine")=false) (hb:fn'.body.isNone=true) (hn:Extern.findNext fn'=none) (he:Extern.find fn'=some e)
 (hev:(e (xs.map a.eval)).events P w #[⟨.mark (.extern g),false,true⟩]=#[⟨.mark (.extern g),false,true⟩]++evs) (hs:∀x∈evs,x.sync=true/\∀g,x.loc≠.mark (.extern g)):listed P fn a o w=evs:=by unfold listed;rw[execOp_call_func hop,events_callFunc_extern hf hname hb hn he];simp only[List.push_toArray,List.nil_append];rw[hev,seen_entry _ _ _ hs]
def cA:Code->Code
 |.seq x _=>x
 |c=>c
def cB:Code->Code
 |.seq _ y=>y
 |c=>c
def cI:Code->Code
 |.block _ c=>c
 |.loop c=>c
 |c=>c
def cT:Code->Code
 |.cond _ x _=>x
 |c=>c
noncomputable def bJ:Code:=Tryz.f111.body.getD .skip
def cE:Code->Code
 |.cond _ _ y=>y
 |c=>c
noncomputable def dr:Code:=cI (cI (cI (cA (cB (cB (cB (cB (cB bJ))))))))
def spT(old:Wd)(aw sv:Bool)(it:Nat)(ws:Bool):Lk:=if aw=false/\old.w=false/\old.c≠0 then .cw old sv it ws else .rd aw sv (it+1) ws
def Vb(L:eg)(O1:au)(W:World)(pb K:Nat)(O:au)(a:Act)(w:World):Prop:=
 ∃(t:Int) (sv aw:Bool) (it:Nat) (old:Wd),nF a pb t sv aw it old/\old.c<=1000/\it<=4/\dm L O1 W pb K (mz old aw sv it (decide (t≠0))) 0 O w
theorem Ht(w:World):(callFunc 135 #[]).run prog w=.ok (.value (.tuple #[])) w:=by rw[run_callFunc_extern func135 (by kernel_rfl) (by kernel_rfl) (by kernel_rfl) (e:=Extern.Sync.nothing) (by kernel_rfl)];rfl
theorem NL(x:Wd)(aw sv:Bool)(it:Nat)(ws:Bool):gJ (mz x aw sv it ws)=0:=by unfold mz;split<;>rfl
theorem NN(x:Wd)(aw sv:Bool)(it:Nat)(ws:Bool):xy (mz x aw sv it ws) 0=1:=by unfold mz;split<;>rfl
theorem Vd(aw sv:Bool)(it:Nat)(ws:Bool)(x:Wd)(v:Nat):gn (.rd aw sv it ws) 0 x v= [((mz x aw sv it ws,0),x,v)]:=by simp[gn,gK,NL]
theorem CE{Q:ew}{O1:au}{W:World}{k:Nat}{ops:Array Oper}{rest:List Nat}{aw sv ws:Bool}(hS:dm L O1 W pb k (.rd aw sv it ws) 0 O w)
 (ho:ops[i]?=some o) (hw:Region.wanted o (yielded ops a.tmps)=true)
 (hrun:∀w₁ x',w₁.cell? ⟨pb,0,none⟩=some (.int .i32 x')->(execOp a.eval o).run P w₁=.ok (.value (.int .i32 x')) w₁) (hev:∀w₁ x',w₁.cell? ⟨pb,0,none⟩=some (.int .i32 x')->listed P fn a o w₁=#[]) {n1:Nat}
 (k1:∀(O':au) w₁ (x':Wd),x'.c<=1000->dm L O1 W pb (k-1) (mz x' aw sv it ws) 0 O' w₁->bG P main (iX P main pb) (RX L) (DX L) fn ops rest n1 Q O' (a.put o.dst (.int .i32 (x'.val:Nat))) w₁):
 bG P main (iX P main pb) (RX L) (DX L) fn ops (i :: rest) n Q O a w:=
 uJ hS.pos (by simp) ho hw hrun hev (F:=fun x'=>mz x' aw sv it ws) (mm:=fun _=>0) (fun x' v _ _=>Vd aw sv it ws x' v) (fun x'=>NN x' aw sv it ws) fun w₁ hR x' v _ hc _=>k1 _ w₁ x' hc ((hS.rely hR).jump (bl.refl _ _))
theorem ac8:∃n,∀(O1:au) (W:World) (Kf:Nat) (t:Int) (sv aw:Bool) (it:Nat) (old:Wd) (O:au) (a:Act) (w:World) (Q:ew),nF a pb t sv aw it old->old.c<=1000->dm L O1 W pb Kf (mz old aw sv it (decide (t≠0))) 0 O w->
 cO prog main (iX prog main pb) (RX L) (DX L) 111 (cA (cA dr)) n (aX (fun O' a' w'=>nF a' pb t sv aw it old/\∃b:Bool,a'.tmps[20]?=some (.bool b)/\(b=false/\dm L O1 W pb Kf (.rT old aw sv it (decide (t≠0))) 0 O' w'\/b=true/\it<4/\old.l=true/\old.s=false/\dm L O1 W pb (Kf-1) (spT old aw sv it (decide (t≠0))) 0 O' w')) Q) O a w:=by
 co_apply Exists.intro;intro O1 W Kf t sv aw it old O a w Q hl hc hS;dsimp only[dr,bJ,cA,cB,cI,cT,Tryz.f111,Option.getD_some];generalize lY:decide (t≠0)=ws at hS⊢;(obtain⟨hd,hsz,g0,g2,g3,g4,g5,g6⟩:=hl;obtain⟨fv,hT,aj⟩:=fK hd hsz;subst hT;simp only[aj 0 _ g0,aj 2 _ g2,aj 3 _ g3,aj 4 _ g4,aj 5 _ g5,aj 6 _ g6];clear hd hsz aj g0 g2 g3 g4 g5 g6);obtain⟨l,ww,s,c⟩:=old;have h5:=G8 (x:=⟨l,ww,s,c⟩) (by simp at hc⊢;omega);co_apply eX (l=true/\s=false)
 ·intro hsp;obtain⟨rfl,rfl⟩:=hsp;simp only[mz,and_self,if_true]at hS;simp[b1]at h5;(repeat(first|co_apply aQ|(co_apply (aP);intro _ hR;replace hS:=hS.rely hR;clear hR;refine⟨by simp[*,go_sem],fun K z=>?_⟩;go_simp;refine z _ ?_;clear z K;try walk_nrm)|(co_apply aO;try co_then)));co_apply K4 (n:=0) hS.pos rfl (by rfl) rfl func134 (by kernel_rfl) (by kernel_rfl) (by kernel_rfl) (by kernel_rfl) (by first|(walk_nrm;done)|simp[Act.eval]);intro W1 W2 hR hE b hb;replace hS:=(hS.rely hR).jump (T':=(if b=true then(if aw=false/\(⟨true,ww,false,c⟩:Wd).w=false/\(⟨true,ww,false,c⟩:Wd).c≠0 then .cw ⟨true,ww,false,c⟩ sv it ws else .rd aw sv (it+1) ws)else .rT ⟨true,ww,false,c⟩ aw sv it ws)) (m':=0) hE;generalize O.jump O.own _=O2 at hS⊢;clear hE hR;walk_nrm;(repeat(first|co_apply aQ|(co_apply (aP);intro _ hR;replace hS:=hS.rely hR;clear hR;refine⟨by simp[*,go_sem],fun K z=>?_⟩;go_simp;refine z _ ?_;clear z K;try walk_nrm)|(co_apply (qN);try walk_nrm)|(co_apply aO;try co_then)));refine⟨⟨rfl,rfl,rfl,rfl,rfl,rfl,rfl,rfl⟩,b,rfl,?_⟩;cases b with
  |false=>exact .inl ⟨rfl,hS.weak (by omega)⟩
  |true=>exact .inr ⟨rfl,hb rfl,by trivial,by trivial,hS⟩
 ·intro hsp;have YJ:dm L O1 W pb Kf (.rT ⟨l,ww,s,c⟩ aw sv it ws) 0 O w:=by
   have:mz ⟨l,ww,s,c⟩ aw sv it ws=.rT ⟨l,ww,s,c⟩ aw sv it ws:=by simp only[mz];rw[if_neg hsp]
   rwa [this]at hS
  clear hS;have h5':(bits .and .i32 (((⟨l,ww,s,c⟩:Wd).val:Nat):Int) 5 == 1)=false:=by rw[h5];revert hsp;cases l<;>cases s<;>simp[b1]
  clear h5;(repeat(first|co_apply aQ|(co_apply (aP);intro _ hR;replace YJ:=YJ.rely hR;clear hR;refine⟨by simp[*,go_sem],fun K z=>?_⟩;go_simp;refine z _ ?_;clear z K;try walk_nrm)|(co_apply (qN);try walk_nrm)|(co_apply aO;try co_then)));exact⟨⟨rfl,rfl,rfl,rfl,rfl,rfl,rfl,rfl⟩,false,rfl,.inl ⟨rfl,YJ⟩⟩
theorem ac9:∃n,∀(O1:au) (W:World) (Kf:Nat) (t:Int) (sv aw:Bool) (it:Nat) (old:Wd) (O:au) (a:Act) (w:World) (Q:ew),nF a pb t sv aw it old->old.c<=1000->dm L O1 W pb Kf (spT old aw sv it (decide (t≠0))) 0 O w->
 cO prog main (iX prog main pb) (RX L) (DX L) 111 (cA (cA (cT (cB (cA dr))))) n (aX (fun O' a' w'=>nF a' pb t sv aw it old/\∃b:Bool,a'.tmps[41]?=some (.bool b)/\dm L O1 W pb Kf (.rd (aw || b) sv (it+1) (decide (t≠0))) 0 O' w') Q) O a w:=by
 co_apply Exists.intro;intro O1 W Kf t sv aw it old O a w Q hl hc hS;dsimp only[dr,bJ,cA,cB,cI,cT,Tryz.f111,Option.getD_some];generalize lY:decide (t≠0)=ws at hS⊢;(obtain⟨hd,hsz,g0,g2,g3,g4,g5,g6⟩:=hl;obtain⟨fv,hT,aj⟩:=fK hd hsz;subst hT;simp only[aj 0 _ g0,aj 2 _ g2,aj 3 _ g3,aj 4 _ g4,aj 5 _ g5,aj 6 _ g6];clear hd hsz aj g0 g2 g3 g4 g5 g6);obtain⟨l,ww,s,c⟩:=old;have h2:=Nt (x:=⟨l,ww,s,c⟩) (by simp at hc⊢;omega);have hor:=TQ (x:=⟨l,ww,s,c⟩) (by simp at hc⊢;omega);have hsh:=Ep ⟨l,ww,s,c⟩;have hs8:(((⟨l,ww,s,c⟩:Wd).val:Nat):Int)/ 8=((c:Nat):Int):=hsh;simp only at hor hsh hc;simp only[spT]at hS;co_apply eX (aw=true)
 ·intro h;subst h;simp only[Bool.true_eq_false,false_and,if_false]at hS;(repeat(first|co_apply aQ|(co_apply (aP);intro _ hR;replace hS:=hS.rely hR;clear hR;refine⟨by simp[*,go_sem],fun K z=>?_⟩;go_simp;refine z _ ?_;clear z K;try walk_nrm)|(co_apply (qN);try walk_nrm)|(co_apply aO;try co_then)));exact⟨⟨rfl,rfl,rfl,rfl,rfl,rfl,rfl,rfl⟩,false,rfl,hS⟩
 intro TV;obtain rfl:aw=false:=by simpa using TV
 clear TV;co_apply eX (ww=true)
 ·intro h;subst h;simp[b1]at h2;simp only[Bool.true_eq_false,false_and,and_false,if_false]at hS;(repeat(first|co_apply aQ|(co_apply (aP);intro _ hR;replace hS:=hS.rely hR;clear hR;refine⟨by simp[*,go_sem],fun K z=>?_⟩;go_simp;refine z _ ?_;clear z K;try walk_nrm)|(co_apply (qN);try walk_nrm)|(co_apply aO;try co_then)));exact⟨⟨rfl,rfl,rfl,rfl,rfl,rfl,rfl,rfl⟩,false,rfl,hS⟩
 intro hww;obtain rfl:ww=false:=by simpa using hww
 clear hww;simp[b1]at h2;co_apply eX (c=0)
 ·intro h;subst h;simp only[ne_eq,not_true,and_false,if_false]at hS;(repeat(first|co_apply aQ|(co_apply (aP);intro _ hR;replace hS:=hS.rely hR;clear hR;refine⟨by simp[*,go_sem],fun K z=>?_⟩;go_simp;refine z _ ?_;clear z K;try walk_nrm)|(co_apply (qN);try walk_nrm)|(co_apply aO;try co_then)));exact⟨⟨rfl,rfl,rfl,rfl,rfl,rfl,rfl,rfl⟩,false,rfl,hS⟩
 intro hc0;have hc1:((((c:Nat):Int)== 0)=false):=by simp;omega
 have hc2:((((c:Nat):Int)!= 0)=true):=by simp;omega
 simp only[ne_eq,hc0,not_false_eq_true,and_self,if_true]at hS;(repeat(first|co_apply aQ|(co_apply (aP);intro _ hR;replace hS:=hS.rely hR;clear hR;refine⟨by simp[*,go_sem],fun K z=>?_⟩;go_simp;refine z _ ?_;clear z K;try walk_nrm)|(co_apply (qN);try walk_nrm)|(co_apply aO;try co_then)));co_apply sR (n:=0) (old:=⟨l,false,s,c⟩) (nw:=⟨l,true,s,c⟩) (T1:=.rd true sv (it+1) ws) (T2:=.rd false sv (it+1) ws) hS.pos (by simp) rfl rfl (by rfl) rfl func108 (by kernel_rfl) (by kernel_rfl) (by kernel_rfl) (by kernel_rfl) (by rfl) (by rfl) (by rfl) (fun v _=>by simp[gn,gK,gJ]) (fun x v hx _=>by simp[gn,gK,gJ,hx]) rfl rfl
 ·intro W1 hR v hM _;replace hS:=(hS.rely hR).jump (T':=.rd true sv (it+1) ws) (m':=0) (bl.set pb W1 0 (.int .i32 ((⟨l,true,s,c⟩:Wd).val:Nat)) (by omega));simp only[gJ];generalize O.jump O.own _=O2 at hS⊢;clear hR hM;generalize W1.setCell _ _=W2 at hS⊢;walk_nrm;(repeat(first|co_apply aQ|(co_apply (aP);intro _ hR;replace hS:=hS.rely hR;clear hR;refine⟨by simp[*,go_sem],fun K z=>?_⟩;go_simp;refine z _ ?_;clear z K;try walk_nrm)|(co_apply (qN);try walk_nrm)|(co_apply aO;try co_then)));exact⟨⟨rfl,rfl,rfl,rfl,rfl,rfl,rfl,rfl⟩,true,rfl,hS.weak (by omega)⟩
 ·intro W1 hR x v hx hM _;replace hS:=(hS.rely hR).jump (T':=.rd false sv (it+1) ws) (m':=0) (bl.refl pb W1);simp only[gJ];generalize O.jump O.own _=O2 at hS⊢;clear hR hM hx;walk_nrm;(repeat(first|co_apply aQ|(co_apply (aP);intro _ hR;replace hS:=hS.rely hR;clear hR;refine⟨by simp[*,go_sem],fun K z=>?_⟩;go_simp;refine z _ ?_;clear z K;try walk_nrm)|(co_apply (qN);try walk_nrm)|(co_apply aO;try co_then)));exact⟨⟨rfl,rfl,rfl,rfl,rfl,rfl,rfl,rfl⟩,false,rfl,hS.weak (by omega)⟩
theorem adb:∃n,∀(O1:au) (W:World) (Kf:Nat) (t:Int) (sv aw:Bool) (it:Nat) (old:Wd) (O:au) (a:Act) (w:World) (Q:ew),nF a pb t sv aw it old->it<4->dm L O1 W pb Kf (.rd aw sv (it+1) (decide (t≠0))) 0 O w->Hid (∀O' a' w',Vb L O1 W pb (Kf-1) O' a' w'->Q O' (.exit 1) a' w')->
 cO prog main (iX prog main pb) (RX L) (DX L) 111 (cB (cT (cB (cA dr)))) n (Q) O a w:=by
 co_apply Exists.intro;intro O1 W Kf t sv aw it old O a w Q hl hit hS hQ;have hds:=Ht;dsimp only[dr,bJ,cA,cB,cI,cT,Tryz.f111,Option.getD_some];generalize lY:decide (t≠0)=ws at hS;(obtain⟨hd,hsz,g0,g2,g3,g4,g5,g6⟩:=hl;obtain⟨fv,hT,aj⟩:=fK hd hsz;subst hT;simp only[aj 0 _ g0,aj 2 _ g2,aj 3 _ g3,aj 4 _ g4,aj 5 _ g5,aj 6 _ g6];clear hd hsz aj g0 g2 g3 g4 g5 g6);have aiV:IntKind.i64.wrap ((it:Int)+1)=((it+1:Nat):Int):=by rw[IntKind.wrap_i64];omega
 (repeat(first|co_apply aQ|((first|co_apply bh|co_apply jF|co_apply aO);try co_then)));(co_apply aC rfl (by rfl);intro _ hR K hK;replace hS:=dm.rely hS hR;clear hR;(skip);go_simp;refine hK _ ⟨?_,?_⟩;(focus(rw[sV (evs:=#[]) rfl func135 (by kernel_rfl) (by kernel_rfl) (by kernel_rfl) (e:=Extern.Sync.nothing) (by kernel_rfl) (by rfl) (by simp)];exact DX.idle _ _));clear hK K;try walk_nrm);(repeat(first|co_apply aQ|(co_apply (aP);intro _ hR;replace hS:=hS.rely hR;clear hR;refine⟨by simp[*,go_sem],fun K z=>?_⟩;go_simp;refine z _ ?_;clear z K;try walk_nrm)|((first|co_apply bh|co_apply jF|co_apply aO);try co_then)));co_apply CE (n:=0) hS rfl (by rfl) (fun _ _ hx=>run_eq_of (by intro K hK;go_simp;exact hK)) (fun _ _ hx=>gB (ad:=⟨pb,0,none⟩) (by rfl) (by simp[go_sem,hx]));intro O2 W1 x hx fE;walk_nrm;(repeat(first|co_apply aQ|(co_apply (aP);intro _ hR;replace fE:=fE.rely hR;clear hR;refine⟨by simp[*,go_sem],fun K z=>?_⟩;go_simp;refine z _ ?_;clear z K;try walk_nrm)|((first|co_apply bh|co_apply jF|co_apply aO);try co_then)));refine hQ.out _ _ _ ⟨t,sv,aw,it+1,x,⟨rfl,rfl,rfl,rfl,rfl,rfl,rfl,rfl⟩,hx,by omega,?_⟩;rw[lY];exact fE
end
end Go.Proofs.YteoahlieielcdaaGreat
