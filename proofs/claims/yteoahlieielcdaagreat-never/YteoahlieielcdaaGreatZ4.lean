import Derived.Test.YteoahlieielcdaaGreatBase
import Derived.Conc.LoneCalls
import Derived.Conc.ClockLaws
import Derived.Test.YteoahlieielcdaaGreatRows
set_option linter.all false
set_option maxHeartbeats 2000000
set_option maxRecDepth 100000
namespace Go.Proofs.YteoahlieielcdaaGreat
open Go.Proofs.Tryz
abbrev zbf:=@Nat.le_refl
abbrev zbg:=@Array.getElem?_eq_some_iff
abbrev zbh:=@Array.getElem?_setIfInBounds_ne
abbrev zbi:=@List.mem_cons_of_mem
abbrev zbj:=@Option.bind_eq_some_iff
abbrev zbk:=@Array.all_eq_true_iff_forall_mem
abbrev zbl:=@Array.foldl_toList
abbrev zbm:=@Array.getD_eq_getD_getElem?
abbrev zbn:=@Array.mem_toList_iff
abbrev zbo:=@List.append_cancel_right
abbrev zbp:=@List.contains_iff_mem
abbrev zbq:=@List.mem_cons
abbrev zbr:=@List.mem_cons_self
abbrev zbs:=@Nat.eq_zero_or_pos
abbrev zbt:=@Nat.lt_or_ge
abbrev zbu:=@Option.map_eq_some_iff
variable{P:aB}{Q:ak->List ak->af->Prop}{ρ:aD->aj}{o:Oper}{b sy:Bool}{v x y:aj}{at_ k a:aA}{v1 w w' w1 v2:af}{l:List aA}{h:Halt}{r i n d:Nat}{es es' wh:Array aC}{c:Call}{f:ay}{m:Mark}{s:Sem Next}{is:List Nat}{fr' fr fZ cl:ak}{e:Array aj->Sem aj}{fn:Func}{g g1:au}{cs c' c1:List ak}{δ:Nat->Nat}{pos:String}{t:Trace}{gs:Array au}
section
open Go
def pR(op:BinOp)(k:IntKind)(x y:Int):NM (Op.intArith op k x y):=by unfold Op.intArith;(repeat' (first|(with_reducible first|exact NM.pure' _|exact gU ..)|dsimp only|split|intro _))
def I0(op:BinOp)(k:IntKind)(x y:Int):NM (Op.intBits op k x y):=by unfold Op.intBits;(repeat' (first|(with_reducible first|exact NM.pure' _|exact gU ..)|dsimp only|split|intro _))
end
section
open Go
def tT:Op->Bool
 |.move _|.assign _|.pick _ _ _|.alloc _|.box _ _|.build _ _|.buildSlice _ _ _|.load _ _|.store _ _ _|.nilCheck _|.binOp _ _ _ _ _|.unOp _ _ _|.makeInterface _ _
 |.makeFunc _ _ _|.makeMap _ _|.makeSlice _ _ _|.slice _ _ _ _ _|.fieldAddr _ _ _|.field _ _ _|.indexAddr _ _ _|.index _ _ _|.lookup _ _ _ _|.mapUpdate _ _ _ _|.range _ _|.next _ _|.entry _|.extract _ _|.panic _=>true
 |.convert s d _=>!(s == d)
 |_=>false
def Io:Builtin->Bool
 |.len|.append|.copy|.delete|.max|.unsafeString=>true
 |_=>false
inductive gA{α:Type}(Q:α->Prop):Sem α->Prop
 |pure {a:α}:Q a->gA Q (.pure a)
 |load {m:Mode} {a:aA} {k:aj->Sem α}:(∀v,gA Q (k v))->gA Q (.load m a k)
 |store {m:Mode} {a:aA} {v:aj} {k:Sem α}:gA Q k->gA Q (.store m a v k)
 |new {o:Obj} {k:Nat->Sem α}:(∀r,gA Q (k r))->gA Q (.new o k)
 |shape {r:Nat} {k:Option (az×Nat)->Sem α}:(∀s,gA Q (k s))->gA Q (.shape r k)
 |freeze {a:aA} {n:Nat} {k:Sem α}:gA Q k->gA Q (.freeze a n k)
 |frozen {a:aA} {k:Bool->Sem α}:(∀b,gA Q (k b))->gA Q (.frozen a k)
 |getObj {r:Nat} {k:Obj->Sem α}:(∀o,gA Q (k o))->gA Q (.getObj r k)
 |setObj {r:Nat} {o:Obj} {k:Sem α}:gA Q k->gA Q (.setObj r o k)
 |choose {q:Question} {k:Nat->Sem α}:(∀n,gA Q (k n))->gA Q (.choose q k)
 |sys {c:Sys} {k:SysRet->Sem α}:(∀r,gA Q (k r))->gA Q (.sys c k)
 |program {k:aB->Sem α}:(∀p,gA Q (k p))->gA Q (.program k)
 |mark {m:Mark} {k:Sem α}:gA Q k->gA Q (.mark m k)
 |halt {h:Halt}:gA Q (.halt h)
def iK{α β:Type}{Q:β->Prop}(s:Sem α){f:α->Sem β}(hf:∀a,gA Q (f a)):gA Q (s >>= f):=by
 show gA Q (s.bind f);induction s with
 |pure a=>exact hf a
 |load _ _ _ ih=>exact .load fun v=>ih v
 |store _ _ _ _ ih=>exact .store ih
 |new _ _ ih=>exact .new fun r=>ih r
 |shape _ _ ih=>exact .shape fun r=>ih r
 |freeze _ _ _ ih=>exact .freeze ih
 |frozen _ _ ih=>exact .frozen fun r=>ih r
 |getObj _ _ ih=>exact .getObj fun r=>ih r
 |setObj _ _ _ ih=>exact .setObj ih
 |choose _ _ ih=>exact .choose fun r=>ih r
 |sys _ _ ih=>exact .sys fun r=>ih r
 |program _ ih=>exact .program fun r=>ih r
 |mark _ _ ih=>exact .mark ih
 |halt _=>exact .halt
def gA.out{α:Type}{Q:α->Prop}{s:Sem α}(h:gA Q s):∀{w:af} {es:Array aC} {a:α} {w':af} {es':Array aC},s.runT P w es=(.ok a w',es')->Q a:=by
 induction h with
 |pure h=>intro w es a w' es' hr;cases hr;exact h
 |load _ ih=>intro w es a w' es' hr;simp only[Sem.runT]at hr;split at hr;exact ih _ hr;split at hr;exact ih _ hr;cases hr
 |store _ ih=>
  intro w es a w' es' hr;rename_i m b v k _;cases v<;>simp only[Sem.runT]at hr<;>first|(cases hr;done)|(split at hr<;>split at hr<;>first|(cases hr;done)|exact ih hr)
 |new _ ih=>intro w es a w' es' hr;exact ih _ hr
 |shape _ ih=>intro w es a w' es' hr;exact ih _ hr
 |freeze _ ih=>intro w es a w' es' hr;exact ih hr
 |frozen _ ih=>intro w es a w' es' hr;exact ih _ hr
 |getObj _ ih=>intro w es a w' es' hr;simp only[Sem.runT]at hr;split at hr;cases hr;exact ih _ hr;cases hr
 |setObj _ ih=>intro w es a w' es' hr;simp only[Sem.runT]at hr;split at hr;cases hr;exact ih hr;cases hr
 |choose _ ih=>intro w es a w' es' hr;simp only[Sem.runT]at hr;split at hr<;>exact ih _ hr
 |sys _ ih=>intro w es a w' es' hr;exact ih _ hr
 |program _ ih=>intro w es a w' es' hr;exact ih _ hr
 |mark _ ih=>intro w es a w' es' hr;exact ih hr
 |halt=>intro w es a w' es' hr;cases hr
def wX(n:Next):Prop:=(∃v,n=.value v)\/n=.skip
def zz(s:Sem aj):gA wX (do pure (Next.value (<-s)):Sem Next):=iK s fun _=>.pure (.inl ⟨_,rfl⟩)
def MH(s:Sem Unit):gA wX (do s;pure Next.skip:Sem Next):=iK s fun _=>.pure (.inr rfl)
def zn{Q:Next->Prop}:gA Q (runtimePanic RuntimeError.nilDeref:Sem Next):=by unfold runtimePanic;exact iK _ fun _=>.halt
def Mv(h:tT o.op=true):gA wX (execOp ρ o):=by
 unfold execOp;cases ho:o.op<;>rw[ho]at h<;>first|(cases h;done)|skip
 case nilCheck x=>
  dsimp only;repeat' (first|exact zn|exact .pure (.inl ⟨_,rfl⟩)|exact .halt|with_reducible refine iK _ (fun _=>?_)|split)
 all_goals first
  |exact .pure (.inl ⟨_,rfl⟩)
  |exact zz _|exact MH _
  |exact iK _ fun _=>.pure (.inl ⟨_,rfl⟩)
def Dc{b:Builtin}(h:Io b=true)(a:Array az)(t:az)(c:Array Bool)(x:Array aj):gA wX (builtin b a t c x):=by unfold builtin;cases b<;>first|(cases h;done)|exact zz _
end
section
open Go
def fL{α β:Type}(s:Sem α)(f:α->Sem β):∀(w:af) (es:Array aC),(s >>= f).runT P w es=match s.runT P w es with|(.ok a w',es')=>(f a).runT P w' es'|(.halt h w',es')=>(.halt h w',es'):=by
 show∀(w:af) (es:Array aC),(s.bind f).runT P w es=_;induction s with
 |pure a=>intro w es;rfl
 |load m a k ih=>
  intro w es;simp only[Sem.bind,Sem.runT];cases w.cell? a with
  |some v=>exact ih _ _ _
  |none=>
   simp only;cases w.farLoad P a (m == .atomic)with
   |ok x=>exact ih _ _ _
   |error h=>rfl
 |store m a v k ih=>
  intro w es;cases v<;>simp only[Sem.bind,Sem.runT]<;>first
   |rfl
   |(cases w.cell? a with
     |some x=>
      simp only
      split
      ·rfl
      ·exact ih _ _
     |none=>
      simp only
      split
      ·exact ih _ _
      ·rfl)
 |new o k ih=>intro w es;exact ih _ _ _
 |shape r k ih=>intro w es;exact ih _ _ _
 |freeze a n k ih=>intro w es;exact ih _ _
 |frozen a k ih=>intro w es;exact ih _ _ _
 |getObj r k ih=>
  intro w es;simp only[Sem.bind,Sem.runT];split
  ·rfl
  ·exact ih _ _ _
  ·rfl
 |setObj r o k ih=>
  intro w es;simp only[Sem.bind,Sem.runT];split
  ·rfl
  ·exact ih _ _
  ·rfl
 |choose q k ih=>
  intro w es;simp only[Sem.bind,Sem.runT];split
  ·exact ih _ _ _
  ·exact ih _ _ _
 |sys c k ih=>intro w es;exact ih _ _ _
 |program k ih=>intro w es;exact ih _ _ _
 |mark m k ih=>intro w es;exact ih _ _
 |halt h=>intro w es;rfl
end
section
open Go
structure cx(Sb:Nat->Prop)(v w:af):Prop where
 size:v.heap.size=w.heap.size
 same:∀i,¬Sb i->v.heap[i]?=w.heap[i]?
 gF:∀i,Sb i->∃c t,c.size≠0/\v.heap[i]?=some (.pending c t)/\w.heap[i]?=some (.cells c t (0,0))
 os:v.os=w.os
 out:v.output=w.output
def EvP(Sb:Nat->Prop)(e:aC):Prop:=∀x a,(MemAct.ofEvent e).touch?=some x->x.loc=.cell a->x.kind=.plain->¬Sb a.block
def EvQ(Sb:Nat->Prop)(qt:Prop)(e:aC):Prop:=EvP Sb e/\(qt->e.loc≠.mark .disable/\e.loc≠.mark .enable)
structure aG(P:aB)(Sb:Nat->Prop)(qt:Prop){α:Type}(s:Sem α):Prop where
 yC:∀{v w:af} {x:α} {v':af},cx Sb v w->s.run P v=.ok x v'->JL v w (v'.drawn-v.drawn)->∀es,∃w' es',s.runT P w es=(.ok x w',es')/\cx Sb v' w'/\w'.tape=w.tape/\w'.drawn=w.drawn+(v'.drawn-v.drawn)/\∀e∈es',e∈es\/EvQ Sb qt e
structure oy(P:aB){α:Type}(s:Sem α):Prop where
 no:∀(v:af) (x:α) (v':af),s.run P v≠.ok x v'
section
variable {P:aB}{Sb:Nat->Prop}{qt:Prop}{α β:Type}
def run_bind{s:Sem α}{f:α->Sem β}(w:af):(s >>= f).run P w=match s.run P w with|.ok a w'=>(f a).run P w'|.halt h w'=>.halt h w':=by
 have h:=congrArg Prod.fst (fL (P:=P) s f w #[]);rw[Sem.runT_fst]at h;rw[h,<-Sem.runT_fst P s w #[]];cases hs:s.runT P w #[]with
 |mk r es=>
  cases r with
  |ok a w'=>simp only;rw[Sem.runT_fst]
  |halt h w'=>rfl
def yD{α:Type}:∀(k:Ask α) (v:af),(v.ask k).2.tape=v.tape/\v.drawn<=(v.ask k).2.drawn
 |.done a,v=>⟨rfl,zbf _⟩
 |.ask what range k,v=>by
  unfold World.ask;dsimp only;split
  ·exact yD (k 0) v
  ·obtain⟨h1,h2⟩:=yD (k ((Question.extern what range).cut (v.tape v.drawn (Question.extern what range)))) {v with drawn:=v.drawn+1};exact⟨h1,by simp only at h2;omega⟩
def Qg(c:Sys)(v:af):(v.sys c).2.tape=v.tape/\v.drawn<=(v.sys c).2.drawn:=by
 unfold World.sys;have h:=yD (Kernel.perform c v.os) v;split
 ·exact⟨rfl,zbf _⟩
 ·rename_i h1;rw[h1]at h;exact h
def iZ(v:af)(a:aA)(n:Nat):(v.freeze a n).tape=v.tape/\(v.freeze a n).drawn=v.drawn:=by unfold World.freeze;split<;>exact⟨rfl,rfl⟩
def yE{v:af}{u:az}(h:v.viewStore P at_ u k x b=.ok (v1,l)):v1.tape=v.tape/\v1.drawn=v.drawn:=by
 unfold World.viewStore at h;simp only[bind,Except.bind,pure,Except.pure]at h;repeat' (split at h)
 all_goals first|(cases h;done)|(cases h;exact⟨rfl,rfl⟩)
def mL(s:Sem α):∀{v:af} {x:α} {v':af},s.run P v=.ok x v'->v'.tape=v.tape/\v.drawn<=v'.drawn:=by
 induction s with
 |pure _=>intro v x v' hr;cases hr;exact⟨rfl,zbf _⟩
 |load _ _ _ ih=>intro v x v' hr;simp only[Sem.run]at hr;split at hr;exact ih _ hr;split at hr;exact ih _ hr;cases hr
 |store m a y k ih=>
  have key:∀{v:af} {x:α} {v':af} {y:aj},((match v.cell? a with
   |some _=>if v.frozen? a then .halt (.unsupported (.unsafePointer "a write to bytes that a string shares")) v else k.run P (v.setCell a y)
   |none=>match v.farStore P a y (m == .atomic)with
    |.ok (w,_)=>k.run P w
    |.error h=>.halt h v):Result α)=.ok x v'->v'.tape=v.tape/\v.drawn<=v'.drawn:=by
   intro v x v' y hr
   split at hr
   ·split at hr
    ·cases hr
    ·have:=ih hr;exact this
   ·split at hr
    ·rename_i w1 l hf
     unfold World.farStore at hf
     split at hf
     ·split at hf
      ·rename_i r hv
       cases hf
       obtain⟨e1,e2⟩:=yE hv
       obtain⟨h1,h2⟩:=ih hr
       exact⟨h1.trans e1,by omega⟩
      ·cases hf
     ·cases hf
    ·cases hr
  intro v x v' hr;cases y<;>simp only[Sem.run]at hr<;>first|(cases hr;done)|exact key hr
 |new _ _ ih=>intro v x v' hr;have:=ih _ hr;exact this
 |shape _ _ ih=>intro v x v' hr;exact ih _ hr
 |freeze a n _ ih=>intro v x v' hr;have:=ih hr;rw[(iZ v a n).1,(iZ v a n).2]at this;exact this
 |frozen _ _ ih=>intro v x v' hr;exact ih _ hr
 |getObj _ _ ih=>intro v x v' hr;simp only[Sem.run]at hr;split at hr;cases hr;exact ih _ hr;cases hr
 |setObj _ _ _ ih=>intro v x v' hr;simp only[Sem.run]at hr;split at hr;cases hr;(have:=ih hr;exact this);cases hr
 |choose _ _ ih=>
  intro v x v' hr;simp only[Sem.run]at hr;split at hr
  ·exact ih _ hr
  ·obtain⟨h1,h2⟩:=ih _ hr;exact⟨h1,by simp only at h2;omega⟩
 |sys c _ ih=>
  intro v x v' hr;obtain⟨h1,h2⟩:=ih _ hr;obtain⟨h3,h4⟩:=Qg c v;exact⟨h1.trans h3,by omega⟩
 |program _ ih=>intro v x v' hr;exact ih _ hr
 |mark _ _ ih=>intro v x v' hr;exact ih hr
 |halt _=>intro v x v' hr;cases hr
def aG.bind{s:Sem α}{f:α->Sem β}(h:aG P Sb qt s)(hf:∀a,aG P Sb qt (f a)):aG P Sb qt (s >>= f):=by
 constructor;intro v w x v' hs hr hg es;rw[run_bind]at hr;cases h1:s.run P v with
 |halt _ _=>rw[h1]at hr;cases hr
 |ok a v1=>
  rw[h1]at hr;simp only at hr;obtain⟨t1,d1⟩:=mL s h1;obtain⟨t2,d2⟩:=mL (f a) hr;obtain⟨w1,wh,q1,q2,q3,q4,q5⟩:=h.yC hs h1 (fun k hk q=>hg k (by omega) q) es;obtain⟨w2,wV,r1,r2,r3,r4,r5⟩:=(hf a).yC q2 hr (fun k hk q=>by have:=hg (k+(v1.drawn-v.drawn)) (by omega) q;rw[t1,q3,q4,show v1.drawn+k=v.drawn+(k+(v1.drawn-v.drawn)) by omega,show w.drawn+(v1.drawn-v.drawn)+k=w.drawn+(k+(v1.drawn-v.drawn)) by omega];exact this) wh
  refine⟨w2,wV,by rw[fL,q1];exact r1,r2,r3.trans q3,by omega,fun e he=>?_⟩;rcases r5 e he with h3|h3
  ·exact q5 e h3
  ·exact .inr h3
def aG.pZ{s:Sem α}(h:oy P s):aG P Sb qt s:=⟨fun _ hr _=>absurd hr (h.no _ _ _)⟩
def p8:oy P (.halt h:Sem α):=⟨fun _ _ _ h=>by cases h⟩
def nJ(s:String):oy P (stuck s:Sem α):=p8
def tI(u:Unsupported):oy P (unsupported u:Sem α):=p8
def kR(v:aj):oy P (goPanic v:Sem α):=p8
def kr{s:Sem α}{f:α->Sem β}(h:∀a,oy P (f a)):oy P (s >>= f):=⟨fun v x v' hr=>by
 rw[run_bind]at hr;split at hr
 ·exact(h _).no _ _ _ hr
 ·cases hr⟩
def kS{s:Sem α}{f:α->Sem β}(h:oy P s):oy P (s >>= f):=⟨fun v x v' hr=>by
 rw[run_bind]at hr;split at hr
 ·rename_i h1;exact h.no _ _ _ h1
 ·cases hr⟩
def aG.pure{a:α}:aG P Sb qt (.pure a:Sem α):=⟨fun hs hr _ es=>by
 cases hr;exact⟨_,es,rfl,hs,rfl,by omega,fun e he=>.inl he⟩⟩
def aG.pure'(a:α):aG P Sb qt (Pure.pure a:Sem α):=aG.pure
def aG.halt{h:Halt}:aG P Sb qt (.halt h:Sem α):=.pZ p8
def yF{wr:Bool}(h:¬Sb a.block):EvQ Sb qt ⟨.cell a,wr,sy⟩:=⟨fun x b hx hl _=>by have e:MemAct.ofEvent ⟨.cell a,wr,sy⟩=.access ⟨.cell a,wr,sy⟩:=rfl;rw[e]at hx;simp only[MemAct.touch?,Option.some.injEq]at hx;subst hx;cases hl;exact h,fun _=>⟨by simp,by simp⟩⟩
def CK{wr:Bool}:EvQ Sb qt ⟨.obj r,wr,sy⟩:=⟨fun x b hx hl _=>by
 cases wr<;>cases sy<;>simp[MemAct.ofEvent,MemAct.touch?]at hx<;>(subst hx;cases hl),fun _=>⟨by simp,by simp⟩⟩
def lF{e0:aC}(h0:EvQ Sb qt e0)(h:∀e∈es',e∈es.push e0\/EvQ Sb qt e):∀e∈es',e∈es\/EvQ Sb qt e:=fun e he=>(h e he).elim (fun h1=>(Array.mem_push.1 h1).elim .inl fun e1=>.inr (e1▸h0)) .inr
def Qh{wr:Bool}(h0:∀a∈l,¬Sb a.block)(h:∀e∈es',e∈es++l.toArray.map (fun a=>(⟨.cell a,wr,sy⟩:aC))\/EvQ Sb qt e):∀e∈es',e∈es\/EvQ Sb qt e:=fun e he=>(h e he).elim (fun h1=>(Array.mem_append.1 h1).elim .inl fun e1=>by obtain⟨a,ha,rfl⟩:=Array.mem_map.1 e1;exact .inr (yF (h0 a (by simpa using ha)))) .inr
end
section
variable {Sb:Nat->Prop}{v w:af}
def cx.lt(h:cx Sb v w)(hi:Sb i):i<w.heap.size:=by obtain⟨c,t,_,_,h2⟩:=h.gF i hi;exact(zbg.1 h2).1
def cx.cell(h:cx Sb v w){a:aA}{x:aj}(hc:v.cell? a=some x):¬Sb a.block/\w.cell? a=some x:=by
 have hn:¬Sb a.block:=fun hs=>by obtain⟨c,t,_,h1,_⟩:=h.gF a.block hs;simp[World.cell?,h1]at hc
 refine⟨hn,?_⟩;rw[<-hc];simp[World.cell?,h.same _ hn]
def cx.Vp(h:cx Sb v w)(hn:¬Sb a.block):w.cell? a=v.cell? a:=by simp[World.cell?,h.same _ hn]
def cx.modify(h:cx Sb v w)(r:Nat)(g:Obj->Obj)(hr:¬Sb r):cx Sb {v with heap:=v.heap.modify r g} {w with heap:=w.heap.modify r g}:=by
 refine⟨by simp[h.size],fun i hi=>?_,fun i hi=>?_,h.os,h.out⟩
 ·simp only[Array.getElem?_modify];rw[h.same i hi]
 ·obtain⟨c,t,h0,h1,h2⟩:=h.gF i hi;have e:r≠i:=fun e=>hr (e▸hi);simp only[Array.getElem?_modify];exact⟨c,t,h0,by simp[e,h1],by simp[e,h2]⟩
def cx.set(h:cx Sb v w)(a:aA)(x:aj)(ha:¬Sb a.block):cx Sb (v.setCell a x) (w.setCell a x):=by unfold World.setCell;exact h.modify a.block _ ha
def cx.frz(h:cx Sb v w)(a:aA)(n:Nat)(ha:¬Sb a.block):cx Sb (v.freeze a n) (w.freeze a n):=by
 unfold World.freeze;split
 ·exact h
 ·exact h.modify a.block _ ha
def cx.new(h:cx Sb v w)(o:Obj):cx Sb {v with heap:=v.heap.push o} {w with heap:=w.heap.push o}:=by
 refine⟨by simp[h.size],fun i hi=>?_,fun i hi=>?_,h.os,h.out⟩
 ·simp only[Array.getElem?_push,h.size];rw[h.same i hi]
 ·have hl:=h.lt hi;obtain⟨c,t,h0,h1,h2⟩:=h.gF i hi;refine⟨c,t,h0,?_,?_⟩
  ·simp only[Array.getElem?_push,h.size];rw[if_neg (by omega)];exact h1
  ·simp only[Array.getElem?_push];rw[if_neg (by omega)];exact h2
def cx.obj(h:cx Sb v w)(r:Nat)(o:Obj)(hr:¬Sb r):cx Sb {v with heap:=v.heap.setIfInBounds r o} {w with heap:=w.heap.setIfInBounds r o}:=by
 refine⟨by simp[h.size],fun i hi=>?_,fun i hi=>?_,h.os,h.out⟩
 ·simp only[Array.getElem?_setIfInBounds,h.size];rw[h.same i hi]
 ·have:r≠i:=fun e=>hr (e▸hi);obtain⟨c,t,h0,h1,h2⟩:=h.gF i hi;exact⟨c,t,h0,by rw[zbh this];exact h1,by rw[zbh this];exact h2⟩
def cx.draw(h:cx Sb v w)(n m:Nat):cx Sb {v with drawn:=n} {w with drawn:=m}:=⟨h.size,h.same,h.gF,h.os,h.out⟩
end
end
section
open Go
section
variable {P:aB}{Sb:Nat->Prop}{qt:Prop}{α β:Type}
def JN{v:af}(he:v.heap[at_.block]?=w.heap[at_.block]?)(u:az)(k:aA)(b:Bool):v.seen P at_ u k b=w.seen P at_ u k b:=by unfold World.seen;rw[he]
def seen_cells{v:af}{u:az}{c:Array aj}{e:az}{f:Nat×Nat}{first:Nat}{like:aj}{cells:List (Nat×Nat×List UInt8)}(h:v.seen P at_ u k b=.ok (c,e,f,first,like,cells)):v.heap[at_.block]?=some (.cells c e f):=by
 unfold World.seen at h;simp only[bind,Except.bind,pure,Except.pure]at h;repeat' (split at h)
 all_goals first|(cases h;done)|skip
 all_goals(first|(cases h;assumption)|skip)
def CN{v:af}(hs:cx Sb v w){u:az}(h:v.viewLoad P at_ u k b=.ok (x,l)):w.viewLoad P at_ u k b=.ok (x,l)/\∀a∈l,¬Sb a.block:=by
 have h0:=h;unfold World.viewLoad at h;cases hq:v.seen P at_ u k b with
 |error e=>rw[hq]at h;cases h
 |ok y=>
  obtain⟨c,e,f,first,like,cells⟩:=y;have hn:¬Sb at_.block:=fun hb=>by obtain⟨c',t',_,h1,_⟩:=hs.gF _ hb;rw[seen_cells hq]at h1;cases h1
  refine⟨?_,?_⟩
  ·rw[<-h0];unfold World.viewLoad;rw[JN (hs.same _ hn)]
  ·rw[hq]at h;simp only[bind,Except.bind,pure,Except.pure]at h;split at h
   ·cases h;intro a ha;obtain⟨z,_,rfl⟩:=List.mem_map.1 ha;exact hn
   ·cases h
def Aa{v:af}(hs:cx Sb v w){u:az}(h:v.viewStore P at_ u k x b=.ok (v1,l)):(∃o,v1={v with heap:=v.heap.setIfInBounds at_.block o}/\w.viewStore P at_ u k x b=.ok ({w with heap:=w.heap.setIfInBounds at_.block o},l))/\¬Sb at_.block/\∀a∈l,¬Sb a.block:=by
 unfold World.viewStore at h⊢;by_cases ht:Go.tight P P.depth u=true
 ·simp only[ht,Bool.not_true,Bool.false_eq_true,if_false,bind,Except.bind,pure,Except.pure]at h⊢;cases hq:v.seen P at_ u k b with
  |error e=>rw[hq]at h;cases h
  |ok y=>
   obtain⟨c,e,f,first,like,cells⟩:=y;have hn:¬Sb at_.block:=fun hb=>by obtain⟨c',t',_,h1,_⟩:=hs.gF _ hb;rw[seen_cells hq]at h1;cases h1
   rw[hq]at h;rw[<-JN (hs.same _ hn),hq];simp only at h⊢;cases hb:x.bytes? with
   |none=>rw[hb]at h;cases h
   |some bytes=>
    rw[hb]at h;simp only at h⊢;split at h
    ·cases h
    ·rename_i hlen;rw[if_neg hlen];split at h
     ·cases h
     ·rename_i c2 hc2;cases h;refine⟨⟨.cells c2 e f,rfl,?_⟩,hn,fun a ha=>?_⟩
      ·rfl
      ·obtain⟨z,_,rfl⟩:=List.mem_map.1 ha;exact hn
 ·simp only[ht,Bool.not_false,if_true,bind,Except.bind]at h;cases h
def EY{m:Mode}{k:aj->Sem α}(hk:∀x,aG P Sb qt (k x)):aG P Sb qt (.load m a k):=by
 constructor;intro v w x v' hs hr hg es;simp only[Sem.run]at hr;simp only[Sem.runT];cases hc:v.cell? a with
 |some y=>
  rw[hc]at hr;obtain⟨hn,hw⟩:=hs.cell hc;rw[hw];obtain⟨w',es',h1,h2,h3,h4,h5⟩:=(hk y).yC hs hr hg (es.push ⟨.cell a,false,m == .atomic⟩);exact⟨w',es',h1,h2,h3,h4,lF (yF hn) h5⟩
 |none=>
  rw[hc]at hr;simp only at hr;have hn:¬Sb a.block:=fun hb=>by obtain⟨c,t,_,h1,_⟩:=hs.gF _ hb;simp[World.farLoad,h1]at hr
  rw[hs.Vp hn,hc];simp only;unfold World.farLoad at hr⊢;rw[<-hs.same _ hn];cases ho:v.heap[a.block]? with
  |none=>simp[ho]at hr
  |some ob=>
   cases ob with
   |view at_ u=>
    simp only[ho]at hr⊢;cases hv:v.viewLoad P at_ u a (m == .atomic)with
    |error e=>rw[hv]at hr;simp at hr
    |ok y=>
     obtain⟨x1,l⟩:=y;rw[hv]at hr;simp only at hr;obtain⟨hw,hl⟩:=CN hs hv;rw[hw];simp only;obtain⟨w',es',h1,h2,h3,h4,h5⟩:=(hk x1).yC hs hr hg (es++l.toArray.map (⟨.cell ·,false,m == .atomic⟩));exact⟨w',es',h1,h2,h3,h4,Qh hl h5⟩
   |_=>simp[ho]at hr
def CO{m:Mode}{k:Sem α}(hk:aG P Sb qt k):aG P Sb qt (.store m a y k):=by
 have key:∀{v w:af} {x:α} {v':af} {y:aj},cx Sb v w->((match v.cell? a with
  |some _=>if v.frozen? a then .halt (.unsupported (.unsafePointer "a write to bytes that a string shares")) v else k.run P (v.setCell a y)
  |none=>match v.farStore P a y (m == .atomic)with
   |.ok (w,_)=>k.run P w
   |.error h=>.halt h v):Result α)=.ok x v'->JL v w (v'.drawn-v.drawn)->∀es,∃w' es',((match w.cell? a with
   |some _=>if w.frozen? a then(.halt (.unsupported (.unsafePointer "a write to bytes that a string shares")) w,es)else k.runT P (w.setCell a y) (es.push ⟨.cell a,true,m == .atomic⟩)
   |none=>match w.farStore P a y (m == .atomic)with
    |.ok (w,touched)=>k.runT P w (es++touched.toArray.map (⟨.cell ·,true,m == .atomic⟩))
    |.error h=>(.halt h w,es)):Result α×Array aC)=(.ok x w',es')/\cx Sb v' w'/\w'.tape=w.tape/\w'.drawn=w.drawn+(v'.drawn-v.drawn)/\∀e∈es',e∈es\/EvQ Sb qt e:=by
  intro v w x v' y hs hr hg es
  cases hc:v.cell? a with
  |some z=>
   rw[hc]at hr;simp only at hr;obtain⟨hn,hw⟩:=hs.cell hc;rw[hw];have hf:w.frozen? a=v.frozen? a:=by simp[World.frozen?,hs.same _ hn]
   simp only[hf];split at hr
   ·cases hr
   ·rename_i hfz;rw[if_neg hfz];obtain⟨w',es',h1,h2,h3,h4,h5⟩:=hk.yC (hs.set a y hn) hr hg (es.push ⟨.cell a,true,m == .atomic⟩);exact⟨w',es',h1,h2,h3,h4,lF (yF hn) h5⟩
  |none=>
   rw[hc]at hr;simp only at hr;have hn:¬Sb a.block:=fun hb=>by obtain⟨c,t,_,h1,_⟩:=hs.gF _ hb;simp[World.farStore,h1]at hr
   rw[hs.Vp hn,hc];simp only;unfold World.farStore at hr⊢;rw[<-hs.same _ hn];cases ho:v.heap[a.block]? with
   |none=>simp[ho]at hr
   |some ob=>
    cases ob with
    |view at_ u=>
     simp only[ho]at hr⊢;cases hv:v.viewStore P at_ u a y (m == .atomic)with
     |error e=>rw[hv]at hr;simp at hr
     |ok z=>
      obtain⟨v1,l⟩:=z;rw[hv]at hr;simp only at hr;obtain⟨⟨o,rfl,hw⟩,hnb,hl⟩:=Aa hs hv;rw[hw];simp only;obtain⟨w',es',h1,h2,h3,h4,h5⟩:=hk.yC (hs.obj _ o hnb) hr hg (es++l.toArray.map (⟨.cell ·,true,m == .atomic⟩));exact⟨w',es',h1,h2,h3,h4,Qh hl h5⟩
    |_=>simp[ho]at hr
 constructor;intro v w x v' hs hr hg es;cases y<;>simp only[Sem.run]at hr<;>simp only[Sem.runT]<;>first|(cases hr;done)|exact key hs hr hg es
def yJ{o:Obj}{k:Nat->Sem α}(hk:∀r,¬Sb r->aG P Sb qt (k r)):aG P Sb qt (.new o k):=by
 constructor;intro v w x v' hs hr hg es;simp only[Sem.run]at hr;simp only[Sem.runT];have hn:¬Sb v.heap.size:=fun hb=>by have:=hs.lt hb;rw[<-hs.size]at this;omega
 rw[<-hs.size];exact(hk _ hn).yC (hs.new o) hr hg es
def CP{k:Option (az×Nat)->Sem α}(hk:∀s,¬Sb r->aG P Sb qt (k s))(hp:oy P (k none)):aG P Sb qt (.shape r k):=by
 constructor;intro v w x v' hs hr hg es;simp only[Sem.run]at hr;simp only[Sem.runT];have hn:¬Sb r:=fun hb=>by obtain⟨c,t,_,h1,_⟩:=hs.gF _ hb;simp only[World.shape?,h1]at hr;exact hp.no _ _ _ hr
 have e:w.shape? r=v.shape? r:=by simp only[World.shape?,hs.same _ hn]
 rw[e];exact(hk _ hn).yC hs hr hg es
def Ab{k:Sem α}(ha:¬Sb a.block)(hk:aG P Sb qt k):aG P Sb qt (.freeze a n k):=by constructor;intro v w x v' hs hr hg es;simp only[Sem.run]at hr;simp only[Sem.runT];obtain⟨w',es',h1,h2,h3,h4,h5⟩:=hk.yC (hs.frz a n ha) hr (by unfold JL at hg⊢;rw[(iZ v _ _).2,(iZ w _ _).2,(iZ v _ _).1,(iZ w _ _).1];exact hg) es;rw[(iZ w _ _).1]at h3;rw[(iZ w _ _).2,(iZ v _ _).2]at h4;exact⟨w',es',h1,h2,h3,h4,h5⟩
def cx.frozen{v w:af}(hs:cx Sb v w)(a:aA):w.frozen? a=v.frozen? a:=by
 by_cases hb:Sb a.block
 ·obtain⟨c,t,_,h1,h2⟩:=hs.gF _ hb;simp[World.frozen?,h1,h2]
 ·simp only[World.frozen?,hs.same _ hb]
def Ac{k:Bool->Sem α}(hk:∀b,aG P Sb qt (k b)):aG P Sb qt (.frozen a k):=by constructor;intro v w x v' hs hr hg es;simp only[Sem.run]at hr;simp only[Sem.runT];rw[hs.frozen];exact(hk _).yC hs hr hg es
def Ae{k:Obj->Sem α}(hk:∀o,¬Sb r->aG P Sb qt (k o))(hp:∀c t,oy P (k (.pending c t))):aG P Sb qt (.getObj r k):=by
 constructor;intro v w x v' hs hr hg es;simp only[Sem.run]at hr;simp only[Sem.runT];have hn:¬Sb r:=fun hb=>by obtain⟨c,t,_,h1,_⟩:=hs.gF _ hb;simp only[h1]at hr;exact(hp _ _).no _ _ _ hr
 rw[<-hs.same r hn];split at hr
 ·cases hr
 ·obtain⟨w',es',h1,h2,h3,h4,h5⟩:=(hk _ hn).yC hs hr hg _;exact⟨w',es',h1,h2,h3,h4,lF CK h5⟩
 ·cases hr
def Af{o:Obj}{k:Sem α}(hr:¬Sb r)(hk:aG P Sb qt k):aG P Sb qt (.setObj r o k):=by
 constructor;intro v w x v' hs hrun hg es;simp only[Sem.run]at hrun;simp only[Sem.runT];rw[<-hs.same r hr];split at hrun
 ·cases hrun
 ·obtain⟨w',es',h1,h2,h3,h4,h5⟩:=hk.yC (hs.obj r o hr) hrun hg _;exact⟨w',es',h1,h2,h3,h4,lF CK h5⟩
 ·cases hrun
def Ag{q:Question}{k:Nat->Sem α}(hk:∀n,aG P Sb qt (k n)):aG P Sb qt (.choose q k):=by
 constructor;intro v w x v' hs hr hg es;simp only[Sem.run]at hr;simp only[Sem.runT];split at hr
 ·rename_i hq;rw[if_pos hq];exact(hk _).yC hs hr hg es
 ·rename_i hq;rw[if_neg hq];obtain⟨_,hd⟩:=mL _ hr;simp only at hd;have e0:w.tape w.drawn q=v.tape v.drawn q:=(hg 0 (by omega) q).symm;rw[e0];obtain⟨w',es',h1,h2,h3,h4,h5⟩:=(hk _).yC (hs.draw (v.drawn+1) (w.drawn+1)) hr (fun j hj q'=>by have:=hg (j+1) (by simp only at hj;omega) q';simp only;rw[show v.drawn+1+j=v.drawn+(j+1) by omega,show w.drawn+1+j=w.drawn+(j+1) by omega];exact this) es
  exact⟨w',es',h1,h2,h3,by simp only at h4;omega,h5⟩
def yK{k:aB->Sem α}(hk:aG P Sb qt (k P)):aG P Sb qt (.program k):=by constructor;intro v w x v' hs hr hg es;exact hk.yC hs hr hg es
def EZ(m:Mark)(wr sy:Bool)(h:qt->m≠.disable/\m≠.enable):EvQ Sb qt ⟨.mark m,wr,sy⟩:=⟨fun x a hx _ hk=>by
 have e:MemAct.ofEvent ⟨.mark m,wr,sy⟩=.mark m:=by cases wr<;>cases sy<;>rfl
 rw[e]at hx;cases m<;>simp[MemAct.touch?]at hx<;>(subst hx;cases hk),fun hq=>by simpa using h hq⟩
def pI{k:Sem α}(hm:qt->m≠.disable/\m≠.enable)(hk:aG P Sb qt k):aG P Sb qt (.mark m k):=by constructor;intro v w x v' hs hr hg es;obtain⟨w',es',h1,h2,h3,h4,h5⟩:=hk.yC hs hr hg (es.push ⟨.mark m,false,true⟩);exact⟨w',es',h1,h2,h3,h4,lF (EZ _ _ _ hm) h5⟩
end
end
section
open Go
variable {P:aB}{Sb:Nat->Prop}{qt:Prop}
def cY{p:Prop}(h:p:=by(repeat' (first|with_reducible exact aG.pure' _|with_reducible exact aG.pure|with_reducible exact aG.halt|with_reducible exact JO ..|with_reducible exact jP ..|with_reducible exact LU ..|with_reducible exact uN ..|with_reducible exact uO ..|with_reducible exact rH ..|with_reducible exact Ib ..|with_reducible exact mN ..|with_reducible exact X8 ..|with_reducible exact Qm ..|with_reducible exact LV|with_reducible exact Bl ..|with_reducible exact E4 ..|with_reducible exact Ic ..|with_reducible exact E5 ..|with_reducible exact wj ..|with_reducible exact LW ..|with_reducible exact nK ..|with_reducible exact E6 ..|with_reducible exact E7 ..|with_reducible exact pJ ..|with_reducible exact lH ..|with_reducible exact gu ..|with_reducible exact Ie ..|with_reducible exact CQ ..|with_reducible exact Bm ..|with_reducible exact Qn ..|with_reducible exact CR ..|with_reducible exact qH ..|with_reducible exact rI ..|with_reducible exact E8 ..|with_reducible exact LX ..|with_reducible exact LY ..|with_reducible exact LZ ..|with_reducible exact JP ..|with_reducible exact iB ..|with_reducible exact yL ..|with_reducible exact Ig ..|with_reducible exact tK ..|with_reducible exact uP ..|with_reducible exact E9 ..|with_reducible exact Qo ..|with_reducible exact gx ..|with_reducible exact L1 ..|with_reducible exact L2 ..|with_reducible exact qI ..|with_reducible exact tN ..|with_reducible exact yM ..|with_reducible exact Fa ..|with_reducible exact uQ ..|with_reducible exact rJ ..|with_reducible exact rK ..|with_reducible exact rL ..|with_reducible exact Ah ..|with_reducible exact yN ..|with_reducible exact Qp ..|with_reducible exact rM ..|with_reducible exact Ih ..|with_reducible exact yO ..|with_reducible exact lS ..|with_reducible exact jD ..|with_reducible exact vE ..|with_reducible exact rN ..|with_reducible exact nM ..|with_reducible exact yP ..|with_reducible exact yQ ..|with_reducible exact rO ..|with_reducible exact Qq ..|with_reducible exact tO ..|with_reducible exact vF ..|with_reducible exact qJ ..|with_reducible exact Ii ..|with_reducible exact uR ..|with_reducible exact wo ..|with_reducible exact nN ..|with_reducible exact yR ..|with_reducible exact CS ..|with_reducible exact yS ..|with_reducible exact rP ..|with_reducible exact uS ..|with_reducible exact lG ..|with_reducible exact yI ..|with_reducible exact L3 ..|with_reducible exact L4 ..|with_reducible exact Qr ..|with_reducible exact Ai ..|with_reducible exact Fb ..|with_reducible exact pK ..|with_reducible exact X9 ..|with_reducible exact TN ..|with_reducible exact TP ..|with_reducible exact TQ ..|with_reducible exact TR ..|with_reducible exact TS ..|with_reducible exact Ij ..|with_reducible exact CU ..|with_reducible exact Fc ..|with_reducible exact CV ..|with_reducible exact Fe ..|with_reducible exact yT ..|with_reducible exact CW ..|with_reducible exact Ik ..|with_reducible exact Il ..|with_reducible exact Im ..|with_reducible exact Ff ..|with_reducible exact Aj ..|with_reducible exact Ak ..|with_reducible exact wu ..|with_reducible exact qu ..|with_reducible exact yU ..|with_reducible exact uT ..|with_reducible exact uU ..|with_reducible exact uV ..|with_reducible exact uW ..|with_reducible exact Bn ..|with_reducible exact uX ..|with_reducible exact CX ..|with_reducible exact yV ..|with_reducible exact wy ..|with_reducible exact rQ ..|with_reducible exact yX ..|with_reducible exact rR ..|with_reducible exact Qs ..|with_reducible exact Al ..|with_reducible exact Bo ..|with_reducible exact JQ ..|with_reducible exact Bp ..|with_reducible exact Qt ..|with_reducible exact TT ..|with_reducible exact Qu ..|with_reducible exact oh ..|with_reducible exact ih ..|with_reducible exact L5 (by assumption)|with_reducible exact L6 (by assumption)|with_reducible exact uY (by assumption)|with_reducible exact yY (by assumption)|with_reducible exact vG (by assumption)|with_reducible exact mO (by assumption)|with_reducible refine aG.bind (yY (by assumption)) (fun _=>?_)|with_reducible refine aG.bind (vG (by assumption)) (fun _=>?_)|with_reducible refine Fg (fun _ _=>?_) (fun _ _=>?_)|with_reducible refine Am (fun _ _=>?_) ?_|with_reducible exact nJ _|with_reducible exact tI _|with_reducible exact kR _|with_reducible exact kS (nJ _)|with_reducible exact kS (tI _)|with_reducible refine kr (fun _=>?_)|with_reducible refine nP ?_|with_reducible exact qK|with_reducible exact lI|with_reducible refine aG.bind (mO (by assumption)) (fun _=>?_)|with_reducible refine qv (fun _ _=>?_) ?_|with_reducible refine yZ ?_|with_reducible refine y5 (fun _ _=>?_)|with_reducible refine uZ (fun _=>?_)|with_reducible refine aG.bind ?_ (fun _=>?_)|with_reducible refine Qv ?_|with_reducible refine TU (fun _ _=>?_)|with_reducible refine TV (fun _ _=>?_)|with_reducible refine Fh (fun _=>?_)|with_reducible refine Fi (fun _ _=>?_)|with_reducible refine y7 ?_ ?_|dsimp only|split|intro _))):p:=h
def JO(a:aA)(m:Mode):aG P Sb qt (load a m):=EY fun _=>.pure
def jP(a:aA)(v:aj)(m:Mode):aG P Sb qt (store a v m):=CO .pure
def LU(o:Obj):aG P Sb qt (newObj o):=yJ fun _ _=>.pure
def Am{β:Type}{k:Option (az×Nat)->Sem β}(hk:∀s,¬Sb r->aG P Sb qt (k s))(hp:oy P (k none)):aG P Sb qt (shape r >>= k):=CP hk hp
def L6(h:¬Sb a.block):aG P Sb qt (freeze a n):=Ab h .pure
def uN(a:aA):aG P Sb qt (frozen a):=Ac fun _=>.pure
def Fg{β:Type}{k:Obj->Sem β}(hk:∀o,¬Sb r->aG P Sb qt (k o))(hp:∀c t,oy P (k (.pending c t))):aG P Sb qt (getObj r >>= k):=Ae hk hp
def L5{o:Obj}(h:¬Sb r):aG P Sb qt (setObj r o):=Af h .pure
def uO(q:Question):aG P Sb qt (choose q):=Ag fun _=>.pure
def rH:aG P Sb qt program:=yK .pure
def mN{α:Type}(s:String):aG P Sb qt (stuck s:Sem α):=.halt
def X8{α:Type}(u:Unsupported):aG P Sb qt (unsupported u:Sem α):=.halt
def Qm{α:Type}(v:aj):aG P Sb qt (goPanic v:Sem α):=.halt
def Ib(n:Nat):aG P Sb qt (askRoom n):=by unfold askRoom;split;exact pI (fun _=>by simp) .pure;exact .pure
def LV:aG P Sb qt (mark .noRoom):=pI (fun _=>by simp) .pure
def nP{α β:Type}{a:α}{f:α->Sem β}(h:aG P Sb qt (f a)):aG P Sb qt (Pure.pure a >>= f):=h
def qK{α β:Type}{s:String}{f:α->Sem β}:aG P Sb qt ((stuck s:Sem α)>>= f):=.pZ (kS (nJ _))
def lI{α β:Type}{u:Unsupported}{f:α->Sem β}:aG P Sb qt ((unsupported u:Sem α)>>= f):=.pZ (kS (tI _))
def yZ{α:Type}{s s':Sem α}(h:oy P s'):oy P (if false=true then s else s'):=by rw[if_neg (by simp)];exact h
def tP(P:aB)(a:aA)(u:az)(n:Nat)(w:af):Bool:=match w.shape? a.block with|some (e,cells)=>liesAt P P.depth e (cells / P.cellsOf e) a.off u n|none=>false
def mP(a:aA)(u:az)(n:Nat)(w:af)(es:Array aC):(variablesAt a u n).runT P w es=(.ok (tP P a u n w) w,es):=by
 unfold tP;have e:(variablesAt a u n).runT P w es=(match w.shape? a.block with|some (e,cells)=>(Pure.pure (liesAt P P.depth e (cells / P.cellsOf e) a.off u n):Sem Bool)|none=>Pure.pure false).runT P w es:=rfl;rw[e];cases w.shape? a.block with
 |none=>rfl
 |some x=>rfl
def qv{β:Type}{u:az}{f:Bool->Sem β}(h:∀q,¬Sb a.block->aG P Sb qt (f q))(hp:oy P (f false)):aG P Sb qt (variablesAt a u n >>= f):=by
 constructor;intro v w x v' hs hr hg es;rw[run_bind,<-Sem.runT_fst P _ v #[],mP]at hr;simp only at hr;have hn:¬Sb a.block:=fun hb=>by
  obtain⟨c,t,_,h3,_⟩:=hs.gF _ hb;have e:tP P a u n v=false:=by simp[tP,World.shape?,h3]
  rw[e]at hr;exact hp.no _ _ _ hr
 have hb:tP P a u n w=tP P a u n v:=by simp only[tP,World.shape?,hs.same _ hn]
 obtain⟨w',es',g1,g2,g3,g4,g5⟩:=(h _ hn).yC hs hr hg es;exact⟨w',es',by rw[fL,mP,hb];exact g1,g2,g3,g4,g5⟩
def qw{β:Type}{u:az}{s:Sem β}(h:aG P Sb qt s):aG P Sb qt (variablesAt a u n >>= fun _=>s):=by constructor;intro v w x v' hs hr hg es;rw[run_bind,<-Sem.runT_fst P _ v #[],mP]at hr;obtain⟨w',es',g1,g2,g3,g4,g5⟩:=h.yC hs hr hg es;exact⟨w',es',by rw[fL,mP];exact g1,g2,g3,g4,g5⟩
def y5{β:Type}{t:az}{c:Array aj}{f:aA->Sem β}(h:∀a,¬Sb a.block->aG P Sb qt (f a)):aG P Sb qt (newRow t c >>= f):=yJ (o:=.cells c t) fun r hr=>h ⟨r,0,none⟩ hr
def uZ{β:Type}{a b c:Nat}{x:Option aA}{f:Bool->Sem β}(h:∀q,oy P (f q)):aG P Sb qt (Builtin.mayShare a b c x v >>= f):=.pZ (kr h)
def tQ{α:Type}{s:Sem α}(h0:¬Sb r->aG P Sb qt s)(h1:Sb r->∀(v w:af) (x:α) (v':af),cx Sb v w->s.run P v=.ok x v'->v'=v/\∀es,s.runT P w es=(.ok x w,es)):aG P Sb qt s:=by
 by_cases hb:Sb r
 ·constructor;intro v w x v' hs hr hg es;obtain⟨rfl,h2⟩:=h1 hb v w x v' hs hr;exact⟨w,es,h2 es,hs,rfl,by omega,fun e he=>.inl he⟩
 ·exact h0 hb
def y7{α:Type}{c:Prop}[Decidable c]{s s':Sem α}(h:aG P Sb qt s)(h':aG P Sb qt s'):aG P Sb qt (if c then s else s'):=by split;exact h;exact h'
def Qv{α β:Type}{s:Sem α}{f:α->β}(h:aG P Sb qt s):aG P Sb qt (f<$> s):=aG.bind (f:=fun a=>Pure.pure (f a)) h fun _=>.pure
def Fi{α β:Type}{f:β->α->Sem β}(h:∀b a,aG P Sb qt (f b a)):∀{l:List α} {b:β},aG P Sb qt (l.foldlM f b)
 | [],b=>.pure
 |a :: l,b=>by rw[List.foldlM_cons];exact aG.bind (h _ _) fun _=>Fi h
def CY{α β:Type}{f:α->β->Sem (ForInStep β)}(h:∀a b,aG P Sb qt (f a b)):∀{l:List α} {b:β},aG P Sb qt (forIn l b f)
 | [],b=>.pure
 |a :: l,b=>by
  rw[List.forIn_cons];refine aG.bind (h _ _) fun s=>?_;cases s with
  |done=>exact .pure
  |yield=>exact CY h
def TU{α β:Type}{f:α->β->Sem (ForInStep β)}(h:∀a b,aG P Sb qt (f a b)){l:Array α}{b:β}:aG P Sb qt (forIn l b f):=by rw[<-Array.forIn_toList];exact CY h
def TV{β:Type}{f:Nat->β->Sem (ForInStep β)}(h:∀a b,aG P Sb qt (f a b)){l:Std.Legacy.Range}{b:β}:aG P Sb qt (forIn l b f):=by rw[Std.Legacy.Range.forIn_eq_forIn_range'];exact CY h
def Fj{α β:Type}{f:α->Sem β}(h:∀a,aG P Sb qt (f a)):∀{l:List α},aG P Sb qt (l.mapM f)
 | []=>.pure
 |a :: l=>by rw[List.mapM_cons];exact aG.bind (h _) fun _=>aG.bind (Fj h) fun _=>.pure
def Fh{α β:Type}{f:α->Sem β}(h:∀a,aG P Sb qt (f a)){l:Array α}:aG P Sb qt (l.mapM f):=by rw[Array.mapM_eq_mapM_toList];exact Qv (Fj h)
def yY(h:¬Sb r):aG P Sb qt (shape r):=by
 constructor;intro v w x v' hs hr hg es;have e:w.shape? r=v.shape? r:=by simp only[World.shape?,hs.same _ h]
 cases hr;exact⟨w,es,by show (Result.ok (w.shape? r) w,es)=_;rw[e],hs,rfl,by omega,fun e he=>.inl he⟩
def vG(h:¬Sb r):aG P Sb qt (getObj r):=by
 constructor;intro v w x v' hs hr hg es;simp only[getObj,Sem.run]at hr;simp only[getObj,Sem.runT];rw[<-hs.same r h];split at hr
 ·cases hr
 ·cases hr;exact⟨w,_,rfl,hs,rfl,by omega,lF CK fun e he=>.inl he⟩
 ·cases hr
def mQ(hb:Sb r){v:af}(hs:cx Sb v w):∃c t,c.size≠0/\v.heap[r]?=some (.pending c t)/\v.shape? r=none/\w.shape? r=some (t,c.size):=by obtain⟨c,t,h0,h1,h2⟩:=hs.gF r hb;exact⟨c,t,h0,h1,by simp[World.shape?,h1],by simp[World.shape?,h2]⟩
def Bl(r:Nat):aG P Sb qt (viewAt r):=by
 refine tQ (r:=r) (fun hn=>?_) (fun hb v w x v' hs hr=>?_)
 ·unfold viewAt;exact cY
 ·obtain⟨c,t,h0,h1,h2,h3⟩:=mQ hb hs;have e:(viewAt r).run P v=.ok none v:=by show Sem.run P (Sem.shape r fun s=>_) v=_;simp only[Sem.run,h2];show Sem.run P (Sem.getObj r fun o=>_) v=_;simp only[Sem.run,h1];rfl
  rw[e]at hr;cases hr;refine⟨rfl,fun es=>?_⟩;show Sem.runT P (Sem.shape r fun s=>_) w es=_;simp only[Sem.runT,h3];rfl
def E4(r:Nat):aG P Sb qt (numberAt r):=by
 refine tQ (r:=r) (fun hn=>?_) (fun hb v w x v' hs hr=>?_)
 ·unfold numberAt;exact cY
 ·obtain⟨c,t,h0,h1,h2,h3⟩:=mQ hb hs;have e:(numberAt r).run P v=.ok none v:=by show Sem.run P (Sem.shape r fun s=>_) v=_;simp only[Sem.run,h2];show Sem.run P (Sem.getObj r fun o=>_) v=_;simp only[Sem.run,h1];rfl
  rw[e]at hr;cases hr;refine⟨rfl,fun es=>?_⟩;show Sem.runT P (Sem.shape r fun s=>_) w es=_;simp only[Sem.runT,h3];rfl
def Ic(r:Nat):aG P Sb qt (cellsIn r):=by
 refine tQ (r:=r) (fun hn=>?_) (fun hb v w x v' hs hr=>?_)
 ·unfold cellsIn;exact cY
 ·obtain⟨c,t,h0,h1,h2,h3⟩:=mQ hb hs;have e:(cellsIn r).run P v=.ok (some c.size) v:=by show Sem.run P (Sem.shape r fun s=>_) v=_;simp only[Sem.run,h2];show Sem.run P (Sem.getObj r fun o=>_) v=_;simp only[Sem.run,h1];rfl
  rw[e]at hr;cases hr;refine⟨rfl,fun es=>?_⟩;show Sem.runT P (Sem.shape r fun s=>_) w es=_;simp only[Sem.runT,h3];rfl
def uY(h:¬Sb a.block):aG P Sb qt (markStringish a):=by unfold markStringish;exact cY
def pL(hb:Sb r){v:af}(hs:cx Sb v w)(a:aA)(ha:a.block=r):v.frozen? a=false/\w.frozen? a=false:=by subst ha;obtain⟨c,t,h0,h1,h2⟩:=hs.gF _ hb;simp[World.frozen?,h1,h2]
def nK(a:aA):aG P Sb qt (stringish a):=by
 refine tQ (r:=a.block) (fun hn=>?_) (fun hb v w x v' hs hr=>?_)
 ·unfold stringish;exact cY
 ·obtain⟨c,t,h0,h1,h2,h3⟩:=mQ hb hs;have e:(stringish a).run P v=.ok false v:=by show Sem.run P (Sem.frozen a fun s=>_) v=_;simp only[Sem.run,(pL hb hs a rfl).1];show Sem.run P (Sem.shape a.block fun o=>_) v=_;simp only[Sem.run,h2];rfl
  rw[e]at hr;cases hr;refine⟨rfl,fun es=>?_⟩;show Sem.runT P (Sem.frozen a fun s=>_) w es=_;simp only[Sem.runT,(pL hb hs a rfl).2];show Sem.runT P (Sem.shape a.block fun o=>_) w es=_;simp only[Sem.runT,h3];show Sem.runT P (Sem.frozen _ fun s=>_) w es=_;simp only[Sem.runT,(pL hb hs ⟨a.block,c.size,none⟩ rfl).2]
def JR(r:Nat):aG P Sb qt (do pure ((<-shape r) matches some (_,0)):Sem Bool):=by
 refine tQ (r:=r) (fun hn=>?_) (fun hb v w x v' hs hr=>?_)
 ·exact cY
 ·obtain⟨c,t,h0,h1,h2,h3⟩:=mQ hb hs;have e:(do pure ((<-shape r) matches some (_,0)):Sem Bool).run P v=.ok false v:=by show Sem.run P (Sem.shape r fun s=>_) v=_;simp only[Sem.run,h2];rfl
  rw[e]at hr;cases hr;refine⟨rfl,fun es=>?_⟩;show Sem.runT P (Sem.shape r fun s=>_) w es=_;simp only[Sem.runT,h3];cases hc:c.size with
  |zero=>exact absurd hc h0
  |succ n=>rfl
def E6(a b:aA):aG P Sb qt (mayBeOne a b):=by unfold mayBeOne;dsimp only;refine aG.bind (nK a) fun sa=>aG.bind (nK b) fun sb=>?_;exact aG.bind (JR a.block) fun _=>aG.bind (JR b.block) fun _=>aG.pure' _
def mO{u:az}(h:¬Sb a.block):aG P Sb qt (variablesAt a u n):=by unfold variablesAt;exact cY
def E5(a:aA)(b:Bool):aG P Sb qt (asNumber a b):=by unfold asNumber;exact cY
def wj(a:aA):aG P Sb qt (behindNumber a):=by unfold behindNumber;exact cY
def LW(a:aA):aG P Sb qt (noView a):=by unfold noView;exact cY
def E7(a b:aA):aG P Sb qt (sameAddr a b):=by unfold sameAddr;exact cY
def pJ(a b:Option aA):aG P Sb qt (samePointer a b):=by unfold samePointer;exact cY
def lH(t:az):aG P Sb qt (typeInfo t):=by unfold typeInfo;exact cY
def gu(t:az):aG P Sb qt (underlying t):=by unfold underlying;exact cY
def Ie(t:az):aG P Sb qt (typeStr t):=by unfold typeStr;exact cY
def CQ(t:az):aG P Sb qt (zeroValue t):=by unfold zeroValue;exact cY
def Bm(t:az):aG P Sb qt (sizeOf t):=by unfold sizeOf;exact cY
def Qn(t:az):aG P Sb qt (isAgg t):=by unfold isAgg;exact cY
def mR(a:aA):∀(n i:Nat) (acc:Array aj),aG P Sb qt (loadCellsFrom a i n acc)
 | 0,i,acc=>aG.pure
 |n+1,i,acc=>by unfold loadCellsFrom;exact aG.bind (JO ..) fun _=>mR a n _ _
def CR(a:aA)(n:Nat):aG P Sb qt (loadCells a n):=mR a n 0 #[]
def qH(a:aA):∀(vs:List aj) (i:Nat),aG P Sb qt (storeCells a vs i)
 | [],i=>.pure
 |v :: vs,i=>by unfold storeCells;exact aG.bind (jP ..) fun _=>qH a vs _
def rI(t:az)(a:aA):aG P Sb qt (loadVar t a):=by unfold loadVar;exact cY
def E8(t:az)(a:aA)(v:aj):aG P Sb qt (storeVar t a v):=by unfold storeVar;exact cY
def LX(t:az)(c:Array aj):aG P Sb qt (newRow t c):=by unfold newRow;exact cY
def LY(t:az)(v:aj):aG P Sb qt (newVar t v):=by unfold newVar;exact cY
def LZ(t:az):aG P Sb qt (elemOf t):=by unfold elemOf;exact cY
def JP(t:az)(cs:Array aj)(n:Nat):aG P Sb qt (part t cs n):=by unfold part;exact cY
def iB{α:Type}(e:RuntimeError):aG P Sb qt (runtimePanic e:Sem α):=by unfold runtimePanic;exact cY
def yL{α:Type}(k:IntKind)(x y:Int)(c:BoundsCode):aG P Sb qt (boundsPanic k x y c:Sem α):=by unfold boundsPanic;exact cY
def Ig(v:aj):aG P Sb qt (asIntOf v):=by unfold asIntOf;exact cY
def tK(v:aj):aG P Sb qt (asInt v):=by unfold asInt;exact cY
def uP(v:aj):aG P Sb qt (asBool v):=by unfold asBool;exact cY
def E9(v:aj):aG P Sb qt (asString v):=by unfold asString;exact cY
def Qo(v:aj):aG P Sb qt (asAgg v):=by unfold asAgg;exact cY
def gx(v:aj):aG P Sb qt (asAddr v):=by unfold asAddr;exact cY
def L1(a:aA):aG P Sb qt (byteOf a):=by unfold byteOf;exact cY
def L2(a:aA)(b c:Nat):aG P Sb qt (partAt a b c):=by unfold partAt;exact cY
def qI(a:aA)(f:Field):aG P Sb qt (fieldPlace a f):=by unfold fieldPlace;exact cY
def tN:∀(n:Nat) (a:aA) (acc:ah),aG P Sb qt (loadBytes a acc n)
 | 0,a,acc=>.pure
 |n+1,a,acc=>by have ih:=tN n;unfold loadBytes;exact cY
def yM(t:az)(b:Bool)(v:aj):aG P Sb qt (Instr.alloc t b v):=by unfold Instr.alloc;exact cY
def Fa(v:aj):aG P Sb qt (Instr.sureAddr v):=by unfold Instr.sureAddr;exact cY
def uQ(t:az)(v:aj):aG P Sb qt (Instr.loadAt t v):=by unfold Instr.loadAt;exact cY
def rJ(t:az)(v x:aj):aG P Sb qt (Instr.storeAt t v x):=by unfold Instr.storeAt;exact cY
def rK(t:az)(v:aj)(n:Nat):aG P Sb qt (Instr.fieldAt t v n):=by unfold Instr.fieldAt;exact cY
def rL(t:az)(v x:aj):aG P Sb qt (Instr.indexAt t v x):=by unfold Instr.indexAt;exact cY
def Ah(x:aj)(y:Nat)(c:BoundsCode):aG P Sb qt (Instr.sliceBound x y c):=by unfold Instr.sliceBound;exact cY
def yN(b:Bool)(l c:Nat)(x y z:Option aj):aG P Sb qt (Instr.sliceBounds b l c x y z):=by unfold Instr.sliceBounds;exact cY
def Qp(t:az)(v:aj)(x y z:Option aj):aG P Sb qt (Instr.slice t v x y z):=by unfold Instr.slice;exact cY
def rM(t:az)(v:aj)(x y z:Option aj):aG P Sb qt (Instr.sliceAt t v x y z):=by unfold Instr.sliceAt;exact cY
def Ih(t:az)(v:aj):aG P Sb qt (Instr.box t v):=by unfold Instr.box;exact cY
def yO(t:az)(p:Array (Nat×aj)):aG P Sb qt (Instr.build t p):=by unfold Instr.build;exact cY
def lS(t:az)(n:Nat)(p:Array (Nat×aj)):aG P Sb qt (Instr.buildSlice t n p):=by unfold Instr.buildSlice;exact cY
def jD(t:az)(v:aj):aG P Sb qt (Instr.makeInterface t v):=by unfold Instr.makeInterface;exact cY
def vE(f:Fn)(a b:Array aj):aG P Sb qt (Instr.makeFunc f a b):=by unfold Instr.makeFunc;exact cY
def rN(t:az)(r:Option aj):aG P Sb qt (Instr.makeMap t r):=by unfold Instr.makeMap;exact cY
def nM(t:az)(l c:aj):aG P Sb qt (Instr.makeSlice t l c):=by unfold Instr.makeSlice;exact cY
def yP(t:az)(v:aj)(n:Nat):aG P Sb qt (Instr.field t v n):=by unfold Instr.field;exact cY
def yQ(t:az)(v x:aj):aG P Sb qt (Instr.index t v x):=by unfold Instr.index;exact cY
end
section
open Go
variable {P:aB}{Sb:Nat->Prop}{qt:Prop}
def rO:∀(d:Nat) (t:az) (x y:aj),aG P Sb qt (Op.equalIn d t x y)
 | 0,t,x,y=>aG.halt
 |d+1,t,x,y=>by have ih:=rO d;unfold Op.equalIn;exact cY
def Qq(t:az)(x y:aj):aG P Sb qt (Op.equal t x y):=rO _ t x y
def tO:∀(d:Nat) (t:az) (x y:aj),aG P Sb qt (Op.eqGuardIn d t x y)
 | 0,t,x,y=>aG.halt
 |d+1,t,x,y=>by have ih:=tO d;unfold Op.eqGuardIn;exact cY
def vF(b:Bool):∀(d:Nat) (t:az) (x:aj),aG P Sb qt (Instr.checkKey b d t x)
 | 0,t,x=>aG.halt
 |d+1,t,x=>by have ih:=vF b d;unfold Instr.checkKey;exact cY
def qJ(t:az)(x:aj):∀(l:List MapEntry) (i:Nat),aG P Sb qt (Instr.findAsking t x l i)
 | [],i=>aG.pure
 |e :: l,i=>by have ih:=qJ t x l;unfold Instr.findAsking;exact cY
def Ii(t:az)(x:aj)(l:List MapEntry):aG P Sb qt (Instr.findKey t x l):=by unfold Instr.findKey;exact cY
def uR(t:az)(x y:aj)(b:Bool):aG P Sb qt (Instr.lookup t x y b):=by unfold Instr.lookup;exact cY
def wo(x y:aj):aG P Sb qt (Instr.keyThatStays x y):=by unfold Instr.keyThatStays;exact cY
def nN(t:az)(x y z:aj):aG P Sb qt (Instr.mapUpdate t x y z):=by unfold Instr.mapUpdate;exact cY
def yR(t:az)(x:aj):aG P Sb qt (Instr.range t x):=by unfold Instr.range;exact cY
def CS(x:aj)(b:Bool)(t:az):aG P Sb qt (Instr.next x b t):=by unfold Instr.next;exact cY
def yS(x:aj):aG P Sb qt (Instr.entry x):=by unfold Instr.entry;exact cY
def rP(x:aj)(n:Nat):aG P Sb qt (Instr.extract x n):=by unfold Instr.extract;exact cY
def tR{α:Type}(e:RuntimeError):oy P (runtimePanic e:Sem α):=by unfold runtimePanic;refine kr fun p=>?_;cases e<;>dsimp only<;>first|exact kR _|exact kr fun _=>kr fun _=>kR _
def uS(x:aj):aG P Sb qt (Instr.panic x):=by
 refine .pZ ?_;unfold Instr.panic;split
 ·exact kR _
 ·exact kr fun n=>by split;exact kR _;exact tR _
 ·exact nJ _
def lG(op:BinOp)(k:IntKind)(x y:Int):aG P Sb qt (Op.intArith op k x y):=by unfold Op.intArith;exact cY
def yI(op:BinOp)(k:IntKind)(x y:Int):aG P Sb qt (Op.intBits op k x y):=by unfold Op.intBits;exact cY
def L3(op:BinOp)(x y:Int):aG P Sb qt (Op.intCmp op x y):=by unfold Op.intCmp;exact cY
def L4(op:BinOp)(k:IntKind)(x y:Int):aG P Sb qt (Op.intDiv op k x y):=by unfold Op.intDiv;exact cY
def Qr(op:BinOp)(k:IntKind)(x:Int)(k':IntKind)(y:Int):aG P Sb qt (Op.shift op k x k' y):=by unfold Op.shift;exact cY
def Ai(op:BinOp)(k:FloatKind)(x y:Nat):aG P Sb qt (Op.floatArith op k x y):=by unfold Op.floatArith;exact cY
def Fb(op:BinOp)(k:FloatKind)(x y:Nat):aG P Sb qt (Op.floatCmp op k x y):=by unfold Op.floatCmp;exact cY
def wu(s:FloatKind)(b:Nat)(k:FloatKind):aG P Sb qt (Conv.floatToFloat s b k):=by unfold Conv.floatToFloat;exact cY
def pK(op:BinOp)(k:FloatKind)(x y:Nat):aG P Sb qt (Op.Complex.arith op k x y):=by unfold Op.Complex.arith;exact cY
def X9(op:BinOp)(k:FloatKind)(x y:Nat):aG P Sb qt (Op.Complex.cmp op k x y):=by unfold Op.Complex.cmp;exact cY
def TN(k:FloatKind)(x:Nat)(k':FloatKind):aG P Sb qt (Op.Complex.conv k x k'):=by unfold Op.Complex.conv;exact cY
def TP(x y:Nat):aG P Sb qt (Op.Complex.add x y):=pK ..
def TQ(x y:Nat):aG P Sb qt (Op.Complex.sub x y):=pK ..
def TR(x y:Nat):aG P Sb qt (Op.Complex.mul x y):=pK ..
def TS(x y:Nat):aG P Sb qt (Op.Complex.quo x y):=pK ..
def Ij(a b c d:Nat):aG P Sb qt (Op.Complex.product a b c d):=by unfold Op.Complex.product;exact cY
def CU(s a b c d:Nat):aG P Sb qt (Op.Complex.corrected s a b c d):=by unfold Op.Complex.corrected;exact cY
def Fc(a b c d:Nat):aG P Sb qt (Op.Complex.quotient a b c d):=by unfold Op.Complex.quotient;exact cY
def CV(op:BinOp)(k:FloatKind)(a b c d:Nat):aG P Sb qt (Op.complexOp op k a b c d):=by unfold Op.complexOp;exact cY
def Fe(op:BinOp)(x y:ah):aG P Sb qt (Op.stringOp op x y):=by unfold Op.stringOp;exact cY
def yT(op:UnOp)(x:aj):aG P Sb qt (Op.unary op x):=by unfold Op.unary;exact cY
def CW(a b:aA):aG P Sb qt (Op.twoPlaces a b):=by unfold Op.twoPlaces;exact cY
def Ik(k:IntKind)(a b:aA):aG P Sb qt (Op.addrSub k a b):=by unfold Op.addrSub;exact cY
def Il(op:BinOp)(a b:aA):aG P Sb qt (Op.addrCmp op a b):=by unfold Op.addrCmp;exact cY
def Im(k:IntKind)(a:aA)(n:Int):aG P Sb qt (Op.addrMod k a n):=by unfold Op.addrMod;exact cY
def Ff(k:IntKind)(n:Int):aG P Sb qt (Conv.intToInt k n):=aG.pure
def Aj(k:FloatKind)(n:Int):aG P Sb qt (Conv.intToFloat k n):=aG.pure
def Ak(k:FloatKind)(b:Nat)(k':IntKind):aG P Sb qt (Conv.floatToInt k b k'):=by unfold Conv.floatToInt;exact cY
def qu(k:FloatKind)(x y:Nat)(k':FloatKind):aG P Sb qt (Conv.complexToComplex k x y k'):=by unfold Conv.complexToComplex;exact cY
def yU(n:Int):aG P Sb qt (Conv.intToString n):=aG.pure
def uT(t:az)(s:ah):aG P Sb qt (Conv.stringToBytes t s):=by unfold Conv.stringToBytes;exact cY
def uU(x:aj):aG P Sb qt (Conv.bytesToString x):=by unfold Conv.bytesToString;exact cY
def uV(t:az)(s:ah):aG P Sb qt (Conv.stringToRunes t s):=by unfold Conv.stringToRunes;exact cY
def uW(x:aj):aG P Sb qt (Conv.runesToString x):=by unfold Conv.runesToString;exact cY
def Bn(a:aA):aG P Sb qt (Conv.seenAt a):=by unfold Conv.seenAt;exact cY
def uX(s d:az)(x:aj):aG P Sb qt (Conv.unsafePointer s d x):=by
 unfold Conv.unsafePointer;refine aG.bind (gu _) fun u1=>aG.bind (gu _) fun u2=>?_;split;case h_4=>
  refine aG.bind (Bn _) fun a=>?_;refine aG.bind (Bm _) fun n=>?_;by_cases hn:n=0
  ·subst hn;simp only[decide_true,Bool.true_or,if_true];exact qw (aG.pure' _)
  ·simp only[hn,decide_false,Bool.false_or];by_cases hb:Sb a.block
   ·constructor;intro v w x v' hs hr hg es;exfalso;obtain⟨c,t,h0,h1,h2,h3⟩:=mQ hb hs;rw[run_bind,<-Sem.runT_fst P _ v #[],mP]at hr;have e:∀u,tP P a u 1 v=false:=fun u=>by unfold tP;rw[h2]
    rw[e]at hr;simp only[Bool.false_eq_true,if_false]at hr;rw[run_bind]at hr;have e2:(shape a.block).run P v=.ok none v:=by show Result.ok (v.shape? a.block) v=_;rw[h2]
    rw[e2]at hr;exact(kS (tI _)).no _ _ _ hr
   ·exact cY
 all_goals exact cY
def CX(a:Array az)(t:az)(x:Array aj):aG P Sb qt (Builtin.unsafeAdd_ a t x):=by unfold Builtin.unsafeAdd_;rcases x with⟨_|⟨a0,_|⟨a1,_|⟨a2,l⟩⟩⟩⟩ <;>first|exact aG.halt|(cases a0<;>first|exact aG.halt|(refine aG.bind (tK _) (fun n=>?_);exact cY))
def yV(t:az)(x y:aj):aG P Sb qt (movedNumber t x y):=by unfold movedNumber;exact cY
def wy(t:az)(x y:aj):aG P Sb qt (movedPointer t x y):=by unfold movedPointer;exact cY
def rQ(op:BinOp)(t:az)(x y:aD)(a b:aj):aG P Sb qt (eqGuard op t x y a b):=by unfold eqGuard;exact cY
def yX(op:BinOp)(t:az)(x y:aj):aG P Sb qt (binOp op t x y):=by unfold binOp;exact cY
def rR(s d:az)(qq:(s == d)=false)(x:aj):aG P Sb qt (convert s d x):=by unfold convert;simp only[qq];exact cY
def Qs(v:aj):aG P Sb qt (Builtin.lenOf v):=by unfold Builtin.lenOf;exact cY
def Al(a b:Nat)(v:aj):aG P Sb qt (Builtin.firstCells a b v):=by unfold Builtin.firstCells;exact cY
def Bo(a:Array az)(t:az)(x:Array aj):aG P Sb qt (Builtin.append_ a t x):=by unfold Builtin.append_;exact cY
def JQ(a:Array az)(t:az)(x:Array aj):aG P Sb qt (Builtin.copy_ a t x):=by unfold Builtin.copy_;exact cY
def Bp(a:Array az)(t:az)(x:Array aj):aG P Sb qt (Builtin.delete_ a t x):=by unfold Builtin.delete_;exact cY
def Qt(a:Array az)(t:az)(x:Array aj):aG P Sb qt (Builtin.len_ a t x):=by unfold Builtin.len_;exact cY
def TT(x y:aj):aG P Sb qt (Builtin.max2 x y):=by unfold Builtin.max2;exact cY
def Qu(a:Array az)(t:az)(x:Array aj):aG P Sb qt (Builtin.max_ a t x):=by unfold Builtin.max_;exact cY
def oh(a:Array az)(t:az)(x:Array aj):aG P Sb qt (Builtin.unsafeString_ a t x):=by unfold Builtin.unsafeString_;rcases x with⟨_|⟨a0,_|⟨a1,_|⟨a2,l⟩⟩⟩⟩ <;>first|exact aG.halt|(cases a0<;>first|exact aG.halt|(refine aG.bind (tK _) (fun n=>?_);exact cY))
end
section
open Go
variable {P:aB}{Sb:Nat->Prop}{qt:Prop}
def pM:∀(l:List FieldStep) (t:az) (x:Option aj),aG P Sb qt (followBlind l t x)
 | [],t,x=>aG.pure
 |s :: l,t,x=>by have ih:=pM l;unfold followBlind;exact cY
def vH:∀(n:Nat) (t:az) (v:aj) (s:String),aG P Sb qt (nilAhead n t v s)
 | 0,t,v,s=>aG.pure
 |n+1,t,v,s=>by have ih:=vH n;have ih2:=pM (P:=P) (Sb:=Sb) (qt:=qt);unfold nilAhead;repeat' (first|exact ih2 ..|(repeat' (first|(with_reducible first|exact aG.pure' _|exact aG.pure|exact mN ..|exact lH ..|exact gu ..|exact ih ..|refine aG.bind ?_ (fun _=>?_))|dsimp only|split|intro _)))
def cX{s:Sem aj}(h:aG P Sb qt s):aG P Sb qt (do pure (Next.value (<-s)):Sem Next):=aG.bind h fun _=>aG.pure
def JS{s:Sem Unit}(h:aG P Sb qt s):aG P Sb qt (do s;pure Next.skip:Sem Next):=aG.bind h fun _=>aG.pure
def tS(h:tT o.op=true):aG P Sb qt (execOp ρ o):=by
 unfold execOp;cases ho:o.op<;>rw[ho]at h<;>first|(cases h;done)|skip
 case nilCheck x=>
  dsimp only;repeat' (first|exact vH ..|(repeat' (first|(with_reducible first|exact aG.pure' _|exact aG.pure|exact rH ..|exact iB ..|exact uP ..|exact yM ..|exact uQ ..|exact rJ ..|exact rK ..|exact rL ..|exact rM ..|exact Ih ..|exact yO ..|exact lS ..|exact jD ..|exact rN ..|exact nM ..|exact yP ..|exact yQ ..|exact uR ..|exact nN ..|exact yR ..|exact CS ..|exact yS ..|exact rP ..|exact uS ..|exact yT ..|exact rQ ..|exact yX ..|exact rR ..|exact lI|refine aG.bind ?_ (fun _=>?_)|refine y7 ?_ ?_)|dsimp only|split|intro _)))
 case convert s d x=>exact cX (rR _ _ (by simpa[tT]using h) _)
 all_goals first
  |exact aG.pure
  |exact cX (yM ..)|exact cX (Ih ..)|exact cX (yO ..)|exact cX (lS ..)|exact cX (uQ ..)|exact JS (rJ ..)
  |exact cX (aG.bind (rQ ..) fun _=>yX ..)|exact cX (yT ..)|exact cX (jD ..)|exact cX (vE ..)
  |exact cX (rN ..)|exact cX (nM ..)|exact cX (rM ..)|exact cX (rK ..)|exact cX (yP ..)|exact cX (rL ..)|exact cX (yQ ..)
  |exact cX (uR ..)|exact JS (nN ..)|exact cX (yR ..)|exact cX (CS ..)|exact cX (yS ..)|exact cX (rP ..)|exact cX (uS ..)
  |exact aG.bind (uP _) fun _=>aG.pure
def y8{b:Builtin}(h:Io b=true)(a:Array az)(t:az)(c:Array Bool)(x:Array aj):aG P Sb qt (builtin b a t c x):=by
 unfold builtin;cases b<;>first|(cases h;done)|skip
 all_goals first|exact cX (Bo ..)|exact cX (JQ ..)|exact cX (Bp ..)|exact cX (Qt ..)|exact cX (Qu ..)|exact cX (oh ..)
end
section
open Go
structure gC where
 ext:ay->Bool
 jS:ay->Nat->Option Nat
 M3:ay
 en:ay
 vA:ay->List Nat
 cf:ay
 Bt:ay
 tgt:ay->Code->Bool
 den:ay->Bool
 Ip:String->Bool
def gC.j5(T:gC)(g:ay):aD->Bool
 |.tmp n=>(T.vA g).contains n
 |.func f=>f == T.cf
 |_=>false
def gC.ahQ(T:gC):Fn->Bool
 |.func f=>f == T.cf
 |_=>false
def gC.fD(T:gC)(f:ay)(d:Nat):Option Nat:=
 if f=T.M3 then some (d+1)else if f=T.en then(if d=0 then none else some (d-1))else if T.ext f then some d
 else T.jS f d
def gC.Yz(T:gC)(g f:ay)(args:Array aD):Bool:=(T.vA f).all fun n=>match args[n]? with|some x=>T.j5 g x|none=>true
def gC.wr(T:gC)(g:ay)(o:Oper):Bool:=match o.dst with|some n=>(T.vA g).contains n|none=>false
def gC.TX(T:gC)(g:ay)(o:Oper)(d:Nat):Option Nat:=
 match o.op with
 |.call c=>
  if T.wr g o=true then none else
  match c.callee with
  |.builtin b=>if Io b then some d else none
  |.value (.func f)=>if T.Yz g f c.args then(T.fD f (d % 2)).bind fun e=>if e<2 then some (e+2*(d / 2))else none else none
  |.invoke _ s=>if T.Ip s=true/\d=0 then some 0 else none
  |.value (.tmp n)=>if (T.vA g).contains n=true/\d=0 then some 0 else none
  |_=>none
 |.defer c=>
  match c.callee with
  |.value (.func f)=>
   if T.wr g o=true then none else
   if T.den g=true then(if f=T.en then some (d+2)else none)
   else if f=T.Bt/\T.jS g 0=some 0/\T.jS g 1=none then some d else none
  |_=>none
 |.go _=>some d
 |.move x=>if T.wr g o=true/\T.j5 g x=false then none else some d
 |.assign x=>if T.wr g o=true/\T.j5 g x=false then none else some d
 |.makeFunc fn _ _=>if T.wr g o=true/\T.ahQ fn=false then none else some d
 |op=>if tT op=true/\T.wr g o=false then some d else none
def gC.Zi(T:gC)(g:ay):List Oper->Nat->Option Nat
 | [],d=>some d
 |o :: os,d=>(T.TX g o d).bind fun e=>if o.guard.isNone=true\/e=d then T.Zi g os e else none
def ug:Option (Option Nat)->Nat->Bool
 |some none,_=>true
 |some (some e'),e=>e' == e
 |none,_=>false
def gC.ck(T:gC)(g:ay)(out:Nat):Code->Nat->List (Nat×Nat)->Option (Option Nat)
 |.skip,d,_=>some (some d)
 |.region _ ops draw,d,_=>
  if ops.all (fun o=>T.TX g o d == some d)=true then some (some d)else if draw=true then none else(T.Zi g ops.toList d).map some
 |.seq a b,d,X=>if T.tgt g (.seq a b)=true then some none else(T.ck g out a d X).bind fun r=>match r with|some e=>T.ck g out b e X|none=>some none
 |.cond c a b,d,X=>
  match c with
  |.const (.bool true)=>T.ck g out a d X
  |.const (.bool false)=>T.ck g out b d X
  |_=>(T.ck g out a d X).bind fun ra=>(T.ck g out b d X).bind fun rb=>
   match ra,rb with
   |none,r=>some r
   |some e,none=>some (some e)
   |some e,some e'=>if e=e' then some (some e)else none
 |.block id body,d,X=>
  if T.ck g out body d ((id,99):: X)=some none then some none
  else if ug (T.ck g out body d ((id,d):: X)) d=true then some (some d)
  else if ug (T.ck g out body d ((id,0):: X)) 0=true then some (some 0)
  else if ug (T.ck g out body d ((id,1):: X)) 1=true then some (some 1)else none
 |.loop body,d,X=>
  (T.ck g out body d X).bind fun r=>match r with|none=>some none|some e=>if e=d then some none else none
 |.exit id,d,X=>if X.lookup id=some d/\d<90 then some none else none
 |.ret,d,_=>if d % 2=out+d / 2 then some none else none
 |_,_,_=>none
section
variable (T:gC)(g:ay)(out:Nat)
def Ux(ops:Array Oper):Nat->List Nat->Nat->Prop
 |d, [],e=>e=d
 |d,i :: is,e=>match ops[i]? with
  |none=>Ux ops d is e
  |some o=>∃d1,T.TX g o d=some d1/\(o.guard=none\/d1=d)/\Ux ops d1 is e
def Jd:List Item->(Nat->List (Nat×Nat)->Prop)×(List (Nat×Nat)->Prop)
 | []=>(fun d X=>d % 2=out+d / 2/\X= [],fun X=>X= [])
 |.code c :: k=>(fun d X=>∃r,T.ck g out c d X=some r/\(Jd k).2 X/\∀e,r=some e->(Jd k).1 e X,(Jd k).2)
 |.inBlock id :: k=>(fun d X=>∃X',X=(id,d):: X'/\(Jd k).1 d X'/\(Jd k).2 X',fun X=>∃e X',X=(id,e):: X'/\(e<90->(Jd k).1 e X')/\(Jd k).2 X')
 |.inLoop body :: k=>(fun d X=>(∃r,T.ck g out body d X=some r/\∀e,r=some e->e=d)/\(Jd k).2 X,(Jd k).2)
 |.inRegion ops is :: k=>(fun d X=>∃e,Ux T g ops d is e/\(Jd k).1 e X/\(Jd k).2 X,(Jd k).2)
 |_ :: k=>(fun _ _=>False,(Jd k).2)
abbrev oA(k:List Item)(d:Nat)(X:List (Nat×Nat)):Prop:=(Jd T g out k).1 d X
abbrev Xs(k:List Item)(X:List (Nat×Nat)):Prop:=(Jd T g out k).2 X
end
section
variable {T:gC}{g:ay}{out d:Nat}{k k':List Item}{X:List (Nat×Nat)}
def Dn{id e:Nat}(h90:e<90):∀{k:List Item} {X:List (Nat×Nat)},Xs T g out k X->X.lookup id=some e->exitTo id k=some k'->∃X',oA T g out k' e X'
 | [],X,h,hl,he=>by cases he
 |i :: k,X,h,hl,he=>by
  cases i with
  |inBlock id'=>
   obtain⟨e',X',rfl,h2,h3⟩:=h;simp only[exitTo]at he;by_cases hi:id'=id
   ·subst hi;simp only[beq_self_eq_true,if_true,Option.some.injEq]at he;subst he;simp only[List.lookup,beq_self_eq_true,Option.some.injEq]at hl;subst hl;exact⟨X',h2 h90⟩
   ·have h1:(id' == id)=false:=by simpa using hi
    have h2':(id == id')=false:=by simpa using fun h=>hi h.symm
    simp only[h1,Bool.false_eq_true,if_false]at he;simp only[List.lookup,h2']at hl;exact Dn h90 h3 hl he
  |_=>exact Dn h90 (k:=k) h hl he
def Uy(h:oA T g out [] d X):d % 2=out+d / 2:=h.1
def Uz(h:oA T g out (.code .ret :: k) d X):d % 2=out+d / 2:=by
 obtain⟨r,h1,_⟩:=h;simp only[gC.ck]at h1;split at h1
 ·assumption
 ·cases h1
def Re(h:oA T g out (.code .skip :: k) d X):oA T g out k d X:=by obtain⟨r,h1,_,h3⟩:=h;simp only[gC.ck,Option.some.injEq]at h1;exact h3 d h1.symm
def FP{id:Nat}(h:oA T g out (.inBlock id :: k) d X):∃X',oA T g out k d X':=by obtain⟨X',_,h,_⟩:=h;exact⟨X',h⟩
def UA{a b:Code}(h:oA T g out (.code (.seq a b):: k) d X)(ht:T.tgt g (.seq a b)=false):oA T g out (.code a :: .code b :: k) d X:=by
 obtain⟨r,h1,h2,h3⟩:=h;simp only[gC.ck,ht,Bool.false_eq_true,if_false]at h1;cases ha:T.ck g out a d X with
 |none=>rw[ha]at h1;cases h1
 |some ra=>
  rw[ha]at h1;refine⟨ra,ha,h2,fun e he=>?_⟩;subst he;exact⟨r,h1,h2,h3⟩
def Rf{c:aD}{a b:Code}{q:Bool}(h:oA T g out (.code (.cond c a b):: k) d X)(hq:∀q',c=.const (.bool q')->q=q'):oA T g out (.code (if q then a else b):: k) d X:=by
 obtain⟨r,h1,h2,h3⟩:=h;simp only[gC.ck]at h1;split at h1
 ·obtain rfl:=hq true rfl;exact⟨r,h1,h2,h3⟩
 ·obtain rfl:=hq false rfl;exact⟨r,h1,h2,h3⟩
 clear hq;cases ha:T.ck g out a d X with
 |none=>rw[ha]at h1;cases h1
 |some ra=>
  rw[ha]at h1;cases hb:T.ck g out b d X with
  |none=>rw[hb]at h1;cases h1
  |some rb=>
   rw[hb]at h1;simp only[Option.bind_some]at h1;cases q with
   |true=>
    refine⟨ra,ha,h2,fun e he=>h3 e ?_⟩;subst he;cases rb with
    |none=>simpa using h1.symm
    |some e'=>simp only at h1;split at h1<;>cases h1;rfl
   |false=>
    refine⟨rb,hb,h2,fun e he=>h3 e ?_⟩;subst he;cases ra with
    |none=>simpa using h1.symm
    |some e'=>
     simp only at h1;split at h1
     ·rename_i hh;cases h1;rw[hh]
     ·cases h1
def MI{id:Nat}{a:Code}(h:oA T g out (.code (.block id a):: k) d X):∃X',oA T g out (.code a :: .inBlock id :: k) d X':=by
 obtain⟨r,h1,h2,h3⟩:=h;simp only[gC.ck]at h1;have key:∀e,ug (T.ck g out a d ((id,e):: X)) e=true->r=some e->oA T g out (.code a :: .inBlock id :: k) d ((id,e):: X):=by
  intro e he hr;have hk:=h3 e hr;cases ha:T.ck g out a d ((id,e):: X)with
  |none=>rw[ha]at he;cases he
  |some ra=>
   refine⟨ra,ha,⟨e,X,rfl,fun _=>hk,h2⟩,fun e' he'=>?_⟩;subst he';rw[ha]at he;simp only[ug,beq_iff_eq]at he;subst he;exact⟨X,rfl,hk,h2⟩
 split at h1
 ·rename_i hh;exact⟨(id,99):: X,none,hh,⟨99,X,rfl,fun h=>absurd h (by decide),h2⟩,fun e he=>by cases he⟩
 ·split at h1
  ·rename_i hh;exact⟨_,key d hh (by cases h1;rfl)⟩
  ·split at h1
   ·rename_i hh;exact⟨_,key 0 hh (by cases h1;rfl)⟩
   ·split at h1
    ·rename_i hh;exact⟨_,key 1 hh (by cases h1;rfl)⟩
    ·cases h1
def zC{a:Code}(h:oA T g out (.inLoop a :: k) d X):oA T g out (.code a :: .inLoop a :: k) d X:=by obtain⟨⟨r,h1,h2⟩,h3⟩:=h;refine⟨r,h1,h3,fun e he=>?_⟩;obtain rfl:=h2 e he;exact⟨⟨r,h1,h2⟩,h3⟩
def Rg{a:Code}(h:oA T g out (.code (.loop a):: k) d X):oA T g out (.code a :: .inLoop a :: k) d X:=by
 obtain⟨r,h1,h2,h3⟩:=h;simp only[gC.ck]at h1;refine zC (d:=d) ⟨?_,h2⟩;cases ha:T.ck g out a d X with
 |none=>rw[ha]at h1;cases h1
 |some ra=>
  refine⟨ra,rfl,fun e he=>?_⟩;subst he;rw[ha]at h1;simp only[Option.bind_some]at h1;split at h1
  ·assumption
  ·cases h1
def Rh{id:Nat}(h:oA T g out (.code (.exit id):: k) d X)(he:exitTo id k=some k'):∃X',oA T g out k' d X':=by
 obtain⟨r,h1,h2,h3⟩:=h;simp only[gC.ck]at h1;split at h1
 ·rename_i hh;exact Dn hh.2 h2 hh.1 he
 ·cases h1
def qj{ops:Array Oper}(h:ops.all (fun o=>T.TX g o d == some d)=true):∀is,Ux T g ops d is d
 | []=>rfl
 |i :: is=>by
  unfold Ux;split
  ·exact qj h is
  ·rename_i o ho;have h1:=Array.all_eq_true.1 h;obtain⟨hl,he⟩:=zbg.1 ho;have:=h1 i hl;rw[he]at this;exact⟨d,by simpa using this,.inr rfl,qj h is⟩
def BF{ops:Array Oper}:∀(suf pre:List Oper) (d e:Nat),ops.toList=pre++suf->T.Zi g suf d=some e->Ux T g ops d (List.range' pre.length suf.length) e
 | [],pre,d,e,h,hc=>by simp only[gC.Zi,Option.some.injEq]at hc;exact hc.symm
 |o :: suf,pre,d,e,h,hc=>by
  rw[List.length_cons,List.range'_succ];have ho:ops[pre.length]?=some o:=by rw[<-Array.getElem?_toList,h];simp
  unfold Ux;rw[ho];simp only[gC.Zi]at hc;cases hd:T.TX g o d with
  |none=>rw[hd]at hc;cases hc
  |some d1=>
   rw[hd]at hc;simp only[Option.bind_some]at hc;split at hc
   ·rename_i hg;refine⟨d1,hd,hg.imp (fun h=>by simpa using h) id,?_⟩;have:=BF suf (pre++ [o]) d1 e (by rw[h];simp) hc;simpa using this
   ·cases hc
def zD{id:Nat}{ops:Array Oper}{draw:Bool}(h:oA T g out (.code (.region id ops draw):: k) d X):(draw=false->oA T g out (.inRegion ops (List.range ops.size):: k) d X)/\(draw=true->∀is,oA T g out (.inRegion ops is :: k) d X):=by
 obtain⟨r,h1,h2,h3⟩:=h;simp only[gC.ck]at h1;split at h1
 ·rename_i hh;have hk:=h3 d (by cases h1;rfl);exact⟨fun _=>⟨d,qj hh _,hk,h2⟩,fun _ is=>⟨d,qj hh _,hk,h2⟩⟩
 ·split at h1
  ·cases h1
  ·rename_i hd;refine⟨fun _=>?_,fun h=>absurd h hd⟩;cases hc:T.Zi g ops.toList d with
   |none=>rw[hc]at h1;cases h1
   |some e=>
    rw[hc]at h1;have:=BF ops.toList [] d e rfl hc;rw[List.length_nil,<-List.range_eq_range',Array.length_toList]at this;exact⟨e,this,h3 e (by cases h1;rfl),h2⟩
def Ri{ops:Array Oper}(h:oA T g out (.inRegion ops [] :: k) d X):oA T g out k d X:=by obtain⟨e,h1,h2,_⟩:=h;obtain rfl:e=d:=h1;exact h2
def QA{ops:Array Oper}(h:oA T g out (.inRegion ops (i :: is):: k) d X)(ho:ops[i]?=some o):∃d1,T.TX g o d=some d1/\(o.guard=none\/d1=d)/\oA T g out (.inRegion ops is :: k) d1 X:=by obtain⟨e,h1,h2,h3⟩:=h;unfold Ux at h1;rw[ho]at h1;obtain⟨d1,h4,h5,h6⟩:=h1;exact⟨d1,h4,h5,e,h6,h2,h3⟩
def Yu{ops:Array Oper}(h:oA T g out (.inRegion ops (i :: is):: k) d X)(ho:ops[i]?=none):oA T g out (.inRegion ops is :: k) d X:=by obtain⟨e,h1,h2,h3⟩:=h;unfold Ux at h1;rw[ho]at h1;exact⟨e,h1,h2,h3⟩
end
end
section
open Go Go.Conc
def vf(T:gC)(v:aj):Prop:=∀fn a c,v=.func fn a c->fn=.func T.cf
structure qM(T:gC)(fr:ak)(out:Nat):Prop where
 round:fr.roundOf=none
 w8:∀x∈fr.defers,∃c,x.target=.fn (.func (if T.den fr.fn=true then T.en else T.Bt)) c
 kind:fr.kind=.normal\/fr.kind=.deferred
 jS:∃a,T.jS fr.fn a=some out
 Yv:T.den fr.fn=true\/fr.defers= []\/out=0
def oC(T:gC)(fr:ak):Nat:=if T.den fr.fn=true then fr.defers.length else 0
structure mS(T:gC)(d:Nat)(fr:ak)(out:Nat):Prop where
 vA:∀n∈T.vA fr.fn,vf T (fr.tmps.getD n undef)
 ok:∃s X,s % 2=d/\s / 2=oC T fr/\oA T fr.fn out fr.todo s X
def gO(T:gC)(d:Nat)(fr:ak)(out:Nat):Prop:=
 match fr.mode with
 |.run=>mS T d fr out
 |.returning=>d=out+oC T fr
 |.panicking ch=>∀e∈ch,e.recovered=false
def ahS(T:gC)(d:Nat)(fr:ak)(out:Nat):Prop:=qM T fr out/\gO T d fr out
def Wt(T:gC):CallKind->Nat->List ak->Prop
 |kd,_, []=>kd=.normal
 |kd,e,c :: rest=>∃out',qM T c out'/\Wt T c.kind out' rest/\
  ((kd=.normal/\c.mode=.run/\∀v,mS T e (c.finish v) out')\/(kd=.deferred/\c.mode≠.run/\gO T e c out'))
def zJ(T:gC)(d:Nat)(fr:ak)(cs1:List ak):Prop:=∃out,ahS T d fr out/\Wt T fr.kind out cs1
def iF(fr:ak)(cs1:List ak):Prop:=∀c∈fr :: cs1,∀ch,c.mode≠.panicking ch
def j4(P:aB)(T:gC)(d:Nat)(fr:ak)(cs1:List ak)(w:af):Prop:=
 ∃fr' YA w' es d',(∀cs,stepG P true (G fr (cs1++cs)) w=.go (G fr' (YA++cs)) w' es)/\zJ T d' fr' YA/\(iF fr' YA->iF fr cs1/\deafBehind d es=d')
def BB(g:au):Prop:=g.status=.blocked\/g.status=.waiting\/(g.status=.running/\∃d f,g.dying=some d/\d.calling=false/\d.fatal=some f)
def zq(P:aB)(fr:ak)(cs1:List ak)(w:af):Prop:=
 ∀cs,(∃o w' es,stepG P true (G fr (cs1++cs)) w=.ended o w' es)\/(∃g' w' es,stepG P true (G fr (cs1++cs)) w=.go g' w' es/\BB g')\/∃g' g2 w' es,stepG P true (G fr (cs1++cs)) w=.spawn g' g2 w' es
def Q2(T:gC)(fr:ak):Prop:=fr.mode=.run/\∃c k,fr.todo=.code c :: k/\T.tgt fr.fn c=true
section
variable {P:aB}{T:gC}{d out:Nat}{fr:ak}{cs1:List ak}{w:af}
def iF.top(h:iF fr' cs1)(hm:∀ch,fr.mode≠.panicking ch):iF fr cs1:=fun c hc ch he=>by
 rcases zbq.1 hc with rfl|hc
 ·exact hm ch he
 ·exact h c (zbi _ hc) ch he
def qM.todo(h:qM T fr out)(t:List Item):qM T {fr with todo:=t} out:=⟨h.round,h.w8,h.kind,h.jS,h.Yv⟩
def iy(hf:qM T fr out)(hr:mS T d fr out)(hw:Wt T fr.kind out cs1)(hm:fr.mode=.run){s:Nat}(h1:s % 2=d)(h2:s / 2=oC T fr){k:List Item}{X:List (Nat×Nat)}(hk:oA T fr.fn out k s X)
 (hs:∀cs,stepG P true (G fr (cs1++cs)) w=.go (G {fr with todo:=k} (cs1++cs)) w #[]):j4 P T d fr cs1 w:=by refine⟨{fr with todo:=k},cs1,w,#[],d,hs,⟨out,⟨hf.todo k,?_⟩,hw⟩,fun h=>⟨h.top (fun ch he=>by rw[hm]at he;cases he),rfl⟩⟩;unfold gO;simp only[hm];exact⟨hr.vA,s,X,h1,h2,hk⟩
def vQ(hf:qM T fr out)(hw:Wt T fr.kind out cs1)(hm:fr.mode=.run)(hd:d=out+oC T fr)
 (hs:∀cs,stepG P true (G fr (cs1++cs)) w=.go (G {fr with mode:=.returning} (cs1++cs)) w #[]):j4 P T d fr cs1 w:=by refine⟨{fr with mode:=.returning},cs1,w,#[],d,hs,⟨out,⟨⟨hf.round,hf.w8,hf.kind,hf.jS,hf.Yv⟩,?_⟩,hw⟩,fun h=>⟨h.top (fun ch he=>by rw[hm]at he;cases he),rfl⟩⟩;unfold gO;exact hd
def Yb(fr:ak):Prop:=∃ops i is k,fr.todo=.inRegion ops (i :: is):: k
def Q3(hf:qM T fr out)(hr:mS T d fr out)(hw:Wt T fr.kind out cs1)(hm:fr.mode=.run)(w:af):j4 P T d fr cs1 w\/zq P fr cs1 w\/Q2 T fr\/Yb fr:=by
 obtain⟨s,X,qq,tF,hk⟩:=hr.ok;obtain⟨fn,tmps,todo,defers,mode,kind,ro⟩:=fr;obtain rfl:ro=none:=hf.round;obtain rfl:mode=.run:=hm;simp only at hk hf hr hw tF;cases todo with
 |nil=>exact .inl (vQ hf hw rfl (by rw[<-qq,<-tF];exact Uy hk) fun cs=>rfl)
 |cons i k=>
  cases i with
  |inBlock id=>obtain⟨X',h⟩:=FP hk;exact .inl (iy hf hr hw rfl qq tF h fun cs=>rfl)
  |inLoop a=>exact .inl (iy hf hr hw rfl qq tF (zC hk) fun cs=>rfl)
  |inRegion ops is=>
   cases is with
   |nil=>exact .inl (iy hf hr hw rfl qq tF (Ri hk) fun cs=>rfl)
   |cons j is=>exact .inr (.inr (.inr ⟨ops,j,is,k,rfl⟩))
  |code c=>
   cases c with
   |skip=>exact .inl (iy hf hr hw rfl qq tF (Re hk) fun cs=>rfl)
   |ret=>exact .inl (vQ hf hw rfl (by rw[<-qq,<-tF];exact Uz hk) fun cs=>rfl)
   |seq a b=>
    cases ht:T.tgt fn (.seq a b)with
    |true=>exact .inr (.inr (.inl ⟨rfl,_,_,rfl,ht⟩))
    |false=>exact .inl (iy hf hr hw rfl qq tF (UA hk ht) fun cs=>rfl)
   |cond c a b=>
    by_cases hc:∃q,(Frame.mk fn tmps (.code (.cond c a b):: k) defers .run kind none).eval c=.bool q
    ·obtain⟨q,hq⟩:=hc;refine .inl (iy hf hr hw rfl qq tF (Rf (q:=q) hk fun q' e=>?_) fun cs=>?_)
     ·subst e;simp only[Frame.eval,Value.bool.injEq]at hq;exact hq.symm
     ·simp only[stepG,G,stepG.exec,hq]
    ·refine .inr (.inl fun cs=>.inl ⟨.stuck "cond: bool expected" ((Frame.mk fn tmps (.code (.cond c a b):: k) defers .run kind none).pos P),w,#[],?_⟩);simp only[stepG,G,stepG.exec];split
     ·rename_i q hq;exact absurd ⟨q,hq⟩ hc
     ·rfl
   |block id a=>obtain⟨X',h⟩:=MI hk;exact .inl (iy hf hr hw rfl qq tF h fun cs=>rfl)
   |loop a=>exact .inl (iy hf hr hw rfl qq tF (Rg hk) fun cs=>rfl)
   |exit id=>
    cases he:exitTo id k with
    |some k'=>
     obtain⟨X',h⟩:=Rh hk he;refine .inl (iy hf hr hw rfl qq tF h fun cs=>?_);simp only[stepG,G,stepG.exec,he,Option.elim]
    |none=>
     refine .inr (.inl fun cs=>.inl ⟨.stuck "exit, goto: no such block or label" ((Frame.mk fn tmps (.code (.exit id):: k) defers .run kind none).pos P),w,#[],?_⟩);simp only[stepG,G,stepG.exec,he,Option.elim];rfl
   |region id ops draw=>
    cases draw with
    |false=>exact .inl (iy hf hr hw rfl qq tF ((zD hk).1 rfl) fun cs=>rfl)
    |true=>
     have hx:(choose (.order fn id)).run P w=.ok (Question.cut (.order fn id) (w.tape w.drawn (.order fn id))) {w with drawn:=w.drawn+1}:=by simp[choose,Sem.run,Question.forced]
     refine .inl ⟨⟨fn,tmps,.inRegion ops (Region.schedule (P.follows .mixedOrders) ops (Question.cut (.order fn id) (w.tape w.drawn (.order fn id)))):: k,defers,.run,kind,none⟩,cs1,{w with drawn:=w.drawn+1},#[],d,fun cs=>?_,⟨out,⟨hf.todo _,?_⟩,hw⟩,fun h=>⟨h.top (fun ch he=>by cases he),rfl⟩⟩
     ·simp only[stepG,G,stepG.exec,hx,Bool.not_true,Bool.false_eq_true,if_false]
     ·exact⟨hr.vA,s,X,qq,tF,(zD hk).2 rfl _⟩
   |_=>obtain⟨r,h1,_⟩:=hk;simp[gC.ck]at h1
  |_=>exact hk.elim
end
end
section
open Go Go.Conc
def Fu{e:aC}(h:e∈seen P f es):e∈es:=by
 unfold seen at h;dsimp only at h;rw[<-zbl]at h;have key:∀(l:List aC) (q:Bool) (kept:Array aC) (e:aC),e∈(l.foldl (fun(x:Bool×Array aC) e=>match x with
  |(q,kept)=>match e.loc with
   |.mark (.extern f)=>((P.funcs[f]?).any (·.norace),kept)
   |_=>(q,if q && !e.sync then kept else kept.push e)) (q,kept)).2->e∈kept\/e∈l:=by
  intro l
  induction l with
  |nil=>intro q kept e h;exact .inl h
  |cons x l ih=>
   intro q kept e h;simp only[List.foldl_cons]at h;split at h
   ·exact(ih _ _ _ h).imp id (zbi _)
   ·rcases ih _ _ _ h with h1|h1
    ·split at h1
     ·exact .inl h1
     ·rcases Array.mem_push.1 h1 with h2|rfl
      ·exact .inl h2
      ·exact .inr (zbr ..)
    ·exact .inr (zbi _ h1)
 rcases key _ _ _ _ h with h1|h1
 ·simp at h1
 ·exact zbn.1 h1
def UB(h:∀e∈es,e.loc≠.mark .disable/\e.loc≠.mark .enable)(d:Nat):deafBehind d es=d:=by
 unfold deafBehind;rw[<-zbl];have key:∀(l:List aC) (d:Nat),(∀e∈l,e.loc≠.mark .disable/\e.loc≠.mark .enable)->l.foldl (fun d e=>match e.loc with|.mark .disable=>d+1|.mark .enable=>d-1|_=>d) d=d:=by
  intro l;induction l with
  |nil=>intro d _;rfl
  |cons x l ih=>
   intro d hl;simp only[List.foldl_cons];have hx:=hl x (zbr ..);split
   ·rename_i hh;exact absurd hh hx.1
   ·rename_i hh;exact absurd hh hx.2
   ·exact ih d fun e he=>hl e (zbi _ he)
 exact key _ d fun e he=>h e (zbn.1 he)
def Ma(h:∀e∈es,e.loc≠.mark .disable/\e.loc≠.mark .enable)(d:Nat):deafBehind d (seen P f es)=d:=UB (fun e he=>h e (Fu he)) d
section
variable {P:aB}{fr:ak}{w:af}{s:Sem Next}
def ryd(w:af)(g:Nat):af:={w with heap:=match w.heap[g]? with|some (.pending c e)=>w.heap.setIfInBounds g (.cells c e)|_=>w.heap}
def I3(hst:∀g,P.stepOf g=none)(g:Nat)(w:af):(∀cs,∃o w' es,early P fr cs none g w=.ended o w' es)\/∀cs,early P fr cs none g w=.go (G fr cs) (ryd w g) #[]:=by
 unfold early;simp only[hst];split
 ·split
  ·rename_i c e he;exact .inr fun cs=>by simp[G,ryd,he]
  ·exact .inl fun cs=>⟨_,_,_,rfl⟩
 ·exact .inl fun cs=>⟨_,_,_,rfl⟩
def tU(s:GStep):Prop:=(∃o w' es,s=.ended o w' es)\/(∃g' w' es,s=.go g' w' es/\BB g')\/∃g' g2 w' es,s=.spawn g' g2 w' es
def tU.after{s:GStep}(h:tU s)(es:Array aC):tU (s.after es):=by
 rcases h with⟨o,w',es',rfl⟩|⟨g',w',es',rfl,h⟩|⟨g',g2,w',es',rfl⟩
 ·exact .inl ⟨_,_,_,rfl⟩
 ·exact .inr (.inl ⟨_,_,_,rfl,h⟩)
 ·exact .inr (.inr ⟨_,_,_,_,rfl⟩)
def nS(fr:ak)(l:List ah)(m:String)(b:Bool)(w:af):tU (dieOf fr l m b w):=.inr (.inl ⟨_,_,_,rfl,.inr (.inr ⟨rfl,_,_,rfl,rfl,rfl⟩)⟩)
def za(fr:ak)(cs:List ak)(m:String)(w:af):tU (endFatal P fr cs none m w):=by
 unfold endFatal;simp only;split
 ·exact nS ..
 ·exact .inl ⟨_,_,_,rfl⟩
 ·exact .inl ⟨_,_,_,rfl⟩
def y9(hst:∀g,P.stepOf g=none)(hk:fr.kind=.normal\/fr.kind=.deferred)(hr:s.runT P w #[]=(.halt h w',es)):
 (∃e es',e.recovered=false/\∀cs,stepG.apply P true fr cs none s w=.go (G (fr.raise [e]) cs) w' es')\/(∃w2,∀cs,stepG.apply P true fr cs none s w=.go (G fr cs) w2 #[])\/∀cs,tU (stepG.apply P true fr cs none s w):=by
 have Ya:(fr.kind == CallKind.early)=false:=by rcases hk with h|h<;>rw[h]<;>rfl
 cases h with
 |panic v=>exact .inl ⟨{v,recovered:=false},_,rfl,fun cs=>by simp only[stepG.apply,if_true,hr];rfl⟩
 |goexit=>exact .inl ⟨goexitEntry,_,rfl,fun cs=>by simp only[stepG.apply,if_true,hr];rfl⟩
 |unsupported u=>
  by_cases hu:∃g,u=.initOrder g
  ·obtain⟨g,rfl⟩:=hu;have e0:seen P fr.fn #[]=#[]:=rfl;rcases I3 (fr:=fr) hst g w' with he|he
   ·refine .inr (.inr fun cs=>?_);simp only[stepG.apply,if_true,hr,Ya,Bool.false_eq_true,if_false];obtain⟨o,w2,wV,he⟩:=he cs;rw[he];exact .inl ⟨_,_,_,rfl⟩
   ·refine .inr (.inl ⟨ryd w' g,fun cs=>?_⟩);simp only[stepG.apply,if_true,hr,Ya,Bool.false_eq_true,if_false];rw[he cs,e0];rfl
  ·refine .inr (.inr fun cs=>?_);simp only[stepG.apply,if_true,hr];cases u with
   |initOrder g=>exact absurd ⟨g,rfl⟩ hu
   |_=>exact .inl ⟨_,_,_,rfl⟩
 |fatal m=>exact .inr (.inr fun cs=>(by simp only[stepG.apply,if_true,hr];exact(za fr cs m w').after _))
 |throw m=>exact .inr (.inr fun cs=>(by simp only[stepG.apply,if_true,hr];exact(nS fr [] m false w').after _))
 |blocked=>exact .inr (.inr fun cs=>(by simp only[stepG.apply,if_true,hr];exact .inr (.inl ⟨_,_,_,rfl,.inl rfl⟩)))
 |waiting=>exact .inr (.inr fun cs=>(by simp only[stepG.apply,if_true,hr];exact .inr (.inl ⟨_,_,_,rfl,.inr (.inl rfl)⟩)))
 |_=>exact .inr (.inr fun cs=>(by simp only[stepG.apply,if_true,hr];exact .inl ⟨_,_,_,rfl⟩))
end
end
section
open Go
def FL{info:az->Option TypeInfo}{fs:Array Field}{i:TypeInfo}(h:Made.reckonStruct info fs=some i):i.methods=#[]:=by unfold Made.reckonStruct at h;simp only[Option.bind_eq_bind,Option.pure_def]at h;obtain⟨st,_,h⟩:=zbj.1 h;split at h<;>(cases h;rfl)
def FM{info:az->Option TypeInfo}{d:TypeDesc}{i:TypeInfo}(h:Made.reckon info d=some i):i.methods=#[]:=by
 unfold Made.reckon at h;simp only[Option.bind_eq_bind,Option.pure_def]at h;split at h
 ·obtain⟨j,_,h⟩:=zbj.1 h;split at h
  ·cases h
  ·split at h
   ·cases h
   ·obtain⟨s,_,h⟩:=zbj.1 h;cases h;rfl
  ·obtain⟨s,_,h⟩:=zbj.1 h;cases h;rfl
 ·obtain⟨s,_,h⟩:=zbj.1 h;obtain⟨s,_,h⟩:=zbj.1 h;cases h;rfl
 ·obtain⟨s,_,h⟩:=zbj.1 h;obtain⟨s,_,h⟩:=zbj.1 h;obtain⟨s,_,h⟩:=zbj.1 h;obtain⟨s,_,h⟩:=zbj.1 h;cases h;rfl
 ·obtain⟨s,_,h⟩:=zbj.1 h;obtain⟨s,_,h⟩:=zbj.1 h;cases h;rfl
 ·obtain⟨s,_,h⟩:=zbj.1 h;cases h;rfl
 ·obtain⟨s,_,h⟩:=zbj.1 h;obtain⟨s,_,h⟩:=zbj.1 h;cases h;rfl
 ·exact FL h
 ·cases h
def Dl{t:az}{i:TypeInfo}(h:P.info? t=some i):P.types[t]?=some i\/i.methods=#[]:=by
 unfold Tables.info? at h;split at h
 ·exact .inl h
 ·right;have key:∀n,Made.infoAt P.toTables n t=some i->i.methods=#[]:=by
   intro n hn;cases n with
   |zero=>cases hn
   |succ n=>
    unfold Made.infoAt at hn;split at hn
    ·contradiction
    ·obtain⟨d,_,hn⟩:=zbj.1 hn;exact FM hn
  exact key _ h
def Ra(P:aB)(s:String)(f:ay):Prop:=∃(t:az) (i:TypeInfo) (m:Method) (b:Bool),P.types[t]?=some i/\m∈i.methods/\m.name=s/\m.func=some (f,b)
def nT{P:aB}{s:String}:∀(n:Nat) {t:az} {v:aj} {w:af} {es:Array aC} {f:ay} {x:aj} {w':af} {es':Array aC},(method n t v s).runT P w es=(.ok (f,x) w',es')->Ra P s f
 | 0,t,v,w,es,f,x,w',es',h=>by cases h
 |n+1,t,v,w,es,f,x,w',es',h=>by
  unfold method at h;have Y6:(typeInfo t).runT P w es=(match P.info? t with|some i=>(.ok i w,es)|none=>(.halt (.stuck "no such type") w,es)):=by show (match P.info? t with|some i=>(pure i:Sem TypeInfo)|none=>stuck "no such type").runT P w es=_;cases P.info? t<;>rfl
  rw[fL,Y6]at h;cases hi:P.info? t with
  |none=>rw[hi]at h;cases h
  |some i=>
   rw[hi]at h;simp only at h;cases hm:i.methods.find? (·.name == s)with
   |none=>rw[hm]at h;cases h
   |some m=>
    rw[hm]at h;simp only at h;rw[fL]at h;have hmem:=Array.mem_of_find?_eq_some hm;have hname:m.name=s:=by simpa using Array.find?_some hm
    have hty:P.types[t]?=some i:=by
     rcases Dl hi with h1|h1
     ·exact h1
     ·rw[h1]at hmem;simp at hmem
    obtain⟨r,wh,hr⟩:∃r wh,(follow m.path.toList t (.val v)).runT P w es=(r,wh):=⟨_,_,rfl⟩
    rw[hr]at h;cases r with
    |halt hh w1=>cases h
    |ok xx w1=>
     obtain⟨xt,pl⟩:=xx;simp only at h;cases hf:m.func with
     |none=>
      rw[hf]at h;simp only at h;rw[fL]at h;obtain⟨r3,TW,hr3⟩:∃r e,(pl.get xt).runT P w1 wh=(r,e):=⟨_,_,rfl⟩
      rw[hr3]at h;cases r3 with
      |halt hh w3=>cases h
      |ok y w3=>
       simp only at h;cases y with
       |iface t' v'=>exact nT n h
       |nilIface=>
        have:=(iK (Q:=fun _=>False) program (f:=fun p=>(goPanic (.iface p.rt.errorString (strVal "invalid memory address or nil pointer dereference")):Sem (ay×aj))) fun _=>.halt).out h;exact this.elim
       |_=>cases h
     |some fb=>
      obtain⟨g,b⟩:=fb;rw[hf]at h;simp only at h;rw[fL]at h;obtain⟨r3,TW,hr3⟩:∃r e,(receiverAt xt pl b (if m.path.isEmpty=true then some ((s.splitOn ".").getLastD s)else none)).runT P w1 wh=(r,e):=⟨_,_,rfl⟩
      rw[hr3]at h;cases r3 with
      |halt hh w3=>cases h
      |ok y w3=>
       cases h;exact⟨t,i,m,b,hty,hmem,hname,hf⟩
end
section
open Go Go.Conc
variable {P:aB}{Sb:Nat->Prop}{qt:Prop}
def Iu(t:az)(x:Place):aG P Sb qt (x.get t):=by unfold Place.get;exact cY
def Bw:∀(l:List FieldStep) (t:az) (x:Place),aG P Sb qt (follow l t x)
 | [],t,x=>aG.pure
 |s :: l,t,x=>by have ih:=Bw l;unfold follow;repeat' (first|exact Iu ..|(repeat' (first|(with_reducible first|exact aG.pure|exact mN ..|exact gu ..|exact JP ..|exact gx ..|exact qI ..|exact ih ..|refine aG.bind ?_ (fun _=>?_)|refine y7 ?_ ?_)|dsimp only|split|intro _)))
def TY(a:Array az)(t:az)(p:aj)(x y:ah):aG P Sb qt (Builtin.ssaWrapNilChk_ a t #[p,.string x,.string y]):=by
 cases p with
 |pointer o=>
  cases o with
  |some ad=>exact aG.pure
  |none=>
   refine aG.bind (uO _) fun n=>?_;exact cY
 |_=>exact aG.halt
def Ap(t:az)(x:Place)(b:Bool)(s:Option String):aG P Sb qt (receiverAt t x b s):=by unfold receiverAt;repeat' (first|exact Iu ..|exact TY ..|(repeat' (first|(with_reducible first|exact aG.pure' _|exact mN ..|exact gu ..|exact rI ..|exact gx ..|refine nP ?_|refine aG.bind ?_ (fun _=>?_))|dsimp only|split|intro _)))
def u9:∀(n:Nat) (t:az) (v:aj) (s:String),aG P Sb qt (method n t v s)
 | 0,t,v,s=>aG.halt
 |n+1,t,v,s=>by have ih:=u9 n;unfold method;repeat' (first|exact Bw ..|exact Ap ..|exact Iu ..|(repeat' (first|(with_reducible first|exact aG.pure' _|exact aG.halt|exact mN ..|exact lH ..|exact iB ..|exact ih ..|refine aG.bind ?_ (fun _=>?_))|dsimp only|split|intro _)))
def ze(fn:Func)(tmps:Array aj):aG P Sb qt (results fn tmps):=by
 unfold results;refine aG.bind (Fh fun r=>?_) fun _=>aG.pure;cases r with
 |tmp t=>exact aG.pure
 |cell a t=>exact aG.bind (gx _) fun _=>rI ..
def qc{α:Type}{s:Sem α}{x:α}(h:aG P (fun _=>False) True s)(hr:s.runT P w #[]=(.ok x w',es))(d:Nat):deafBehind d (seen P f es)=d:=by
 refine Ma (fun e he=>?_) d;obtain⟨w1,wh,h1,-,-,-,h5⟩:=h.yC (v:=w) (w:=w) ⟨rfl,fun _ _=>rfl,fun _ h=>h.elim,rfl,rfl⟩ (by rw[<-Sem.runT_fst P s w #[],hr]) (fun _ _ _=>rfl) #[];rw[hr]at h1;cases h1;rcases h5 e he with h6|h6
 ·simp at h6
 ·exact h6.2 trivial
end
section
open Go Go.Conc
structure gS(P:aB)(T:gC):Prop where
 ou:∀g,P.stepOf g=none
 two:∀f a b,T.jS f a=some b->a<2
 jS:∀f a b,T.jS f a=some b->∃fn c,P.funcs[f]?=some fn/\(fn.name == "runtime.NumGoroutine")=false/\fn.body=some c/\∃r,T.ck f b c a []=some r/\∀e,r=some e->e % 2=b+e / 2
 Bt:T.jS T.Bt 0=some 0/\T.vA T.Bt= []
 cf:T.jS T.cf 0=some 0/\T.vA T.cf= []
 ext:∀f,T.ext f=true->∀args w n w' es,(callFunc f args).runT P w #[]=(.ok n w',es)->(∃v,n=.value v)/\∀g d,deafBehind d (seen P g es)=d
 M3:∀args w n w' es,(callFunc T.M3 args).runT P w #[]=(.ok n w',es)->(∃v,n=.value v)/\∀g d,deafBehind d (seen P g es)=d+1
 en:∀args w,∃v es,(callFunc T.en args).runT P w #[]=(.ok (.value v) w,es)/\∀g d,deafBehind d (seen P g es)=d-1
 Ip:∀s f,T.Ip s=true->Ra P s f->T.jS f 0=some 0/\T.vA f= []
section
variable {P:aB}{T:gC}{d d1 s1 out:Nat}{fr:ak}{cs1:List ak}{w:af}{ops:Array Oper}{i:Nat}{is:List Nat}{k:List Item}{o:Oper}{X:List (Nat×Nat)}
def qg(ht:fr.todo=.inRegion ops (i :: is):: k)(v:aj):fr.finish v={fr with tmps:=(match (ops[i]?).bind (·.dst)with|some t=>fr.tmps.setIfInBounds t v|none=>fr.tmps),todo:=.inRegion ops is :: k}:=by unfold Frame.finish;rw[ht];rfl
def qM.finish(h:qM T fr out)(ht:fr.todo=.inRegion ops (i :: is):: k)(v:aj):qM T (fr.finish v) out:=by rw[qg ht];exact⟨h.round,h.w8,h.kind,h.jS,h.Yv⟩
def eW:vf T undef:=fun fn a c h=>by cases h
def zw(h:∀n∈T.vA fr.fn,vf T (fr.tmps.getD n undef))(v:aj)(hv:(∀o,ops[i]?=some o->T.wr fr.fn o=true->vf T v))(n:Nat)(hn:n∈T.vA fr.fn):vf T (Array.getD (match (ops[i]?).bind (·.dst)with|some t=>fr.tmps.setIfInBounds t v|none=>fr.tmps) n undef):=by
 cases ho:ops[i]? with
 |none=>simp only[Option.bind_none];exact h n hn
 |some o=>
  simp only[Option.bind_some];cases hd:o.dst with
  |none=>simp only;exact h n hn
  |some t=>
   simp only;by_cases e:t=n
   ·subst e;have hw:T.wr fr.fn o=true:=by unfold gC.wr;rw[hd];simpa using hn
    by_cases hl:t<fr.tmps.size
    ·rw[zbm,Array.getElem?_setIfInBounds_self_of_lt hl];exact hv o ho hw
    ·rw[zbm,Array.getElem?_eq_none (by simpa using Nat.le_of_not_lt hl)];exact eW
   ·have:=h n hn;rw[zbm,zbh e,<-zbm];exact this
def mS.finish(h:mS T d fr out)(ht:fr.todo=.inRegion ops (i :: is):: k)(e1:s1 % 2=d1)(e2:s1 / 2=oC T fr)(hk:oA T fr.fn out (.inRegion ops is :: k) s1 X)(v:aj)(hv:(∀o,ops[i]?=some o->T.wr fr.fn o=true->vf T v)):mS T d1 (fr.finish v) out:=by rw[qg ht];exact⟨zw h.vA v hv,s1,X,e1,e2,hk⟩
def vP(ht:fr.todo=.inRegion ops (i :: is):: k)(v:aj):(fr.finish v).mode=fr.mode/\(fr.finish v).kind=fr.kind:=by rw[qg ht];exact⟨rfl,rfl⟩
def j8(hf:qM T fr out)(hr:mS T d fr out)(hw:Wt T fr.kind out cs1)(hm:fr.mode=.run)(ht:fr.todo=.inRegion ops (i :: is):: k)(e1:s1 % 2=d1)(e2:s1 / 2=oC T fr)(hk:oA T fr.fn out (.inRegion ops is :: k) s1 X)(v:aj)(hv:(∀o,ops[i]?=some o->T.wr fr.fn o=true->vf T v))
 (hs:∀cs,stepG P true (G fr (cs1++cs)) w=.go (G (fr.finish v) (cs1++cs)) w' es) (hd:deafBehind d es=d1):j4 P T d fr cs1 w:=by obtain⟨m1,m2⟩:=vP ht v;refine⟨fr.finish v,cs1,w',es,d1,hs,⟨out,⟨hf.finish ht v,?_⟩,by rw[m2];exact hw⟩,fun h=>⟨h.top (fun ch he=>by rw[hm]at he;cases he),hd⟩⟩;unfold gO;rw[m1,hm];exact hr.finish ht e1 e2 hk v hv
def FG(hf:qM T fr out)(hw:Wt T fr.kind out cs1)(hm:fr.mode=.run){e:PanicEntry}(he:e.recovered=false)
 (hs:∀cs,stepG P true (G fr (cs1++cs)) w=.go (G (fr.raise [e]) (cs1++cs)) w' es):j4 P T d fr cs1 w:=by
 have e0:fr.raise [e]={fr with mode:=.panicking [e]}:=by unfold Frame.raise;rw[hm]
 rw[e0]at hs;refine⟨_,cs1,w',es,d,hs,⟨out,⟨⟨hf.round,hf.w8,hf.kind,hf.jS,hf.Yv⟩,?_⟩,hw⟩,fun h=>absurd rfl (h _ (zbr ..) [e])⟩;unfold gO;simpa using he
def fJ{c:Code}(h1:P.funcs[f]?=some fn)(h2:(fn.name == "runtime.NumGoroutine")=false)(h3:fn.body=some c)(args:Array aj)(w:af)(es:Array aC):(callFunc f args).runT P w es=(.ok (.enter f args) w,es):=by show Sem.runT P (Sem.program fun p=>_) w es=_;simp only[Sem.runT];show Sem.runT P (match P.funcs[f]? with|none=>_|some fn=>_) w es=_;rw[h1];simp only[h2,h3,Option.isNone_some,Bool.false_eq_true,if_false];rfl
def Mw(hT:gS P T)(hf:qM T fr out)(hr:mS T d fr out)(hw:Wt T fr.kind out cs1)(hm:fr.mode=.run)(ht:fr.todo=.inRegion ops (i :: is):: k)(ho:ops[i]?=some o)(zv:T.wr fr.fn o=false){b:Nat}(hi:T.jS f d=some b)(e1:s1 % 2=b)(e2:s1 / 2=oC T fr)(hk:oA T fr.fn out (.inRegion ops is :: k) s1 X)(args:Array aj)(ha:∀n∈T.vA f,vf T (args.getD n undef)):
 zJ T d (Frame.enter P f args .normal) (fr :: cs1):=by
 obtain⟨fn,c,h1,h2,h3,r,h4,h5⟩:=hT.jS f d b hi;refine⟨b,⟨⟨rfl,(fun x hx=>by simp[Frame.enter]at hx),.inl rfl,⟨d,hi⟩,.inr (.inl rfl)⟩,?_⟩,out,hf,hw,.inl ⟨rfl,hm,fun v=>?_⟩⟩
 ·show mS T d _ b;have hd2:d<2:=by obtain⟨s,X,hs,_⟩:=hr.ok;omega
  refine⟨fun n hn=>?_,d, [],Nat.mod_eq_of_lt hd2,?_,?_⟩
  ·simp only[Frame.enter]at hn⊢;have:=ha n hn;rw[zbm]at this⊢;rw[Array.getElem?_append];split
   ·exact this
   ·cases hx:(Array.replicate ((P.funcs[f]?.map (·.ntmps)).getD 0-args.size) undef)[n-args.size]? with
    |none=>exact eW
    |some y=>
     rw[Array.getElem?_replicate]at hx;split at hx
     ·cases hx;exact eW
     ·cases hx
  ·rw[Nat.div_eq_of_lt hd2];unfold oC;split<;>rfl
  ·show oA T f b [.code _] d [];rw[h1];simp only[Option.bind_some,h3,Option.getD_some];exact⟨r,h4,rfl,fun e he=>⟨h5 e he,rfl⟩⟩
 ·exact hr.finish ht e1 e2 hk v fun o' ho' hw'=>by rw[ho]at ho';cases ho';rw[zv]at hw';cases hw'
end
end
section
open Go Go.Conc
section
variable {P:aB}{T:gC}{d d1 out:Nat}{fr:ak}{cs1:List ak}{w:af}{ops:Array Oper}{i:Nat}{is:List Nat}{k:List Item}{o:Oper}{X:List (Nat×Nat)}
def Bs(hf:qM T fr out)(hm:fr.mode=.run)(ht:fr.todo=.inRegion ops (i :: is):: k)(ho:ops[i]?=some o)(JV:Region.wanted o (yielded ops fr.tmps)=true)(cs:List ak):stepG P true (G fr cs) w=stepG.apply P true fr cs none (execOp fr.eval o) w:=by obtain⟨fn,tmps,todo,defers,mode,kind,ro⟩:=fr;obtain rfl:ro=none:=hf.round;obtain rfl:mode=.run:=hm;obtain rfl:todo=.inRegion ops (i :: is):: k:=ht;simp only[stepG,G,stepG.exec,ho,Option.map_some,Option.getD_some];simp only at JV;rw[JV];simp only[if_true,stepG.oper,Frame.oper?,ho]
def jH(hf:qM T fr out)(hm:fr.mode=.run)(ht:fr.todo=.inRegion ops (i :: is):: k)(JV:((ops[i]?).map (Region.wanted · (yielded ops fr.tmps))).getD false=false)(cs:List ak):stepG P true (G fr cs) w=.go (G (fr.finish undef) cs) w #[]:=by
 obtain⟨fn,tmps,todo,defers,mode,kind,ro⟩:=fr;obtain rfl:ro=none:=hf.round;obtain rfl:mode=.run:=hm;obtain rfl:todo=.inRegion ops (i :: is):: k:=ht;have h:¬(((ops[i]?).map (Region.wanted · (yielded ops tmps))).getD false=true):=by simp only at JV;rw[JV];simp
 exact if_neg h
def Ur(hf:qM T fr out):(fr.kind == CallKind.early)=false:=by rcases hf.kind with h|h<;>rw[h]<;>rfl
def tZ(hf:qM T fr out)(ht:fr.todo=.inRegion ops (i :: is):: k)(cs:List ak):
 (∀v,s.runT P w #[]=(.ok (.value v) w',es)->stepG.apply P true fr cs none s w=.go (G (fr.finish v) cs) w' (seen P fr.fn es))/\
 (s.runT P w #[]=(.ok .skip w',es)->stepG.apply P true fr cs none s w=.go (G (fr.finish undef) cs) w' (seen P fr.fn es))/\
 (∀x,s.runT P w #[]=(.ok (.defer x) w',es)->stepG.apply P true fr cs none s w=.go (G ({fr with defers:=x :: fr.defers}.finish undef) cs) w' (seen P fr.fn es))/\
 (∀f args,s.runT P w #[]=(.ok (.enter f args) w',es)->stepG.apply P true fr cs none s w=.go (G (Frame.enter P f args .normal) (fr :: cs)) w' (seen P fr.fn es)):=by
 have hk:=Ur hf;refine⟨fun v h=>?_,fun h=>?_,fun x h=>?_,fun f args h=>?_⟩
 ·simp only[stepG.apply,if_true,h,hk,Bool.false_eq_true,if_false,GStep.after,Array.append_empty];rfl
 ·simp only[stepG.apply,if_true,h,hk,Bool.false_eq_true,if_false,GStep.after,Array.append_empty];rfl
 ·simp only[stepG.apply,if_true,h,hk,Bool.false_eq_true,if_false,GStep.after,Array.append_empty];rfl
 ·simp only[stepG.apply,if_true,h,hk,Bool.false_eq_true,if_false,GStep.after,Array.append_empty,ht];rfl
def Br(h1:o.op=.call c)(h2:c.callee=.value (.func f)):execOp fr.eval o=callFunc f (c.args.map fr.eval):=by unfold execOp;rw[h1];simp only[resolve,h2,Frame.eval,Deferred.ofValue];show invoke (.fn (.func f) #[]) (#[]++c.args.map fr.eval)=_;simp[invoke]
def tV{b:Builtin}(h1:o.op=.call c)(h2:c.callee=.builtin b):execOp fr.eval o=builtin b c.argTypes o.type (c.args.map fun|.const _=>true|_=>false) (c.args.map fr.eval):=by unfold execOp;rw[h1];simp only[resolve,h2];rfl
def Fq(h1:o.op=.call c)(h2:c.callee=.value (.tmp n)){fn:Fn}{a b:Array aj}(h3:fr.tmps.getD n undef=.func fn a b)(hf:fn=.func T.cf):execOp fr.eval o=callFunc T.cf (a++c.args.map fr.eval++b):=by unfold execOp;rw[h1];simp only[resolve,h2,Frame.eval,h3,Deferred.ofValue];subst hf;rfl
def vK(h1:o.op=.call c)(h2:c.callee=.value (.tmp n))(h3:∀fn a b,fr.tmps.getD n undef≠.func fn a b){nx:Next}:(execOp fr.eval o).runT P w #[]≠(.ok nx w',es):=by
 intro h;unfold execOp at h;rw[h1]at h;simp only[resolve,h2,Frame.eval]at h;have key:∀v:aj,(∀fn a b,v≠.func fn a b)->¬Sem.runT P (do let d <-Deferred.ofValue v (c.args.map fr.eval);invoke d.target d.args) w #[]=(.ok nx w',es):=by
  intro v hv h;cases v with
  |func fn a b=>exact hv fn a b rfl
  |nilFunc=>
   have e:(do let d <-Deferred.ofValue .nilFunc (c.args.map fr.eval);invoke d.target d.args)=(runtimePanic .nilDeref:Sem Next):=rfl;rw[e]at h;have:=(zn (Q:=fun _=>False)).out h;exact this
  |_=>cases h
 exact key _ h3 h
def zc(h1:o.op=.defer c)(h2:c.callee=.value (.func f))(es:Array aC):(execOp fr.eval o).runT P w es=(.ok (.defer {target:=.fn (.func f) #[],args:=#[]++c.args.map fr.eval}) w,es):=by unfold execOp;rw[h1];simp only[resolve,h2,Frame.eval,Deferred.ofValue];rfl
def vL{x:Deferred}(h:s.runT P w #[]=(.ok (.spawn x) w',es))(cs:List ak):tU (stepG.apply P true fr cs none s w):=by simp only[stepG.apply,if_true,h];refine tU.after ?_ _;repeat' (first|exact nS ..|exact .inr (.inr ⟨_,_,_,_,rfl⟩)|split)
def Us(h1:o.op=.go c):gA (fun n=>∃x,n=Next.spawn x) (execOp fr.eval o):=by unfold execOp;rw[h1];exact iK _ fun _=>.pure ⟨_,rfl⟩
def vJ{r:aD}{s:String}(h1:o.op=.call c)(h2:c.callee=.invoke r s):execOp fr.eval o=callMethod (fr.eval r) s (c.args.map fr.eval):=by
 unfold execOp;rw[h1];simp only[resolve,h2];have key:∀(v:aj) (asx:Array aj),invoke (.fn (.method s) #[]) (#[v]++asx)=callMethod v s asx:=by
  intro v asx;have e1:(#[v]++asx)[0]?=some v:=by simp[Array.getElem?_append]
  have e2:(#[v]++asx).extract 1 (#[v]++asx).size=asx:=by
   apply Array.ext
   ·simp
   ·intro j h1 h2;simp
  simp only[invoke,e1,e2]
 exact key _ _
def Db(hT:gS P T){s:String}(hs:T.Ip s=true){args:Array aj}{n:Next}(h:(callMethod v s args).runT P w #[]=(.ok n w',es)):
 ∃f args',n=.enter f args'/\T.jS f 0=some 0/\T.vA f= []/\∀g d,deafBehind d (seen P g es)=d:=by
 cases v with
 |iface t x=>
  have e0:callMethod (.iface t x) s args=(do let (f,receiver)<-method ((<-program).types.size+Made.depth) t x s;callFunc f (#[receiver]++args)):=rfl;rw[e0,fL]at h;have e1:program.runT P w #[]=(.ok P w,#[]):=rfl;rw[e1]at h;simp only at h;rw[fL]at h;obtain⟨r,wh,hr⟩:∃r e,(method (P.types.size+Made.depth) t x s).runT P w #[]=(r,e):=⟨_,_,rfl⟩
  rw[hr]at h;cases r with
  |halt hh w1=>cases h
  |ok fx w1=>
   obtain⟨f,rc⟩:=fx;simp only at h;obtain⟨g1,g2⟩:=hT.Ip s f hs (nT _ hr);obtain⟨fn,c,q1,q2,q3,_⟩:=hT.jS f 0 0 g1;rw[fJ q1 q2 q3]at h;cases h;exact⟨f,_,rfl,g1,g2,fun g d=>qc (u9 ..) hr d⟩
 |nilIface=>
  have:=(zn (Q:=fun _=>False)).out h;exact this.elim
 |_=>cases h
end
end
section
open Go Go.Conc
section
variable {P:aB}{T:gC}{d out:Nat}{fr:ak}{cs1:List ak}{w:af}
def IQ(hT:gS P T)(hf:qM T fr out)(hr:mS T d fr out)(hw:Wt T fr.kind out cs1)(hm:fr.mode=.run)(hs:∀cs,stepG P true (G fr cs) w=stepG.apply P true fr cs none s w)(hh:s.runT P w #[]=(.halt h w',es)):j4 P T d fr cs1 w\/zq P fr cs1 w:=by
 rcases y9 (fr:=fr) hT.ou hf.kind hh with⟨e,es',he,hg⟩|⟨w2,hg⟩|hg
 ·exact .inl (FG hf hw hm he fun cs=>(hs _).trans (hg _))
 ·refine .inl ⟨fr,cs1,w2,#[],d,fun cs=>(hs _).trans (hg _),⟨out,⟨hf,?_⟩,hw⟩,fun h=>⟨h,rfl⟩⟩;unfold gO;rw[hm];exact hr
 ·refine .inr fun cs=>?_;rw[hs];exact hg _
def Ut(hT:gS P T)(hf:qM T fr out)(hr:mS T d fr out)(hw:Wt T fr.kind out cs1)(hm:fr.mode=.run)(hop:Yb fr)(w:af):j4 P T d fr cs1 w\/zq P fr cs1 w:=by
 obtain⟨ops,i,is,k,ht⟩:=hop;obtain⟨s,X,qq,tF,hk⟩:=hr.ok;rw[ht]at hk;cases ho:ops[i]? with
 |none=>
  refine .inl (j8 hf hr hw hm ht qq tF (Yu hk ho) undef (fun _ _ _=>eW) (fun cs=>jH hf hm ht (by rw[ho];rfl) _) rfl)
 |some o=>
  obtain⟨s1,h1,h2,h3⟩:=QA hk ho;cases JV:Region.wanted o (yielded ops fr.tmps)with
  |false=>
   have e:s1=s:=by
    rcases h2 with h2|h2
    ·unfold Region.wanted at JV;rw[h2]at JV;cases JV
    ·exact h2
   subst e;exact .inl (j8 hf hr hw hm ht qq tF h3 undef (fun _ _ _=>eW) (fun cs=>jH hf hm ht (by rw[ho];exact JV) _) rfl)
  |true=>
   have hs:∀cs,stepG P true (G fr cs) w=stepG.apply P true fr cs none (execOp fr.eval o) w:=fun cs=>Bs hf hm ht ho JV cs;have e:∃r es,(execOp fr.eval o).runT P w #[]=(r,es):=⟨_,_,rfl⟩
   obtain⟨r,es,hrun⟩:=e;cases r with
   |halt h w'=>exact IQ hT hf hr hw hm hs hrun
   |ok n w'=>
    have val:∀v,n=.value v->s1 / 2=s / 2->deafBehind d (seen P fr.fn es)=s1 % 2->(T.wr fr.fn o=true->vf T v)->j4 P T d fr cs1 w\/zq P fr cs1 w:=fun v hn e2 hd hc=>by subst hn;left;exact j8 hf hr hw hm ht rfl (e2.trans tF) h3 v (fun o' ho' hw'=>by rw[ho]at ho';cases ho';exact hc hw') (fun cs=>(hs _).trans ((tZ hf ht _).1 v hrun)) hd
    have skp:n=.skip->s1 / 2=s / 2->deafBehind d (seen P fr.fn es)=s1 % 2->j4 P T d fr cs1 w\/zq P fr cs1 w:=fun hn e2 hd=>by subst hn;left;exact j8 hf hr hw hm ht rfl (e2.trans tF) h3 undef (fun _ _ _=>eW) (fun cs=>(hs _).trans ((tZ hf ht _).2.1 hrun)) hd
    have plain:tT o.op=true->s1=s->(∀v,n=.value v->T.wr fr.fn o=true->vf T v)->j4 P T d fr cs1 w\/zq P fr cs1 w:=fun hp e hc=>by
     have hd:=qc (f:=fr.fn) (tS (ρ:=fr.eval) hp) hrun d;rcases(Mv (ρ:=fr.eval) hp).out hrun with⟨v,hv⟩|hv
     ·exact val v hv (by rw[e]) (by rw[hd,e,qq]) (hc v hv)
     ·exact skp hv (by rw[e]) (by rw[hd,e,qq])
    have ent:∀f b args,n=.enter f args->deafBehind d (seen P fr.fn es)=d->T.jS f d=some b->s1 % 2=b->s1 / 2=s / 2->T.wr fr.fn o=false->(∀m∈T.vA f,vf T (args.getD m undef))->j4 P T d fr cs1 w\/zq P fr cs1 w:=fun f b args hn VA hi hb e2 zv ha=>by subst hn;exact .inl ⟨Frame.enter P f args .normal,fr :: cs1,w',seen P fr.fn es,d,fun cs=>(hs _).trans ((tZ hf ht _).2.2.2 f args hrun),Mw hT hf hr hw hm ht ho zv hi hb (e2.trans tF) h3 args ha,fun h=>⟨fun c hc=>h c (zbi _ hc),VA⟩⟩
    have acZ:∀f b args,T.jS f d=some b->s1 % 2=b->s1 / 2=s / 2->T.wr fr.fn o=false->(∀m∈T.vA f,vf T (args.getD m undef))->execOp fr.eval o=callFunc f args->j4 P T d fr cs1 w\/zq P fr cs1 w:=fun f b args hi hb e2 zv ha he=>by obtain⟨fn,c,g1,g2,g3,_⟩:=hT.jS f d b hi;have jd:=hrun;rw[he,fJ g1 g2 g3]at jd;cases jd;exact ent f b args rfl rfl hi hb e2 zv ha
    unfold gC.TX at h1;cases hop:o.op with
    |call c=>
     rw[hop]at h1;simp only at h1;split at h1
     ·cases h1
     ·rename_i zv;have zv:T.wr fr.fn o=false:=by simpa using zv
      have vx:∀v,n=.value v->s1 / 2=s / 2->deafBehind d (seen P fr.fn es)=s1 % 2->j4 P T d fr cs1 w\/zq P fr cs1 w:=fun v hn e2 hd=>val v hn e2 hd fun hh=>by rw[zv]at hh;cases hh
      cases hc:c.callee with
      |invoke r nm=>
       rw[hc]at h1;simp only at h1;split at h1
       ·rename_i hh;obtain⟨hme,rfl⟩:=hh;cases h1;have jd:=hrun;rw[vJ hop hc]at jd;obtain⟨f,args,hn,hi,qY,hd⟩:=Db hT hme jd;have Zz:d=0:=qq.symm;subst Zz;exact ent f 0 args hn (hd _ _) hi rfl rfl zv (by rw[qY];intro m hm;cases hm)
       ·cases h1
      |builtin b=>
       rw[hc]at h1;simp only at h1;split at h1
       ·rename_i hb;cases h1;have jd:=hrun;rw[tV hop hc]at jd;have hd:=qc (f:=fr.fn) (y8 hb ..) jd d;rcases(Dc hb ..).out jd with⟨v,hv⟩|hv
        ·exact vx v hv rfl (hd.trans qq.symm)
        ·exact skp hv rfl (hd.trans qq.symm)
       ·cases h1
      |value x=>
       cases x with
       |tmp m=>
        rw[hc]at h1;simp only at h1;split at h1
        ·rename_i hh;obtain⟨hm1,rfl⟩:=hh;cases h1;have Zz:d=0:=qq.symm;subst Zz;have qY:=hr.vA m (by simpa using hm1);cases hv:fr.tmps.getD m undef with
         |func fn a b=>
          have hfn:=qY fn a b hv;exact acZ T.cf 0 _ hT.cf.1 rfl rfl zv (by rw[hT.cf.2];intro m hm;cases hm) (Fq hop hc hv hfn)
         |_=>exact absurd hrun (vK hop hc (fun fn a b=>by rw[hv];intro h;cases h))
        ·cases h1
       |func f=>
        rw[hc]at h1;simp only at h1;split at h1
        ·rename_i ahN;have hex:=Br (fr:=fr) (o:=o) hop hc;have jd:=hrun;rw[hex]at jd;obtain⟨e,zF,h1⟩:=zbj.1 h1;have he2:e<2:=by
          by_cases hx:e<2
          ·exact hx
          ·rw[if_neg hx]at h1;cases h1
         rw[if_pos he2]at h1;cases h1;have q1:(e+2*(s / 2))% 2=e:=by omega
         have q2:(e+2*(s / 2))/ 2=s / 2:=by omega
         rw[qq]at zF;unfold gC.fD at zF;split at zF
         ·rename_i Qy;subst Qy;obtain⟨⟨v,hv⟩,hd⟩:=hT.M3 _ _ _ _ _ jd;exact vx v hv q2 (by rw[hd,q1];cases zF;rfl)
         ·split at zF
          ·rename_i _ Qy;subst Qy;obtain⟨v,wV,hx,hd⟩:=hT.en (c.args.map fr.eval) w;rw[hx]at jd;cases jd;split at zF
           ·cases zF
           ·exact vx v rfl q2 (by rw[hd,q1];cases zF;rfl)
          ·split at zF
           ·rename_i hx;obtain⟨⟨v,hv⟩,hd⟩:=hT.ext f hx _ _ _ _ _ jd;exact vx v hv q2 (by rw[hd,q1];cases zF;rfl)
           ·refine acZ f e _ zF q1 q2 zv (fun m hm=>?_) hex;have:=List.all_eq_true.1 ahN m hm;rw[zbm,Array.getElem?_map];cases hq:c.args[m]? with
            |none=>exact eW
            |some x=>
             rw[hq]at this;simp only[Option.map_some,Option.getD_some]at this⊢;cases x with
             |tmp t=>exact hr.vA t (by simpa[gC.j5]using this)
             |func g=>
              intro fn a' c' he;simp only[Frame.eval,Value.func.injEq]at he;have hg:g=T.cf:=by simpa[gC.j5]using this
              rw[<-he.1,hg]
             |_=>simp[gC.j5]at this
        ·cases h1
       |_=>rw[hc]at h1;cases h1
    |go c=>
     obtain⟨x,rfl⟩:=(Us (fr:=fr) hop).out hrun;refine .inr fun cs=>?_;rw[hs];exact vL hrun _
    |defer c=>
     rw[hop]at h1;simp only at h1;cases hc:c.callee with
     |value x=>
      cases x with
      |func f=>
       rw[hc]at h1;simp only at h1;split at h1
       ·cases h1
       rename_i zv;have jd:=zc (fr:=fr) (P:=P) (w:=w) hop hc #[];have more:∀(ds:List Deferred),ds={target:=.fn (.func f) #[],args:=#[]++c.args.map fr.eval}:: fr.defers->qM T {fr with defers:=ds} out->s1 % 2=d->s1 / 2=oC T {fr with defers:=ds}->j4 P T d fr cs1 w:=by intro ds hds hf' e1 e2;obtain⟨m1,m2⟩:=vP (fr:={fr with defers:=ds}) ht undef;refine⟨({fr with defers:=ds}:ak).finish undef,cs1,w,seen P fr.fn #[],d,fun cs=>(hs _).trans (by rw[hds];exact(tZ hf ht _).2.2.1 _ jd),⟨out,⟨hf'.finish ht undef,?_⟩,by rw[m2];exact hw⟩,fun h=>⟨h.top (fun ch he=>by rw[hm]at he;cases he),rfl⟩⟩;have m3:=m1.trans hm;unfold gO;rw[m3];rw[qg (fr:={fr with defers:=ds}) ht];exact⟨zw hr.vA undef (fun _ _ _=>eW),s1,X,e1,e2,h3⟩
       split at h1
       ·rename_i lT;split at h1
        ·rename_i Qy;cases h1;left;refine more _ rfl ⟨hf.round,fun x hx=>?_,hf.kind,hf.jS,.inl lT⟩ (by omega) ?_
         ·rcases zbq.1 hx with rfl|hx
          ·exact⟨#[],by simp only[lT,if_true,Qy]⟩
          ·exact hf.w8 x hx
         ·have:oC T fr=fr.defers.length:=by unfold oC;rw[if_pos lT]
          rw[this]at tF;unfold oC;simp only[lT,if_true,List.length_cons];omega
        ·cases h1
       ·rename_i lT;split at h1
        ·rename_i hh;obtain⟨Qy,hz⟩:=hh;cases h1;have hout:out=0:=by
          obtain⟨a,ha⟩:=hf.jS;have h2:=hT.two _ _ _ ha;rcases zbt a 1 with h3|h3
          ·obtain rfl:a=0:=by omega
           rw[hz.1]at ha;cases ha;rfl
          ·obtain rfl:a=1:=by omega
           rw[hz.2]at ha;cases ha
         left;refine more _ rfl ⟨hf.round,fun x hx=>?_,hf.kind,hf.jS,.inr (.inr hout)⟩ qq ?_
         ·rcases zbq.1 hx with rfl|hx
          ·exact⟨#[],by simp only[lT,Bool.false_eq_true,if_false,Qy]⟩
          ·exact hf.w8 x hx
         ·unfold oC at tF⊢;rw[if_neg lT]at tF;simp only[lT,Bool.false_eq_true,if_false];exact tF
        ·cases h1
      |_=>rw[hc]at h1;cases h1
     |_=>rw[hc]at h1;cases h1
    |move x=>
     rw[hop]at h1;simp only at h1;split at h1
     ·cases h1
     ·rename_i hh;refine plain (by rw[hop];rfl) (by cases h1;rfl) fun v hv zv=>?_;have hx:T.j5 fr.fn x=true:=by
       cases hq:T.j5 fr.fn x with
       |true=>rfl
       |false=>exact absurd ⟨zv,hq⟩ hh
      have he:v=fr.eval x:=by unfold execOp at hrun;rw[hop]at hrun;cases hrun;cases hv;rfl
      subst he;cases x with
      |tmp t=>exact hr.vA t (by simpa[gC.j5]using hx)
      |func g=>
       intro fn a' c' he;simp only[Frame.eval,Value.func.injEq]at he;have hg:g=T.cf:=by simpa[gC.j5]using hx
       rw[<-he.1,hg]
      |_=>simp[gC.j5]at hx
    |assign x=>
     rw[hop]at h1;simp only at h1;split at h1
     ·cases h1
     ·rename_i hh;refine plain (by rw[hop];rfl) (by cases h1;rfl) fun v hv zv=>?_;have hx:T.j5 fr.fn x=true:=by
       cases hq:T.j5 fr.fn x with
       |true=>rfl
       |false=>exact absurd ⟨zv,hq⟩ hh
      have he:v=fr.eval x:=by unfold execOp at hrun;rw[hop]at hrun;cases hrun;cases hv;rfl
      subst he;cases x with
      |tmp t=>exact hr.vA t (by simpa[gC.j5]using hx)
      |func g=>
       intro fn a' c' he;simp only[Frame.eval,Value.func.injEq]at he;have hg:g=T.cf:=by simpa[gC.j5]using hx
       rw[<-he.1,hg]
      |_=>simp[gC.j5]at hx
    |makeFunc fn a b=>
     rw[hop]at h1;simp only at h1;split at h1
     ·cases h1
     ·rename_i hh;refine plain (by rw[hop];rfl) (by cases h1;rfl) fun v hv zv=>?_;have he:v=.func fn (a.map fr.eval) (b.map fr.eval):=by unfold execOp at hrun;rw[hop]at hrun;cases hrun;cases hv;rfl
      subst he;intro fn' a' c' he;cases he;cases fn with
      |func f=>
       have:f=T.cf:=by
        cases hq:f == T.cf with
        |true=>simpa using hq
        |false=>exact absurd ⟨zv,hq⟩ hh
       rw[this]
      |_=>exact absurd ⟨zv,rfl⟩ hh
    |_=>
     rw[hop]at h1;simp only at h1;split at h1
     ·rename_i hh;exact plain (by rw[hop];exact hh.1) (by cases h1;rfl) fun v hv zv=>by rw[hh.2]at zv;cases zv
     ·cases h1
end
end
section
open Go Go.Conc
section
variable {P:aB}{T:gC}{d out:Nat}{fr:ak}{cs1:List ak}{w:af}
def zx(c:ak)(v:aj):(c.finish v).fn=c.fn/\(c.finish v).defers=c.defers/\(c.finish v).mode=c.mode/\(c.finish v).kind=c.kind/\(c.finish v).roundOf=c.roundOf:=by unfold Frame.finish;split<;>exact⟨rfl,rfl,rfl,rfl,rfl⟩
def qM.fin{c:ak}(h:qM T c out)(v:aj):qM T (c.finish v) out:=by obtain⟨e1,e2,e3,e4,e5⟩:=zx c v;exact⟨by rw[e5];exact h.round,by rw[e2,e1];exact h.w8,by rw[e4];exact h.kind,by rw[e1];exact h.jS,by rw[e2,e1];exact h.Yv⟩
def qM.rai{c:ak}(h:qM T c out)(ch:List PanicEntry):qM T (c.raise ch) out:=by unfold Frame.raise;split<;>exact⟨h.round,h.w8,h.kind,h.jS,h.Yv⟩
def Leave(fr:ak)(cs1:List ak):Prop:=cs1= []/\fr.mode≠.run/\fr.defers= []
def FH(hT:gS P T)(hf:qM T fr out)(hmo:gO T d fr out)(hw:Wt T fr.kind out cs1)(hm:fr.mode≠.run)(w:af):j4 P T d fr cs1 w\/zq P fr cs1 w\/Leave fr cs1:=by
 have hu:∀cs,stepG P true (G fr cs) w=unwind P true fr cs none w:=fun cs=>by simp only[stepG,G]
 obtain⟨a0,QB⟩:=hf.jS;obtain⟨fn0,c0,g1,g2,g3,_⟩:=hT.jS _ _ _ QB;cases hd:fr.defers with
 |cons x ds=>
  left;obtain⟨cap,hx⟩:=hf.w8 x (by rw[hd];exact zbr ..);by_cases lT:T.den fr.fn=true
  ·rw[if_pos lT]at hx;obtain⟨v,es,sj,VA⟩:=hT.en (x.args++cap) w;have hstep:∀cs,stepG P true (G fr cs) w=.go (G {fr with defers:=ds} cs) w (seen P fr.fn es):=fun cs=>by rw[hu];unfold unwind;rw[hd];obtain⟨tg,ar⟩:=x;obtain rfl:tg=.fn (.func T.en) cap:=hx;simp only[callDeferred];have e1:(invoke (.fn (.func T.en) cap) ar).runT P w #[]=(.ok (.value v) w,es):=sj;simp only[e1,Bool.false_and,Bool.false_eq_true,if_false,GStep.after,Array.append_empty];rfl
   have Yw:oC T fr=ds.length+1:=by unfold oC;rw[if_pos lT,hd];rfl
   have aj3:oC T {fr with defers:=ds}=ds.length:=by unfold oC;simp only[lT,if_true]
   refine⟨{fr with defers:=ds},cs1,w,seen P fr.fn es,d-1,fun cs=>hstep _,⟨out,⟨⟨hf.round,fun y hy=>hf.w8 y (by rw[hd];exact zbi _ hy),hf.kind,hf.jS,.inl lT⟩,?_⟩,hw⟩,fun h=>⟨fun c hc ch he=>?_,VA _ _⟩⟩
   ·unfold gO at hmo⊢;simp only;cases tX:fr.mode with
    |run=>exact absurd tX hm
    |returning=>
     rw[tX]at hmo;have IU:d=out+oC T fr:=hmo;show d-1=out+oC T _;rw[Yw]at IU;have e3:∀q:FrameMode,oC T {fr with defers:=ds,mode:=q}=ds.length:=fun q=>by unfold oC;simp only[lT,if_true]
     rw[e3];omega
    |panicking ch=>rw[tX]at hmo;exact hmo
   ·rcases zbq.1 hc with rfl|hc
    ·exact h {c with defers:=ds} (zbr ..) ch he
    ·exact h c (zbi _ hc) ch he
  rw[if_neg lT]at hx;have hout:out=0:=by
   rcases hf.Yv with h|h|h
   ·exact absurd h lT
   ·rw[hd]at h;cases h
   ·exact h
  subst hout;have Yw:oC T fr=0:=by unfold oC;rw[if_neg lT]
  obtain⟨fn,c,q1,q2,q3,r,q4,q5⟩:=hT.jS _ _ _ hT.Bt.1;have hstep:∀cs,stepG P true (G fr cs) w=.go (G (Frame.enter P T.Bt (x.args++cap) .deferred) ({fr with defers:=ds}:: cs)) w #[]:=fun cs=>by rw[hu];unfold unwind;rw[hd];obtain⟨tg,ar⟩:=x;obtain rfl:tg=.fn (.func T.Bt) cap:=hx;simp only[callDeferred];have e1:(invoke (.fn (.func T.Bt) cap) ar).runT P w #[]=(.ok (.enter T.Bt (ar++cap)) w,#[]):=fJ q1 q2 q3 _ _ _;simp only[e1,Bool.false_and,Bool.false_eq_true,if_false];rfl
  have hf':qM T {fr with defers:=ds} 0:=⟨hf.round,fun x hx=>hf.w8 x (by rw[hd];exact zbi _ hx),hf.kind,hf.jS,.inr (.inr rfl)⟩
  refine⟨_,{fr with defers:=ds}:: cs1,w,#[],0,fun cs=>hstep _,⟨0,⟨⟨rfl,(fun x hx=>by simp[Frame.enter]at hx),.inr rfl,⟨0,hT.Bt.1⟩,.inr (.inl rfl)⟩,?_⟩,0,hf',hw,.inr ⟨rfl,hm,?_⟩⟩,fun h=>⟨fun c hc ch he=>?_,?_⟩⟩
  ·show mS T 0 _ 0;refine⟨fun n hn=>?_,0, [],rfl,?_,?_⟩
   ·rw[show (Frame.enter P T.Bt (x.args++cap) CallKind.deferred).fn=T.Bt from rfl,hT.Bt.2]at hn;cases hn
   ·unfold oC;split<;>rfl
   ·show oA T T.Bt 0 [.code _] 0 [];rw[q1];simp only[Option.bind_some,q3,Option.getD_some];exact⟨r,q4,rfl,fun e he=>⟨q5 e he,rfl⟩⟩
  ·unfold gO at hmo⊢;simp only;cases tX:fr.mode with
   |run=>exact absurd tX hm
   |returning=>
    show (0:Nat)=0+oC T _;have e3:∀q:FrameMode,oC T {fr with defers:=ds,mode:=q}=0:=fun q=>by unfold oC;rw[if_neg lT]
    rw[e3]
   |panicking ch=>rw[tX]at hmo;exact hmo
  ·rcases zbq.1 hc with rfl|hc
   ·exact h {c with defers:=ds} (zbi _ (zbr ..)) ch he
   ·exact h c (zbi _ (zbi _ hc)) ch he
  ·unfold gO at hmo;cases tX:fr.mode with
   |run=>exact absurd tX hm
   |returning=>
    rw[tX]at hmo;have IU:d=0+oC T fr:=hmo;rw[Yw]at IU;exact IU
   |panicking ch=>exact absurd tX (h {fr with defers:=ds} (zbi _ (zbr ..)) ch)
 |nil=>
  cases cs1 with
  |nil=>exact .inr (.inr ⟨rfl,hm,hd⟩)
  |cons c rest=>
   obtain⟨out',K4,YQ,jm⟩:=hw;cases tX:fr.mode with
   |run=>exact absurd tX hm
   |panicking ch=>
    left;unfold gO at hmo;rw[tX]at hmo;have xy:fr.catches P=false:=by unfold Frame.catches;rw[g1]
    have hk:(c.raise ch).kind=c.kind:=by unfold Frame.raise;split<;>rfl
    have ahO:∃ch',(c.raise ch).mode=.panicking ch'/\∀e∈ch',e.recovered=false:=by
     unfold Frame.raise;split
     ·rename_i ch' zR;refine⟨_,rfl,fun e he=>?_⟩;rcases List.mem_append.1 he with he|he
      ·exact hmo e he
      ·rcases jm with⟨_,h2,_⟩|⟨_,_,h3⟩
       ·rw[zR]at h2;cases h2
       ·unfold gO at h3;rw[zR]at h3;exact h3 e he
     ·exact⟨_,rfl,hmo⟩
    obtain⟨ch',hp1,SH⟩:=ahO;refine⟨c.raise ch,rest,w,#[],d,fun cs=>?_,⟨out',⟨K4.rai ch,?_⟩,by rw[hk];exact YQ⟩,fun h=>absurd hp1 (h _ (zbr ..) ch')⟩
    ·rw[hu];unfold unwind;rw[hd];simp only[tX,xy,Bool.false_eq_true,if_false,List.cons_append];rfl
    ·unfold gO;rw[hp1];exact SH
   |returning=>
    unfold gO at hmo;rw[tX]at hmo;have ac0:oC T fr=0:=by unfold oC;rw[hd];split<;>rfl
    obtain rfl:d=out:=by have IU:d=out+oC T fr:=hmo;rw[ac0]at IU;exact IU
    have e0:∃r es,(results fn0 fr.tmps).runT P w #[]=(r,es):=⟨_,_,rfl⟩
    obtain⟨r,es,hrun⟩:=e0;cases r with
    |halt h w'=>
     refine .inr (.inl fun cs=>.inl ?_);rw[hu];unfold unwind;rw[hd];simp only[tX,g1,hrun];cases h<;>exact⟨_,_,_,rfl⟩
    |ok v w'=>
     left;have VA:=qc (f:=fr.fn) (ze fn0 fr.tmps) hrun d;have QC:∀cs,stepG P true (G fr cs) w=(doReturn P true fr cs none v w').after (seen P fr.fn es):=fun cs=>by rw[hu];unfold unwind;rw[hd];simp only[tX,g1,hrun]
     rcases jm with⟨hk,hcm,FU⟩|⟨hk,hcm,Ft⟩
     ·obtain⟨e1,e2,e3,e4,e5⟩:=zx c v;refine⟨c.finish v,rest,w',seen P fr.fn es,d,fun cs=>?_,⟨out',⟨K4.fin v,?_⟩,by rw[e4];exact YQ⟩,fun h=>⟨fun c' zR ch he=>?_,VA⟩⟩
      ·rw[QC];simp only[List.cons_append,doReturn,hk,GStep.after,Array.append_empty];rfl
      ·unfold gO;rw[e3,hcm];exact FU v
      ·rcases zbq.1 zR with rfl|zR
       ·rw[tX]at he;cases he
       ·rcases zbq.1 zR with rfl|zR
        ·rw[hcm]at he;cases he
        ·exact h c' (zbi _ zR) ch he
     ·refine⟨c,rest,w',seen P fr.fn es,d,fun cs=>?_,⟨out',⟨K4,Ft⟩,YQ⟩,fun h=>⟨fun c' zR ch he=>?_,VA⟩⟩
      ·rw[QC];simp only[List.cons_append,doReturn,hk];split
       ·rename_i v' g' older hmm;unfold gO at Ft;rw[hmm]at Ft;have:=Ft _ (zbr ..);simp at this
       ·simp only[GStep.after,Array.append_empty];rfl
      ·rcases zbq.1 zR with rfl|zR
       ·rw[tX]at he;cases he
       ·exact h c' zR ch he
def yG(hT:gS P T)(h:zJ T d fr cs1)(w:af):j4 P T d fr cs1 w\/zq P fr cs1 w\/Q2 T fr\/Leave fr cs1:=by
 obtain⟨out,⟨hf,hmo⟩,hw⟩:=h;by_cases hm:fr.mode=.run
 ·have hr:mS T d fr out:=by unfold gO at hmo;rw[hm]at hmo;exact hmo
  rcases Q3 (P:=P) hf hr hw hm w with h|h|h|h
  ·exact .inl h
  ·exact .inr (.inl h)
  ·exact .inr (.inr (.inl h))
  ·exact(Ut hT hf hr hw hm h w).imp id .inl
 ·exact(FH hT hf hmo hw hm w).imp id (Or.imp id .inr)
end
end
section
open Go Go.Conc
section
variable {P:aB}{T:gC}
def wF{a:au}{o:Outcome}(h:stepG P true a w=.ended o w' es):(runT P (solo a w) 0).1=.ended o w':=by simp[runT,solo,Array.swapAt!,Array.swapAt,h,GStep.es]
def gn{a:au}{o:Outcome}(hs:a.status=.running)(h:stepG P true a w=.ended o w' es):step P (solo a w)=.ended o w':=by rw[step,stepT_solo hs,wF h]
def endWith_ended(w:af)(n:Nat)(b:ah)(o:Outcome):∃o' w' es,endWith w n b o=.ended o' w' es:=by unfold endWith;dsimp only;repeat' (first|exact⟨_,_,_,rfl⟩|split)
def Dd{a:au}(hs:a.status=.blocked):∃o w',step P (solo a w)=.ended o w':=by
 have h1:runnable (solo a w).gs (solo a w).world.os.mono= []:=by simp[solo,runnable_eq,Goroutine.canRun,List.range_succ,hs]
 unfold step stepT move;simp only[solo]at h1⊢;simp[ask,askOn,h1,due,ahead,pure,hs];obtain⟨o,w',es,he⟩:=endWith_ended w 2 (bytes ("fatal error: all goroutines are asleep - deadlock!\n")) (.fatal "all goroutines are asleep - deadlock!");rw[he];exact⟨_,_,rfl⟩
def De{a:au}(hs:a.status=.waiting):step P (solo a w)=.next (solo a w):=by
 have h1:runnable (solo a w).gs (solo a w).world.os.mono= []:=by simp[solo,runnable_eq,Goroutine.canRun,List.range_succ,hs]
 unfold step stepT move;simp only[solo]at h1⊢;simp[ask,askOn,h1,due,ahead,pure,hs]
def Df(fr:ak)(d:Dying)(f:Fatal)(w:af)(hc:d.calling=false):(∃o w' es,writeOn P fr d f w=.ended o w' es)\/∃g' w' es,writeOn P fr d f w=.go g' w' es/\BB g':=by
 unfold writeOn;dsimp only;split
 ·exact .inl ⟨_,_,_,rfl⟩
 ·split
  ·exact .inr ⟨_,_,_,rfl,.inr (.inr ⟨rfl,_,_,rfl,hc,rfl⟩)⟩
  ·exact .inr ⟨_,_,_,rfl,.inl rfl⟩
  ·exact .inl ⟨_,_,_,rfl⟩
  ·exact .inl ⟨_,_,_,rfl⟩
def Mx{m:Machine}(h:BB g)(hs:step P (solo g w)=.next m):∃g' w',m=solo g' w'/\BB g':=by
 rcases h with h|h|⟨h,d,f,h1,h2,h3⟩
 ·obtain⟨o,w',he⟩:=Dd (P:=P) (w:=w) h;rw[he]at hs;cases hs
 ·rw[De h]at hs;cases hs;exact⟨g,w,rfl,.inr (.inl h)⟩
 ·have e:stepG P true g w=writeOn P g.frame d f w:=by obtain⟨fr,cs,st,dy,off⟩:=g;obtain⟨todo,texts,calling,pending,re,hand,fatal⟩:=d;simp only at h1 h2 h3;subst h1 h2 h3;rfl
  rcases Df (P:=P) g.frame d f w h2 with⟨o,w',es,he⟩|⟨g',w',es,he,hd⟩
  ·rw[gn h (e.trans he)]at hs;cases hs
  ·rw[step_solo_go h (e.trans he)]at hs;cases hs;exact⟨g',w',rfl,hd⟩
def rT:∀(n:Nat) {g:au} {w:af} {fr:ak} {cs:List ak} {w':af},BB g->runN P n (solo g w)≠.next (lone fr cs w')
 | 0,g,w,fr,cs,w',h,hr=>by
   rw[lone_eq_solo]at hr;simp only[runN,Stepped.next.injEq,solo,Machine.mk.injEq,Array.mk.injEq,List.cons.injEq,and_true]at hr;obtain⟨_,rfl⟩:=hr;rcases h with h|h|⟨_,d,f,h1,_⟩
   ·cases h
   ·cases h
   ·cases h1
 |n+1,g,w,fr,cs,w',h,hr=>by
  unfold runN at hr;cases hs:step P (solo g w)with
  |ended o w2=>rw[hs]at hr;cases hr
  |next m=>
   rw[hs]at hr;obtain⟨g',w2,rfl,hd⟩:=Mx h hs;exact rT n hd hr
def rU:∀(n:Nat) {m:Machine} {fr:ak} {cs:List ak} {w':af},1<m.gs.size->runN P n m≠.next (lone fr cs w')
 | 0,m,fr,cs,w',h,hr=>by simp only[runN,Stepped.next.injEq]at hr;subst hr;simp[lone]at h
 |n+1,m,fr,cs,w',h,hr=>by
  unfold runN at hr;cases hs:step P m with
  |ended o w2=>rw[hs]at hr;cases hr
  |next m2=>
   rw[hs]at hr;exact rU n (Nat.lt_of_lt_of_le h (stepT_size P m m2 true hs)) hr
inductive LR(P:aB):ak->List ak->af->List (ay×String×Array aC)->ak->List ak->af->Prop
 |refl {fr:ak} {c:List ak} {w:af}:LR P fr c w [] fr c w
 |step {fr fZ fr':ak} {c c1 c':List ak} {w w1 w':af} {es:Array aC} {l:List (ay×String×Array aC)}:(∀cs,stepG P true (G fr (c++cs)) w=.go (G fZ (c1++cs)) w1 es)->LR P fZ c1 w1 l fr' c' w'->LR P fr c w ((fr.fn,fr.place,es):: l) fr' c' w'
def ac1(d:Nat)(l:List (ay×String×Array aC)):Nat:=l.foldl (fun d x=>deafBehind d x.2.2) d
def cV(P:aB):ak:={fn:=P.funcs.size,tmps:=#[undef],todo:= [.call {target:=.nil,args:=#[]} false "fmt's door: nowhere" #[]],defers:= [],mode:=.run,kind:=.normal}
def My:Extern.next "fmt's door: nowhere" =none:=by kernel_rfl
def kT{cs':List ak}(h:lone fr cs w=lone fr' cs' w'):fr=fr'/\cs=cs'/\w=w':=by simp only[lone,Machine.mk.injEq,Array.mk.injEq,List.cons.injEq,Goroutine.mk.injEq]at h;obtain⟨h1,⟨⟨h2,h3,_⟩,_⟩,_⟩:=h;exact⟨h2,h3,h1⟩
def vM(hT:gS P T)(hS:zJ T d fr [])(hl:Leave fr []):runN P (n+1) (lone fr [cV P] w)≠.next (lone fr' (c'++ [cV P]) w'):=by
 obtain⟨out,⟨hf,hmo⟩,hw⟩:=hS;obtain⟨_,hm,hd⟩:=hl;have hk:fr.kind=.normal:=hw;obtain⟨a0,QB⟩:=hf.jS;obtain⟨fn0,c0,g1,g2,g3,_⟩:=hT.jS _ _ _ QB;intro hr;have over:∀(x:ak) (w1:af),(∀w,∃o w2 es,stepG P true (G x []) w=.ended o w2 es)->step P (lone fr [cV P] w)=.next (lone x [] w1)->False:=by
  intro x w1 hx hs;unfold runN at hr;rw[hs]at hr;simp only at hr;cases n with
  |zero=>
   simp only[runN,Stepped.next.injEq]at hr;have:=(kT hr).2.1;simp at this
  |succ n=>
   unfold runN at hr;obtain⟨o,w2,es,he⟩:=hx w1;rw[lone_eq_solo,gn rfl he]at hr;cases hr
 cases tX:fr.mode with
 |run=>exact hm tX
 |panicking ch=>
  refine over ((cV P).raise ch) w (fun w=>?_) (by
   rw[lone_eq_solo];refine step_solo_go (es:=#[]) rfl ?_;have xy:fr.catches P=false:=by unfold Frame.catches;rw[g1]
   simp only[stepG,G,tX,unwind,hd,xy,Bool.false_eq_true,if_false])
  have xy:((cV P).raise ch).catches P=true:=by
   have e1:P.funcs[((cV P).raise ch).fn]?=none:=by show P.funcs[P.funcs.size]?=none;simp
   have e2: "fmt's door: nowhere".startsWith "fmt's door" =true:=by kernel_rfl
   have e3:((cV P).raise ch).todo= [.call {target:=.nil,args:=#[]} false "fmt's door: nowhere" #[]]:=rfl;unfold Frame.catches;rw[e1,e3];simp only[e2]
  have hx:∃o w2 es,unwind P true ((cV P).raise ch) [] none w=.ended o w2 es:=by unfold unwind;rw[show ((cV P).raise ch).defers= []from rfl,show ((cV P).raise ch).mode=.panicking ch from rfl];simp only[xy,if_true];exact⟨_,_,_,rfl⟩
  exact hx
 |returning=>
  have e0:∃r es,(results fn0 fr.tmps).runT P w #[]=(r,es):=⟨_,_,rfl⟩
  obtain⟨r,es,hrun⟩:=e0;cases r with
  |halt h w1=>
   have he:∃o w2 es,stepG P true (G fr [cV P]) w=.ended o w2 es:=by simp only[stepG,G,tX,unwind,hd,g1,hrun];cases h<;>exact⟨_,_,_,rfl⟩
   obtain⟨o,w2,es,he⟩:=he;unfold runN at hr;rw[lone_eq_solo,gn rfl he]at hr;cases hr
  |ok v w1=>
   refine over ((cV P).finish v) w1 (fun w=>?_) (by rw[lone_eq_solo];refine step_solo_go (es:=seen P fr.fn es) rfl ?_;simp only[stepG,G,tX,unwind,hd,g1,hrun,doReturn,hk,GStep.after,Array.append_empty])
   have hx:∃o w2 es,stepG.exec P true true ((cV P).finish v) [] none w=.ended o w2 es:=by simp only[cV,Frame.finish,stepG.exec,My,Option.elim];exact⟨_,_,_,rfl⟩
   exact hx
def Bv(hT:gS P T){fr':ak}{c':List ak}{w':af}(hp:iF fr' c'):∀(n:Nat) {d:Nat} {fr:ak} {c:List ak} {w:af},zJ T d fr c->
 runN P n (lone fr (c++ [cV P]) w)=.next (lone fr' (c'++ [cV P]) w')->
 (∀(k:Nat) (f:ak) (q:List ak) (u:af),k<n->runN P k (lone fr (c++ [cV P]) w)=.next (lone f q u)->¬Q2 T f)->
 iF fr c/\∃l d',LR P fr c w l fr' c' w'/\zJ T d' fr' c'/\ac1 d l=d'
 | 0,d,fr,c,w,hS,hr,_=>by simp only[runN,Stepped.next.injEq]at hr;obtain⟨rfl,h2,rfl⟩:=kT hr;obtain rfl:c=c':=zbo h2;exact⟨hp, [],d,.refl,hS,rfl⟩
 |n+1,d,fr,c,w,hS,hr,hn=>by
  rcases yG hT hS w with h|h|h|h
  ·obtain⟨fZ,c1,w1,es,d1,hs,qp,hd⟩:=h;have hst:step P (lone fr (c++ [cV P]) w)=.next (lone fZ (c1++ [cV P]) w1):=step_solo_go (a:=G fr (c++ [cV P])) rfl (hs _)
   have hr':=hr;unfold runN at hr';rw[hst]at hr';obtain⟨hp1,l,d',hl,hS',sJ⟩:=Bv hT hp n qp hr' (fun k f q u hk hk'=>hn (k+1) f q u (by omega) (by unfold runN;rw[hst];exact hk'));obtain⟨hp0,he⟩:=hd hp1;refine⟨hp0,_,d',.step hs hl,hS',?_⟩;rw[<-sJ,<-he];rfl
  ·exfalso;rcases h [cV P]with⟨o,w1,es,he⟩|⟨g1,w1,es,he,hg⟩|⟨g1,g2,w1,es,he⟩
   ·unfold runN at hr;rw[lone_eq_solo,gn rfl he]at hr;cases hr
   ·unfold runN at hr;rw[lone_eq_solo,step_solo_go rfl he]at hr;exact rT n hg hr
   ·unfold runN at hr;have e2:step P (lone fr (c++ [cV P]) w)=.next (duo g1 g2 w1 none):=by rw[lone_eq_solo,step,stepT_solo rfl,runT_solo_spawn he]
    rw[e2]at hr;exact rU n (by simp[duo]) hr
  ·exact absurd h (hn 0 fr _ w (by omega) rfl)
  ·exfalso;have hc:=h.1;subst hc;exact vM hT hS h hr
end
end
section
open Go Go.Conc
def dE(d:Nat)(e:aC):Nat:=match e.loc with|.mark .disable=>d+1|.mark .enable=>d-1|_=>d
def deaf_push(d:Nat)(es:Array aC)(e:aC):deafBehind d (es.push e)=dE (deafBehind d es) e:=by unfold deafBehind;rw[Array.foldl_push];rfl
def zy(d:Nat)(es:Array aC)(l:List aA)(wr sy:Bool):deafBehind d (es++l.toArray.map fun a=>(⟨.cell a,wr,sy⟩:aC))=deafBehind d es:=by
 unfold deafBehind;rw[Array.foldl_append];generalize Array.foldl _ d es=x;rw[<-zbl,List.map_toArray];show List.foldl _ x (l.map fun a=>(⟨.cell a,wr,sy⟩:aC))=x;induction l with
 |nil=>rfl
 |cons a l ih=>simpa using ih
inductive BT{α:Type}:Bool->Sem α->Prop
 |pure {a:α}:BT false (.pure a)
 |load {b:Bool} {m:Mode} {a:aA} {k:aj->Sem α}:(∀v,BT b (k v))->BT b (.load m a k)
 |store {b:Bool} {m:Mode} {a:aA} {v:aj} {k:Sem α}:BT b k->BT b (.store m a v k)
 |new {b:Bool} {o:Obj} {k:Nat->Sem α}:(∀r,BT b (k r))->BT b (.new o k)
 |shape {b:Bool} {r:Nat} {k:Option (az×Nat)->Sem α}:(∀s,BT b (k s))->BT b (.shape r k)
 |freeze {b:Bool} {a:aA} {n:Nat} {k:Sem α}:BT b k->BT b (.freeze a n k)
 |frozen {b:Bool} {a:aA} {k:Bool->Sem α}:(∀q,BT b (k q))->BT b (.frozen a k)
 |getObj {b:Bool} {r:Nat} {k:Obj->Sem α}:(∀o,BT b (k o))->BT b (.getObj r k)
 |setObj {b:Bool} {r:Nat} {o:Obj} {k:Sem α}:BT b k->BT b (.setObj r o k)
 |choose {b:Bool} {q:Question} {k:Nat->Sem α}:(∀n,BT b (k n))->BT b (.choose q k)
 |sys {b:Bool} {c:Sys} {k:SysRet->Sem α}:(∀r,BT b (k r))->BT b (.sys c k)
 |program {b:Bool} {k:aB->Sem α}:(∀p,BT b (k p))->BT b (.program k)
 |mark {b:Bool} {m:Mark} {k:Sem α}:m≠.disable->m≠.enable->BT b k->BT b (.mark m k)
 |M3 {k:Sem α}:BT true k->BT false (.mark .disable k)
 |en {k:Sem α}:BT false k->BT true (.mark .enable k)
 |halt {b:Bool} {h:Halt}:BT b (.halt h)
def NM.bt{α β:Type}{s:Sem α}{f:α->Sem β}(h:NM s)(hf:∀a,BT b (f a)):BT b (s >>= f):=by
 show BT b (s.bind f);induction h with
 |pure=>exact hf _
 |load _ ih=>exact .load fun v=>ih v
 |store _ ih=>exact .store ih
 |new _ ih=>exact .new fun r=>ih r
 |shape _ ih=>exact .shape fun s=>ih s
 |freeze _ ih=>exact .freeze ih
 |frozen _ ih=>exact .frozen fun b=>ih b
 |getObj _ ih=>exact .getObj fun o=>ih o
 |setObj _ ih=>exact .setObj ih
 |choose _ ih=>exact .choose fun n=>ih n
 |sys _ ih=>exact .sys fun n=>ih n
 |program _ ih=>exact .program fun p=>ih p
 |mark h1 h2 _ ih=>exact .mark h1 h2 ih
 |halt=>exact .halt
def BT.deaf{α:Type}{s:Sem α}(h:BT b s)(d:Nat):∀{w:af} {es:Array aC} {a:α} {w':af} {es':Array aC},s.runT P w es=(.ok a w',es')->deafBehind d es'=if b then deafBehind d es-1 else deafBehind d es:=by
 have push:∀{es:Array aC} {e:aC},e.loc≠.mark .disable->e.loc≠.mark .enable->deafBehind d (es.push e)=deafBehind d es:=fun h1 h2=>by
  rw[deaf_push];unfold dE;split
  ·rename_i hh;exact absurd hh h1
  ·rename_i hh;exact absurd hh h2
  ·rfl
 induction h with
 |pure=>intro w es a w' es' hr;cases hr;rfl
 |load _ ih=>
  intro w es a w' es' hr;simp only[Sem.runT]at hr;split at hr
  ·rw[ih _ hr,push (by simp) (by simp)]
  ·split at hr
   ·rw[ih _ hr,zy]
   ·cases hr
 |store _ ih=>
  intro w es a w' es' hr;rename_i m c v k _;cases v<;>simp only[Sem.runT]at hr<;>first|(cases hr;done)|(split at hr<;>split at hr<;>first|(cases hr;done)|(rw[ih hr,push (by simp) (by simp)])|(rw[ih hr,zy]))
 |new _ ih=>intro w es a w' es' hr;exact ih _ hr
 |shape _ ih=>intro w es a w' es' hr;exact ih _ hr
 |freeze _ ih=>intro w es a w' es' hr;exact ih hr
 |frozen _ ih=>intro w es a w' es' hr;exact ih _ hr
 |getObj _ ih=>
  intro w es a w' es' hr;simp only[Sem.runT]at hr;split at hr
  ·cases hr
  ·rw[ih _ hr,push (by simp) (by simp)]
  ·cases hr
 |setObj _ ih=>
  intro w es a w' es' hr;simp only[Sem.runT]at hr;split at hr
  ·cases hr
  ·rw[ih hr,push (by simp) (by simp)]
  ·cases hr
 |choose _ ih=>intro w es a w' es' hr;simp only[Sem.runT]at hr;split at hr<;>exact ih _ hr
 |sys _ ih=>intro w es a w' es' hr;rw[ih _ hr,push (by simp) (by simp)]
 |program _ ih=>intro w es a w' es' hr;exact ih _ hr
 |mark h1 h2 _ ih=>intro w es a w' es' hr;rw[ih hr,push (by simpa using h1) (by simpa using h2)]
 |M3 _ ih=>
  intro w es a w' es' hr;rw[ih hr,deaf_push];simp[dE]
 |en _ ih=>
  intro w es a w' es' hr;rw[ih hr,deaf_push];simp[dE]
 |halt=>intro w es a w' es' hr;cases hr
def uf(h:∀e∈es,∀m,e.loc=.mark m->e.sync=true)(d:Nat):deafBehind d (seen P f es)=deafBehind d es:=by
 unfold seen;dsimp only;have key:∀(l:List aC) (q:Bool) (kept:Array aC),(∀e∈l,∀m,e.loc=.mark m->e.sync=true)->deafBehind d (l.foldl (fun(x:Bool×Array aC) e=>match x with
  |(q,kept)=>match e.loc with
   |.mark (.extern f)=>((P.funcs[f]?).any (·.norace),kept)
   |_=>(q,if q && !e.sync then kept else kept.push e)) (q,kept)).2=l.foldl dE (deafBehind d kept):=by
  intro l
  induction l with
  |nil=>intro q kept _;rfl
  |cons x l ih=>
   intro q kept hl;have hl':=fun e he=>hl e (zbi _ he);simp only[List.foldl_cons];split
   ·rename_i hh;rw[ih _ _ hl'];congr 1;unfold dE;rw[hh]
   ·rename_i hh;rw[ih _ _ hl'];congr 1;split
    ·rename_i hq;unfold dE;split
     ·rename_i h1;have:=hl x (zbr ..) _ h1;simp[this]at hq
     ·rename_i h1;have:=hl x (zbr ..) _ h1;simp[this]at hq
     ·rfl
    ·rw[deaf_push]
 rw[<-zbl];refine Eq.trans (key es.toList ((P.funcs[f]?).any (·.norace)) #[] (fun e he=>h e (zbn.1 he))) ?_;show List.foldl dE d es.toList=Array.foldl _ d es;rw[zbl];rfl
def IV{α:Type}(s:Sem α):∀{w:af} {es:Array aC},(∀e∈es,∀m,e.loc=.mark m->e.sync=true)->∀e∈(s.runT P w es).2,∀m,e.loc=.mark m->e.sync=true:=by
 have push:∀{es:Array aC} {e0:aC},(∀e∈es,∀m,e.loc=.mark m->e.sync=true)->(∀m,e0.loc=.mark m->e0.sync=true)->∀e∈es.push e0,∀m,e.loc=.mark m->e.sync=true:=fun h h1 e he=>(Array.mem_push.1 he).elim (h e) fun x=>x▸h1;have app:∀{es:Array aC} (l:List aA) (wr sy:Bool),(∀e∈es,∀m,e.loc=.mark m->e.sync=true)->∀e∈es++l.toArray.map (fun a=>(⟨.cell a,wr,sy⟩:aC)),∀m,e.loc=.mark m->e.sync=true:=fun l wr sy h e he=>by
  rcases Array.mem_append.1 he with h1|h1
  ·exact h e h1
  ·obtain⟨a,_,rfl⟩:=Array.mem_map.1 h1;intro m hm;cases hm
 induction s with
 |pure _=>intro w es h;exact h
 |load _ _ _ ih=>
  intro w es h;simp only[Sem.runT];split
  ·exact ih _ (push h (fun m hm=>by cases hm))
  ·split
   ·exact ih _ (app _ _ _ h)
   ·exact h
 |store m a v k ih=>
  intro w es h;cases v<;>simp only[Sem.runT]<;>first|exact h|(split<;>first|(split<;>first|exact h|exact ih (push h (fun m hm=>by cases hm))|exact ih (app _ _ _ h)))
 |new _ _ ih=>intro w es h;exact ih _ h
 |shape _ _ ih=>intro w es h;exact ih _ h
 |freeze _ _ _ ih=>intro w es h;exact ih h
 |frozen _ _ ih=>intro w es h;exact ih _ h
 |getObj _ _ ih=>
  intro w es h;simp only[Sem.runT];split
  ·exact h
  ·exact ih _ (push h (fun m hm=>by cases hm))
  ·exact h
 |setObj _ _ _ ih=>
  intro w es h;simp only[Sem.runT];split
  ·exact h
  ·exact ih (push h (fun m hm=>by cases hm))
  ·exact h
 |choose _ _ ih=>intro w es h;simp only[Sem.runT];split<;>exact ih _ h
 |sys _ _ ih=>intro w es h;exact ih _ (push h (fun m hm=>by cases hm))
 |program _ ih=>intro w es h;exact ih _ h
 |mark _ _ ih=>intro w es h;exact ih (push h (fun m hm=>rfl))
 |halt _=>intro w es h;exact h
def nV(hf:P.funcs[f]?=some fn)(hname:(fn.name == "runtime.NumGoroutine")=false)(hb:fn.body.isNone=true)(hn:Extern.findNext fn=none)(he:Extern.find fn=some e)(args:Array aj)(w:af):
 (callFunc f args).runT P w #[]=(do pure (Next.value (<-e args)):Sem Next).runT P w #[⟨.mark (.extern f),false,true⟩]:=by show Sem.runT P (Sem.program fun p=>_) w #[]=_;simp only[Sem.runT];show Sem.runT P (match P.funcs[f]? with|none=>_|some fn=>_) w #[]=_;rw[hf];simp only[hname,hb,hn,he,Bool.false_eq_true,if_false,if_true];rfl
def Yx(hf:P.funcs[f]?=some fn)(hname:(fn.name == "runtime.NumGoroutine")=false)(hb:fn.body.isNone=true)(hn:Extern.findNext fn=none)(he:Extern.find fn=some e)
 (Dz:∀args,BT false (do pure (Next.value (<-e args)):Sem Next)) (args:Array aj) (w:af) (n:Next) (w':af) (es:Array aC) (hr:(callFunc f args).runT P w #[]=(.ok n w',es)):(∃v,n=.value v)/\∀g d,deafBehind d (seen P g es)=d:=by
 rw[nV hf hname hb hn he]at hr;have h0:∀e∈(#[⟨.mark (.extern f),false,true⟩]:Array aC),∀m,e.loc=.mark m->e.sync=true:=fun e he m _=>by simp at he;rw[he]
 refine⟨?_,fun g d=>?_⟩
 ·rcases(zz (e args)).out hr with h|h
  ·exact h
  ·subst h;have:=(iK (Q:=fun n=>∃v,n=Next.value v) (e args) (f:=fun v=>Pure.pure (Next.value v)) fun _=>.pure ⟨_,rfl⟩).out hr;exact this
 ·have h1:=IV (P:=P) (do pure (Next.value (<-e args)):Sem Next) (w:=w) h0;rw[hr]at h1;rw[uf h1,(Dz args).deaf d hr];rfl
end
section
open Go Go.Conc
def BT.then{α β:Type}{s:Sem α}{f:α->Sem β}(h:BT b s)(hf:∀a,BT false (f a)):BT b (s >>= f):=by
 show BT b (s.bind f);induction h with
 |pure=>exact hf _
 |load _ ih=>exact .load fun v=>ih v
 |store _ ih=>exact .store ih
 |new _ ih=>exact .new fun r=>ih r
 |shape _ ih=>exact .shape fun s=>ih s
 |freeze _ ih=>exact .freeze ih
 |frozen _ ih=>exact .frozen fun b=>ih b
 |getObj _ ih=>exact .getObj fun o=>ih o
 |setObj _ ih=>exact .setObj ih
 |choose _ ih=>exact .choose fun n=>ih n
 |sys _ ih=>exact .sys fun n=>ih n
 |program _ ih=>exact .program fun p=>ih p
 |mark h1 h2 _ ih=>exact .mark h1 h2 ih
 |M3 _ ih=>exact .M3 ih
 |en _ ih=>exact .en ih
 |halt=>exact .halt
def Dg{s:Sem aj}(h:BT false s):BT false (do pure (Next.value (<-s)):Sem Next):=h.then fun _=>.pure
def eX{s:Sem aj}(h:NM s):BT false (do pure (Next.value (<-s)):Sem Next):=h.bt fun _=>.pure
def Q4{β:Type}{f:Unit->Sem β}(h:BT true (f ())):BT false (mark .disable >>= f):=.M3 h
def Q5{β:Type}{f:Unit->Sem β}(h:BT false (f ())):BT true (mark .enable >>= f):=.en h
def Dh(t:Extern.Atomic.T)(a:aA):NM (Extern.Atomic.read t a):=by unfold Extern.Atomic.read;(repeat' (first|(with_reducible first|exact NM.pure' _|exact J6 ..|exact pP ..|refine NM.bind ?_ (fun _=>?_)|refine pQ ?_ ?_)|dsimp only|split|intro _))
def J7{α:Type}{f:α->Sem Bool}(h:∀a,NM (f a)):∀(l:List α),NM (l.anyM f)
 | []=>.pure
 |a :: l=>by
  unfold List.anyM;refine NM.bind (h a) fun b=>?_;cases b
  ·exact J7 h l
  ·exact .pure
def vg(a:aA):NM (Extern.Atomic.touchesFrozen a):=by unfold Extern.Atomic.touchesFrozen;repeat' (first|exact J7 (fun _=>qh _) _|(repeat' (first|(with_reducible first|exact qh ..|exact pP ..|exact BC ..|exact FI ..|refine NM.bind ?_ (fun _=>?_)|refine pQ ?_ ?_)|dsimp only|split|intro _)))
def J8(t:Extern.Atomic.T)(args:Array aj):NM (Extern.Atomic.casT t args):=by
 rcases args with⟨_|⟨a0,_|⟨a1,_|⟨a2,_|⟨a3,l⟩⟩⟩⟩⟩ <;>first|exact NM.halt|skip
 refine NM.bind (ku a0) fun a=>?_;repeat' (first|exact vg _|exact Dh ..|(repeat' (first|(with_reducible first|exact NM.pure' _|exact NM.halt|exact mX ..|exact gU ..|exact pP ..|exact zA ..|exact ku ..|refine NM.bind ?_ (fun _=>?_)|refine pQ ?_ ?_)|dsimp only|split|intro _)))
def vh(op:IntKind->Int->Int->Sem aj)(hop:∀k x y,NM (op k x y))(k:IntKind)(b:Bool)(args:Array aj):NM (Extern.Atomic.update op k b args):=by
 rcases args with⟨_|⟨a0,_|⟨a1,_|⟨a2,l⟩⟩⟩⟩ <;>first|exact NM.halt|skip
 refine NM.bind (ku a0) fun a=>?_;repeat' (first|exact hop ..|exact Dh ..|(repeat' (first|(with_reducible first|exact NM.pure' _|exact NM.halt|exact mX ..|exact Q6 ..|exact ku ..|refine NM.bind ?_ (fun _=>?_))|dsimp only|split|intro _)))
def ac2(args:Array aj):NM (Extern.Race.at_ args):=by unfold Extern.Race.at_;(repeat' (first|(with_reducible first|exact NM.pure' _|exact gU ..)|dsimp only|split|intro _))
def qi(m:aA->Mark)(h1:∀a,m a≠.disable)(h2:∀a,m a≠.enable)(args:Array aj):NM (Extern.Race.marked m args):=NM.bind (ac2 args) fun a=>.mark (h1 a) (h2 a) .pure
def IW(args:Array aj):NM (Extern.Sync.canSpin args):=by
 rcases args with⟨_|⟨a0,_|⟨a1,l⟩⟩⟩ <;>first|exact NM.halt|skip
 cases a0<;>first|exact NM.halt|skip
 show NM (if _ then _ else _);(repeat' (first|(with_reducible first|exact NM.pure' _|exact NM.halt|exact BD ..|refine NM.bind ?_ (fun _=>?_)|refine pQ ?_ ?_)|dsimp only|split|intro _))
def IY(args:Array aj):NM (Extern.Sync.nothing args):=.pure
def IZ(h:String->Halt)(args:Array aj):NM (Extern.Sync.die h args):=by
 rcases args with⟨_|⟨a0,_|⟨a1,l⟩⟩⟩ <;>first|exact NM.halt|skip
 cases a0<;>first|exact NM.halt|skip
 rename_i s;show NM (match String.fromUTF8? s with|some m=>_|none=>_);(repeat' (first|(with_reducible first|exact NM.halt|exact pP ..)|dsimp only|split|intro _))
def Uu(args:Array aj):NM (Extern.OsHooks.nano args):=by unfold Extern.OsHooks.nano Extern.OsHooks.clock;(repeat' (first|(with_reducible first|exact NM.pure' _|exact Yy ..|exact gU ..|refine NM.bind ?_ (fun _=>?_))|dsimp only|split|intro _))
def FJ(args:Array aj):NM (Extern.Sync.count args):=by unfold Extern.Sync.count;(repeat' (first|(with_reducible first|exact NM.pure' _|exact J6 ..|exact gU ..|exact pP ..|refine NM.bind ?_ (fun _=>?_))|dsimp only|split|intro _))
def qO(args:Array aj):BT false (Extern.Sync.semacquire args):=by
 unfold Extern.Sync.semacquire;refine Q4 ((FJ args).bt fun x=>?_);obtain⟨a,n⟩:=x;dsimp only;split
 ·exact NM.bt .halt fun _=>NM.bt (mX ..) fun _=>Q5 .pure
 ·exact NM.bt (mX ..) fun _=>Q5 .pure
def qP(args:Array aj):BT false (Extern.Sync.semrelease args):=by unfold Extern.Sync.semrelease;refine Q4 ((FJ args).bt fun x=>?_);obtain⟨a,n⟩:=x;exact NM.bt (pR ..) fun _=>NM.bt (mX ..) fun _=>Q5 .pure
def FK(hf:P.funcs[f]?=some fn)(hname:(fn.name == "runtime.NumGoroutine")=false)(hb:fn.body.isNone=true)(hn:Extern.findNext fn=none)(he:Extern.find fn=some (fun _=>do mark m;pure Extern.Race.none_))
 (hδ:∀d,dE d ⟨.mark m,false,true⟩=δ d) (args:Array aj) (w:af) (n:Next) (w':af) (es:Array aC) (hr:(callFunc f args).runT P w #[]=(.ok n w',es)):(∃v,n=.value v)/\∀g d,deafBehind d (seen P g es)=δ d:=by rw[nV hf hname hb hn he]at hr;have e:(do pure (Next.value (<-(do mark m;pure Extern.Race.none_:Sem aj))):Sem Next).runT P w #[⟨.mark (.extern f),false,true⟩]=(.ok (.value Extern.Race.none_) w,#[⟨.mark (.extern f),false,true⟩,⟨.mark m,false,true⟩]):=rfl;rw[e]at hr;cases hr;refine⟨⟨_,rfl⟩,fun g d=>?_⟩;rw[uf (fun e he m _=>by simp at he;rcases he with rfl|rfl<;>rfl),<-hδ];rfl
def Uv(hf:P.funcs[f]?=some fn)(hname:(fn.name == "runtime.NumGoroutine")=false)(hb:fn.body.isNone=true)(hn:Extern.findNext fn=none)(he:Extern.find fn=some (fun _=>do mark m;pure Extern.Race.none_))
 (hδ:∀d,dE d ⟨.mark m,false,true⟩=δ d) (args:Array aj) (w:af):∃v es,(callFunc f args).runT P w #[]=(.ok (.value v) w,es)/\∀g d,deafBehind d (seen P g es)=δ d:=by
 have e:(callFunc f args).runT P w #[]=(.ok (.value Extern.Race.none_) w,#[⟨.mark (.extern f),false,true⟩,⟨.mark m,false,true⟩]):=by rw[nV hf hname hb hn he];rfl
 exact⟨_,_,e,(FK hf hname hb hn he hδ args w _ _ _ e).2⟩
def Q7(t:Extern.Atomic.T)(args:Array aj):NM (Extern.Atomic.loadT t args):=by
 rcases args with⟨_|⟨a0,_|⟨a1,l⟩⟩⟩ <;>first|exact NM.halt|skip
 exact NM.bind (ku a0) fun a=>Dh ..
def Mz(args:Array aj):NM (Extern.Atomic.storeT args):=by
 rcases args with⟨_|⟨a0,_|⟨a1,_|⟨a2,l⟩⟩⟩⟩ <;>first|exact NM.halt|skip
 exact NM.bind (ku a0) fun a=>NM.bind (mX ..) fun _=>.pure
end
section
open Go Go.Conc
variable {P:aB}{Sb:Nat->Prop}{qt:Prop}
def Fl{α:Type}{s:Sem α}{x:α}(h:∀(w:af) (es:Array aC),s.runT P w es=(.ok x w,es)):aG P Sb qt s:=by constructor;intro v w y v' hs hr hg es;rw[<-Sem.runT_fst P s v #[],h]at hr;cases hr;exact⟨w,es,h w es,hs,rfl,by omega,fun e he=>.inl he⟩
def Fo{c:Code}(h1:P.funcs[f]?=some fn)(h2:(fn.name == "runtime.NumGoroutine")=false)(h3:fn.body=some c)(args:Array aj):aG P Sb qt (callFunc f args):=Fl (fJ h1 h2 h3 args)
def qL(hf:P.funcs[f]?=some fn)(hname:(fn.name == "runtime.NumGoroutine")=false)(hb:fn.body.isNone=true)(hn:Extern.findNext fn=none)(he:Extern.find fn=some e)(args:Array aj)(w:af)(es:Array aC):
 (callFunc f args).runT P w es=(do pure (Next.value (<-e args)):Sem Next).runT P w (es.push ⟨.mark (.extern f),false,true⟩):=by show Sem.runT P (Sem.program fun p=>_) w es=_;simp only[Sem.runT];show Sem.runT P (match P.funcs[f]? with|none=>_|some fn=>_) w es=_;rw[hf];simp only[hname,hb,hn,he,Bool.false_eq_true,if_false,if_true];rfl
def X6(hf:P.funcs[f]?=some fn)(hname:(fn.name == "runtime.NumGoroutine")=false)(hb:fn.body.isNone=true)(hn:Extern.findNext fn=none)(he:Extern.find fn=some e)(h:∀args,aG P Sb False (e args))(args:Array aj):aG P Sb False (callFunc f args):=by constructor;intro v w y v' hs hr hg es;rw[<-Sem.runT_fst P _ v #[],qL hf hname hb hn he,Sem.runT_fst]at hr;obtain⟨w',es',h1,h2,h3,h4,h5⟩:=(cX (h args)).yC hs hr hg (es.push ⟨.mark (.extern f),false,true⟩);exact⟨w',es',by rw[qL hf hname hb hn he];exact h1,h2,h3,h4,lF (EZ _ _ _ (fun h=>h.elim)) h5⟩
def nR(m:Mark):aG P Sb False (mark m):=pI (fun h=>h.elim) .pure
def CZ(t:Extern.Atomic.T)(a:aA):aG P Sb qt (Extern.Atomic.read t a):=by unfold Extern.Atomic.read;exact cY
def JU{α:Type}{f:α->Sem Bool}(h:∀a,aG P Sb qt (f a)):∀(l:List α),aG P Sb qt (l.anyM f)
 | []=>aG.pure
 |a :: l=>by
  unfold List.anyM;refine aG.bind (h a) fun b=>?_;cases b
  ·exact JU h l
  ·exact aG.pure
def u7(a:aA):aG P Sb qt (Extern.Atomic.touchesFrozen a):=by unfold Extern.Atomic.touchesFrozen;repeat' (first|exact JU (fun _=>uN _) _|(repeat' (first|(with_reducible first|exact uN ..|exact Bl ..|exact lH ..|exact lI|refine aG.bind ?_ (fun _=>?_)|refine y7 ?_ ?_)|dsimp only|split|intro _)))
def JM(t:Extern.Atomic.T)(args:Array aj):aG P Sb qt (Extern.Atomic.casT t args):=by
 rcases args with⟨_|⟨a0,_|⟨a1,_|⟨a2,_|⟨a3,l⟩⟩⟩⟩⟩ <;>first|exact aG.halt|skip
 refine aG.bind (gx a0) fun a=>?_;repeat' (first|exact u7 _|exact CZ ..|(repeat' (first|(with_reducible first|exact aG.pure' _|exact aG.halt|exact jP ..|exact pJ ..|exact gx ..|refine nP ?_|exact qK|exact lI|refine aG.bind ?_ (fun _=>?_)|refine y7 ?_ ?_)|dsimp only|split|intro _)))
def uM(op:IntKind->Int->Int->Sem aj)(hop:∀k x y,aG P Sb qt (op k x y))(k:IntKind)(b:Bool)(args:Array aj):aG P Sb qt (Extern.Atomic.update op k b args):=by
 rcases args with⟨_|⟨a0,_|⟨a1,_|⟨a2,l⟩⟩⟩⟩ <;>first|exact aG.halt|skip
 refine aG.bind (gx a0) fun a=>?_;repeat' (first|exact hop ..|exact CZ ..|(repeat' (first|(with_reducible first|exact aG.pure' _|exact aG.halt|exact jP ..|exact tK ..|exact gx ..|refine aG.bind ?_ (fun _=>?_))|dsimp only|split|intro _)))
def aco(args:Array aj):aG P Sb qt (Extern.Race.at_ args):=by unfold Extern.Race.at_;exact cY
def p9(m:aA->Mark)(args:Array aj):aG P Sb False (Extern.Race.marked m args):=aG.bind (aco args) fun a=>aG.bind (nR _) fun _=>aG.pure
def H7(args:Array aj):aG P Sb qt (Extern.Sync.canSpin args):=by
 rcases args with⟨_|⟨a0,_|⟨a1,l⟩⟩⟩ <;>first|exact aG.halt|skip
 cases a0<;>first|exact aG.halt|skip
 show aG P Sb qt (if _ then _ else _);exact cY
def H8(args:Array aj):aG P Sb qt (Extern.Sync.nothing args):=aG.pure
def Ia(h:String->Halt)(args:Array aj):aG P Sb qt (Extern.Sync.die h args):=by
 rcases args with⟨_|⟨a0,_|⟨a1,l⟩⟩⟩ <;>first|exact aG.halt|skip
 cases a0<;>first|exact aG.halt|skip
 rename_i s;show aG P Sb qt (match String.fromUTF8? s with|some m=>_|none=>_);exact cY
def Qw:aG P Sb qt (sys (.clock 1)):=by
 constructor;intro v w x v' hs hr hg es;have e:∀(w:af) (es:Array aC),(sys (.clock 1)).runT P w es=(.ok (.int ((w.os.mono+w.tick:Nat):Int)) w.later,es.push ⟨.output,true,false⟩):=fun w es=>rfl;rw[<-Sem.runT_fst P _ v #[],e]at hr;simp only[Result.ok.injEq]at hr;obtain⟨rfl,rfl⟩:=hr;have hd:v.later.drawn=v.drawn+1:=rfl;have ht:w.tick=v.tick:=by unfold World.tick;have h0:=hg 0 (by rw[hd];omega) (.extern "clock.advance" 0);simp only[Nat.add_zero]at h0;rw[h0]
 refine⟨w.later,_,by rw[e,ht,hs.os],?_,rfl,by rw[hd];show w.drawn+1=_;omega,lF ⟨fun x a hx hl=>?_,fun _=>⟨by simp,by simp⟩⟩ fun e he=>.inl he⟩
 ·refine⟨hs.size,hs.same,hs.gF,?_,hs.out⟩;show ({v.os with wall:=v.os.wall+v.tick,mono:=v.os.mono+v.tick}:Os)={w.os with wall:=w.os.wall+w.tick,mono:=w.os.mono+w.tick};rw[ht,hs.os]
 ·simp[MemAct.ofEvent,MemAct.touch?]at hx;subst hx;cases hl
def TL(args:Array aj):aG P Sb qt (Extern.OsHooks.nano args):=by unfold Extern.OsHooks.nano Extern.OsHooks.clock;repeat' (first|exact Qw|(repeat' (first|(with_reducible first|exact aG.pure' _|exact mN ..|refine aG.bind ?_ (fun _=>?_))|dsimp only|split|intro _)))
def Fp(args:Array aj):aG P Sb qt (Extern.Sync.count args):=by unfold Extern.Sync.count;exact cY
def qE(args:Array aj):aG P Sb False (Extern.Sync.semacquire args):=by
 unfold Extern.Sync.semacquire;refine aG.bind (nR _) fun _=>aG.bind (Fp args) fun x=>?_;obtain⟨a,n⟩:=x;dsimp only;split
 ·exact aG.bind aG.halt fun _=>aG.bind (jP ..) fun _=>aG.bind (nR _) fun _=>aG.pure
 ·exact aG.bind (jP ..) fun _=>aG.bind (nR _) fun _=>aG.pure
def qG(args:Array aj):aG P Sb False (Extern.Sync.semrelease args):=by unfold Extern.Sync.semrelease;refine aG.bind (nR _) fun _=>aG.bind (Fp args) fun x=>?_;obtain⟨a,n⟩:=x;exact aG.bind (lG ..) fun _=>aG.bind (jP ..) fun _=>aG.bind (nR _) fun _=>aG.pure
def Qk(t:Extern.Atomic.T)(args:Array aj):aG P Sb qt (Extern.Atomic.loadT t args):=by
 rcases args with⟨_|⟨a0,_|⟨a1,l⟩⟩⟩ <;>first|exact aG.halt|skip
 exact aG.bind (gx a0) fun a=>CZ ..
def LS(args:Array aj):aG P Sb qt (Extern.Atomic.storeT args):=by
 rcases args with⟨_|⟨a0,_|⟨a1,_|⟨a2,l⟩⟩⟩⟩ <;>first|exact aG.halt|skip
 exact aG.bind (gx a0) fun a=>aG.bind (jP ..) fun _=>aG.pure
def Ql(m:Mark)(x:aj):aG P Sb False (do mark m;pure x:Sem aj):=aG.bind (nR m) fun _=>aG.pure
end
section
open Go Go.Conc
section
variable {P:aB}{T:gC}
def G5(hT:gS P T){a b:Nat}(hi:T.jS f a=some b)(h2:a<2)(args:Array aj)(ha:∀n∈T.vA f,vf T (args.getD n undef)):zJ T a (Frame.enter P f args .normal) []:=by
 obtain⟨fn,c,h1,_,h3,r,h4,h5⟩:=hT.jS f a b hi;refine⟨b,⟨⟨rfl,(fun x hx=>by simp[Frame.enter]at hx),.inl rfl,⟨a,hi⟩,.inr (.inl rfl)⟩,?_⟩,rfl⟩;show mS T a _ b;refine⟨fun n hn=>?_,a, [],Nat.mod_eq_of_lt h2,?_,?_⟩
 ·simp only[Frame.enter]at hn⊢;have:=ha n hn;rw[zbm]at this⊢;rw[Array.getElem?_append];split
  ·exact this
  ·cases hx:(Array.replicate ((P.funcs[f]?.map (·.ntmps)).getD 0-args.size) undef)[n-args.size]? with
   |none=>exact eW
   |some y=>
    rw[Array.getElem?_replicate]at hx;split at hx
    ·cases hx;exact eW
    ·cases hx
 ·rw[Nat.div_eq_of_lt h2];unfold oC;split<;>rfl
 ·show oA T f b [.code _] a [];rw[h1];simp only[Option.bind_some,h3,Option.getD_some];exact⟨r,h4,rfl,fun e he=>⟨h5 e he,rfl⟩⟩
end
end
section
open Go Go.Conc
def Di:List ay:= [34,27,26,29,28,30,21,22,
 66,67,49,68,36,47,83,69,106,
 84,128,50,48,39,51,40,55,43,
 86,88,89,52,53,54,87,72,73,41,42,76,
 90,91,92,74,75,115,130,150,85,129,
 37,38,70,71]
def Dj:List ay:= [8,11,7,6,31,24,45,35,16,15,46,14,9,10,12,23,44,82,17,18,19,20,25,
 77,78,116,172,169,170,171,79,117]
def Dk:List ay:= [121,123,144,143,146]
def heard:List ay:= [108,110,112,113,134,135,136,137,138,139,140,
 145,125,126,127,147,142,148,149,152,151,153,
 122,124,141]
def Q8(fs:List ay)(f:ay)(d:Nat):Option Nat:=if f=111 then(if d=1 then some 0 else none)else if f=114 then(if d=1 then some 1 else none)else if fs.contains f=true then(if d=0 then some 0 else none)else if Dk.contains f=true then(if d<2 then some d else none)else none
def ac3(f:ay):List Nat:=if f=47 then [27,5,31]else if f=84 then [1,6]else if f=128 then [1,11]else []
def VC(fs:List ay):gC:=⟨fun f=>heard.contains f,Q8 fs,107,109,ac3,83,38,fun _ _=>false,fun f=>f == 117,fun s=>s == "MayWrite"⟩
def uu:gC:=VC (Di++Dj)
noncomputable def okF(T:gC)(f:ay)(a:Nat):Bool:=
 match T.jS f a,prog.funcs[f]? with
 |some b,some fn=>match fn.body with
  |some c=>!(fn.name == "runtime.NumGoroutine")&&(match T.ck f b c a []with|some none=>true|some (some e)=>e % 2 == b+e / 2|none=>false)
  |none=>false
 |none,_=>true
 |_,_=>false
def Uw{T:gC}{a b:Nat}(h:okF T f a=true)(hi:T.jS f a=some b):∃fn c,prog.funcs[f]?=some fn/\(fn.name == "runtime.NumGoroutine")=false/\fn.body=some c/\∃r,T.ck f b c a []=some r/\∀e,r=some e->e % 2=b+e / 2:=by
 unfold okF at h;rw[hi]at h;split at h
 ·rename_i b' fn h1 h2;cases h1;split at h
  ·rename_i c hc;simp only[Bool.and_eq_true]at h;obtain⟨h3,h4⟩:=h;refine⟨fn,c,h2,by simpa using h3,hc,?_⟩;cases hk:T.ck f b c a []with
   |none=>rw[hk]at h4;cases h4
   |some r=>
    refine⟨r,rfl,fun e he=>?_⟩;subst he;rw[hk]at h4;simpa using h4
  ·cases h
 ·rename_i h1;cases h1
 ·cases h
def Q9:∀g,prog.stepOf g=none:=by
 have h:(prog.funcs.all fun f=>match f.body with|some c=>(readies c).isEmpty|none=>true)=true:=by kernel_rfl
 intro g;unfold Program.stepOf;rw[Array.findIdx?_eq_none_iff];intro f hf;have h1:=zbk.1 h f hf;cases hb:f.body with
 |none=>rfl
 |some c=>
  rw[hb]at h1;have:readies c= []:=by simpa using h1
  simp[this]
def MA(h:Ra prog "MayWrite" f):f=116\/f=172\/f=169:=by
 obtain⟨t,i,m,b,h1,h2,h3,h4⟩:=h;have hall:(prog.types.all fun i=>i.methods.all fun m=>!(m.name == "MayWrite")||(match m.func with|some (f,_)=>f == 116 || f == 172 || f == 169|none=>true))=true:=by kernel_rfl
 have g1:=zbk.1 hall i (Array.mem_of_getElem? h1);have g2:=zbk.1 g1 m h2;rw[h4,h3]at g2;simpa[or_assoc]using g2
def wG(hf:prog.funcs[f]?=some fn)(Dz:∀args,BT false (do pure (Next.value (<-e args)):Sem Next))(h1:(fn.name == "runtime.NumGoroutine")=false:=by kernel_rfl)(h2:fn.body.isNone=true:=by kernel_rfl)(h3:Extern.findNext fn=none:=by kernel_rfl)(h4:Extern.find fn=some e:=by kernel_rfl)(args:Array aj)(w:af)(n:Next)(w':af)(es:Array aC)(hr:(callFunc f args).runT prog w #[]=(.ok n w',es)):(∃v,n=.value v)/\∀g d,deafBehind d (seen prog g es)=d:=Yx hf h1 h2 h3 h4 Dz args w n w' es hr
def Cn:gS prog uu:=by
 have h:((111 :: 114 ::(Di++Dj++Dk)).all fun f=>okF uu f 0 && okF uu f 1)=true:=by kernel_rfl
 have two:∀f a b,Q8 (Di++Dj) f a=some b->a<2/\f∈(111 :: 114 ::(Di++Dj++Dk)):=by
  intro f a b hi;unfold Q8 at hi;split at hi
  ·rename_i e;split at hi
   ·rename_i e2;exact⟨by omega,by rw[e];exact zbr ..⟩
   ·cases hi
  ·split at hi
   ·rename_i e;split at hi
    ·rename_i e2;exact⟨by omega,by rw[e];exact zbi _ (zbr ..)⟩
    ·cases hi
   ·split at hi
    ·rename_i e;split at hi
     ·rename_i e2;exact⟨by omega,zbi _ (zbi _ (List.mem_append_left _ (zbp.1 e)))⟩
     ·cases hi
    ·split at hi
     ·rename_i e;split at hi
      ·rename_i e2;exact⟨e2,zbi _ (zbi _ (List.mem_append_right _ (zbp.1 e)))⟩
      ·cases hi
     ·cases hi
 refine⟨Q9,fun f a b hi=>(two f a b hi).1,fun f a b hi=>?_,⟨by kernel_rfl,rfl⟩,⟨by kernel_rfl,rfl⟩,fun f hf=>?_,?_,?_,fun s f hs hn=>?_⟩
 ·obtain⟨h1,h2⟩:=two f a b hi;have h3:=List.all_eq_true.1 h f h2;simp only[Bool.and_eq_true]at h3;refine Uw ?_ hi;rcases zbt a 1 with h4|h4
  ·obtain rfl:a=0:=by omega
   exact h3.1
  ·obtain rfl:a=1:=by omega
   exact h3.2
 ·have hm:f∈heard:=zbp.1 hf;simp only[heard,List.mem_cons,List.not_mem_nil,or_false]at hm;rcases hm with rfl|rfl|rfl|rfl|rfl|rfl|rfl|rfl|rfl|rfl|rfl|rfl|rfl|rfl|rfl|rfl|rfl|rfl|rfl|rfl|rfl|rfl|rfl|rfl|rfl
  ·exact wG (e:=Extern.Atomic.casT (.int .i32)) func108 fun args=>eX (J8 ..)
  ·exact wG (e:=Extern.Race.marked .acquire) func110 fun args=>eX (qi _ (fun _=>by simp) (fun _=>by simp) _)
  ·exact wG (e:=Extern.Race.marked .releaseMerge) func112 fun args=>eX (qi _ (fun _=>by simp) (fun _=>by simp) _)
  ·exact wG (e:=Extern.Atomic.update (Op.intArith .add) .i32 true) func113 fun args=>eX (vh _ (fun _ _ _=>pR ..) ..)
  ·exact wG (e:=Extern.Sync.canSpin) func134 fun args=>eX (IW _)
  ·exact wG (e:=Extern.Sync.nothing) func135 fun args=>eX (IY _)
  ·exact wG (e:=Extern.Sync.die .throw) func136 fun args=>eX (IZ _ _)
  ·exact wG (e:=Extern.OsHooks.nano) func137 fun args=>eX (Uu _)
  ·exact wG (e:=Extern.Sync.semacquire) func138 fun args=>Dg (qO _)
  ·exact wG (e:=Extern.Sync.die .fatal) func139 fun args=>eX (IZ _ _)
  ·exact wG (e:=Extern.Sync.semrelease) func140 fun args=>Dg (qP _)
  ·exact wG (e:=Extern.Race.marked .read) func145 fun args=>eX (qi _ (fun _=>by simp) (fun _=>by simp) _)
  ·exact wG (e:=Extern.Race.marked .write) func125 fun args=>eX (qi _ (fun _=>by simp) (fun _=>by simp) _)
  ·exact wG (e:=fun _=>pure (.bool false)) func126 fun args=>eX (.pure)
  ·exact wG (e:=Extern.Sync.semacquire) func127 fun args=>Dg (qO _)
  ·exact wG (e:=Extern.Sync.semrelease) func147 fun args=>Dg (qP _)
  ·exact wG (e:=Extern.Sync.die .fatal) func142 fun args=>eX (IZ _ _)
  ·exact wG (e:=Extern.Atomic.loadT (.int .u64)) func148 fun args=>eX (Q7 ..)
  ·exact wG (e:=Extern.Atomic.casT (.int .u64)) func149 fun args=>eX (J8 ..)
  ·exact wG (e:=Extern.Atomic.update (Op.intArith .add) .u64 true) func152 fun args=>eX (vh _ (fun _ _ _=>pR ..) ..)
  ·exact wG (e:=Extern.Atomic.update (Op.intBits .or) .u64 false) func151 fun args=>eX (vh _ (fun _ _ _=>I0 ..) ..)
  ·exact wG (e:=Extern.Atomic.storeT) func153 fun args=>eX (Mz _)
  ·exact wG (e:=Extern.Synctest.none_) func122 fun args=>eX .halt
  ·exact wG (e:=Extern.Synctest.none_) func124 fun args=>eX .halt
  ·exact wG (e:=Extern.Synctest.none_) func141 fun args=>eX .halt
 ·exact FK (m:=.disable) (δ:=fun d=>d+1) func107 (by kernel_rfl) (by kernel_rfl) (by kernel_rfl) (by kernel_rfl) fun d=>rfl
 ·exact Uv (m:=.enable) (δ:=fun d=>d-1) func109 (by kernel_rfl) (by kernel_rfl) (by kernel_rfl) (by kernel_rfl) fun d=>rfl
 ·have e:s= "MayWrite" :=by simpa[uu,VC]using hs
  subst e;rcases MA hn with rfl|rfl|rfl<;>exact⟨by kernel_rfl,rfl⟩
end
section
open Go Go.Conc
section
variable {P:aB}{Sb:Nat->Prop}{α β:Type}
def aG.Vq{s:Sem α}{f:α->Sem β}(h:aG P Sb False s)(hf:∀a v v',s.run P v=.ok a v'->aG P Sb False (f a)):aG P Sb False (s >>= f):=by
 constructor;intro v w x v' hs hr hg es;rw[run_bind]at hr;cases h1:s.run P v with
 |halt _ _=>rw[h1]at hr;cases hr
 |ok a v1=>
  rw[h1]at hr;simp only at hr;obtain⟨t1,d1⟩:=mL s h1;obtain⟨t2,d2⟩:=mL (f a) hr;obtain⟨w1,wh,q1,q2,q3,q4,q5⟩:=h.yC hs h1 (fun k hk q=>hg k (by omega) q) es;obtain⟨w2,wV,r1,r2,r3,r4,r5⟩:=(hf a v v1 h1).yC q2 hr (fun k hk q=>by have:=hg (k+(v1.drawn-v.drawn)) (by omega) q;rw[t1,q3,q4,show v1.drawn+k=v.drawn+(k+(v1.drawn-v.drawn)) by omega,show w.drawn+(v1.drawn-v.drawn)+k=w.drawn+(k+(v1.drawn-v.drawn)) by omega];exact this) wh
  refine⟨w2,wV,by rw[fL,q1];exact r1,r2,r3.trans q3,by omega,fun e he=>?_⟩;rcases r5 e he with h3|h3
  ·exact q5 e h3
  ·exact .inr h3
end
structure og(P:aB)(T:gC)(Sb:Nat->Prop):Prop where
 sda:P.follows .staticDataAhead=true
 ext:∀f,T.ext f=true->∀args,aG P Sb False (callFunc f args)
 M3:∀args,aG P Sb False (callFunc T.M3 args)
 en:∀args,aG P Sb False (callFunc T.en args)
def StepT(P:aB)(Sb:Nat->Prop)(fr:ak)(c:List ak):Prop:=∃(α:Type) (s:Sem α),aG P Sb False s/\∀(cs:List ak),
 (∀w x w' es,s.runT P w #[]=(.ok x w',es)->∀fZ c1 w1 wh,stepG P true (G fr (c++cs)) w=.go (G fZ c1) w1 wh->w1=w'/\∀u u' es',s.runT P u #[]=(.ok x u',es')->stepG P true (G fr (c++cs)) u=.go (G fZ c1) u' (seen P fr.fn es'))/\
 (∀w h w' es,s.runT P w #[]=(.halt h w',es)->∀fZ c1 w1 wh,stepG P true (G fr (c++cs)) w=.go (G fZ (c1++cs)) w1 wh->¬iF fZ c1)
section
variable {P:aB}{T:gC}{Sb:Nat->Prop}{d out:Nat}{fr:ak}{c:List ak}
def bV(h:∀cs w,stepG P true (G fr (c++cs)) w=.go (G fZ (c1++cs)) w #[]):StepT P Sb fr c:=by refine⟨Unit,.pure (),aG.pure,fun cs=>⟨fun w x w' es hr fZ c1 w1 wh hs=>?_,fun w h w' es hr=>by cases hr⟩⟩;cases hr;rw[h]at hs;cases hs;refine⟨rfl,fun u u' es' hu=>?_⟩;cases hu;exact h cs u
def vI(h:∀cs w,∃o w' es,stepG P true (G fr (c++cs)) w=.ended o w' es):StepT P Sb fr c:=by refine⟨Unit,.pure (),aG.pure,fun cs=>⟨fun w x w' es hr fZ c1 w1 wh hs=>?_,fun w h w' es hr=>by cases hr⟩⟩;obtain⟨o,w2,wV,he⟩:=h cs w;rw[he]at hs;cases hs
def L8(hst:∀g,P.stepOf g=none)(qq:P.follows .staticDataAhead=true)(g:Nat)(w:af)(cs:List ak):∃o w' es,early P fr cs none g w=.ended o w' es:=by unfold early;simp only[qq,hst,Bool.not_true,Bool.false_eq_true,if_false];exact⟨_,_,_,rfl⟩
def Qx(hst:∀g,P.stepOf g=none)(qq:P.follows .staticDataAhead=true)(hk:fr.kind=.normal\/fr.kind=.deferred)(hr:s.runT P w #[]=(.halt h w',es))(cs:List ak)(hs:stepG.apply P true fr (c++cs) none s w=.go (G fZ (c1++cs)) w1 wh)(hm:fr.mode=.run):¬iF fZ c1:=by
 have dead:∀{x:GStep},tU x->x=.go (G fZ (c1++cs)) w1 wh->False:=fun hd he=>by
  rcases hd with⟨o,w2,wV,h1⟩|⟨g',w2,wV,h1,h2⟩|⟨g',g2,w2,wV,h1⟩
  ·rw[h1]at he;cases he
  ·rw[h1]at he;cases he;rcases h2 with h2|h2|⟨_,d,f,h2,_⟩ <;>cases h2
  ·rw[h1]at he;cases he
 by_cases hu:∃g,h=.unsupported (.initOrder g)
 ·obtain⟨g,rfl⟩:=hu;exfalso;have Ya:(fr.kind == CallKind.early)=false:=by rcases hk with h|h<;>rw[h]<;>rfl
  simp only[stepG.apply,if_true,hr,Ya,Bool.false_eq_true,if_false]at hs;obtain⟨o,w2,wV,he⟩:=L8 (fr:=fr) hst qq g w' (c++cs);rw[he]at hs;cases hs
 ·rcases y9 (fr:=fr) hst hk hr with⟨e,es',he,hg⟩|⟨w2,hg⟩|hg
  ·rw[hg]at hs;have e0:fr.raise [e]={fr with mode:=.panicking [e]}:=by unfold Frame.raise;rw[hm]
   rw[e0]at hs;simp only[GStep.go.injEq]at hs;have hf:fZ={fr with mode:=.panicking [e]}:=by have:=congrArg Goroutine.frame hs.1;exact this.symm
   intro hn;exact hn fZ (zbr ..) [e] (by rw[hf])
  ·exfalso;cases h with
   |unsupported u=>
    have lq:=hg (c++cs);simp only[stepG.apply,if_true,hr]at lq;cases u with
    |initOrder g=>exact hu ⟨g,rfl⟩
    |_=>cases lq
   |panic v=>
    have lq:=hg (c++cs);simp only[stepG.apply,if_true,hr,GStep.after]at lq;simp only[GStep.go.injEq]at lq;have e1:=congrArg (fun g=>g.frame.mode) lq.1;simp only[G,Frame.raise,hm]at e1;cases e1
   |goexit=>
    have lq:=hg (c++cs);simp only[stepG.apply,if_true,hr,GStep.after]at lq;simp only[GStep.go.injEq]at lq;have e1:=congrArg (fun g=>g.frame.mode) lq.1;simp only[G,Frame.raise,hm]at e1;cases e1
   |fatal m=>
    have lq:=hg (c++cs);simp only[stepG.apply,if_true,hr]at lq;rcases(za (P:=P) fr (c++cs) m w').after (seen P fr.fn (if fr.kind == .early then #[]else es))with⟨o,w3,TW,h1⟩|⟨g',w3,TW,h1,h2⟩|⟨g',g2,w3,TW,h1⟩
    ·rw[h1]at lq;cases lq
    ·rw[h1]at lq;cases lq;rcases h2 with h2|h2|⟨_,d,f,h2,_⟩ <;>cases h2
    ·rw[h1]at lq;cases lq
   |throw m=>
    have lq:=hg (c++cs);simp only[stepG.apply,if_true,hr]at lq;rcases(nS fr [] m false w').after (seen P fr.fn (if fr.kind == .early then #[]else es))with⟨o,w3,TW,h1⟩|⟨g',w3,TW,h1,h2⟩|⟨g',g2,w3,TW,h1⟩
    ·exact absurd (h1.symm.trans lq) (by intro h;cases h)
    ·have h3:=h1.symm.trans lq;cases h3;rcases h2 with h2|h2|⟨_,d,f,h2,_⟩ <;>cases h2
    ·exact absurd (h1.symm.trans lq) (by intro h;cases h)
   |blocked=>
    have lq:=hg (c++cs);simp only[stepG.apply,if_true,hr,GStep.after]at lq;cases lq
   |waiting=>
    have lq:=hg (c++cs);simp only[stepG.apply,if_true,hr,GStep.after]at lq;cases lq
   |_=>
    have lq:=hg (c++cs);simp only[stepG.apply,if_true,hr]at lq;cases lq
  ·exact fun _=>dead (hg (c++cs)) hs
def Bq{n:Next}(Vo:∀d,n≠Next.spawn d)(hk:fr.kind=.normal\/fr.kind=.deferred){v:af}{esv esw:Array aC}(hv:s.runT P v #[]=(.ok n v1,esv))(hw:s.runT P w #[]=(.ok n w1,esw))(h:stepG.apply P true fr cs none s v=.go g1 v2 es):v2=v1/\stepG.apply P true fr cs none s w=.go g1 w1 (seen P fr.fn esw):=by
 have Ya:(fr.kind == CallKind.early)=false:=by rcases hk with h|h<;>rw[h]<;>rfl
 simp only[stepG.apply,if_true,hv,Ya,Bool.false_eq_true,if_false]at h;simp only[stepG.apply,if_true,hw,Ya,Bool.false_eq_true,if_false];cases n<;>simp only at h⊢<;>(repeat' (split at h)) <;>first
  |(simp only[GStep.after,GStep.go.injEq]at h⊢;obtain⟨h1,h2,h3⟩:=h;exact⟨h2.symm,h1,trivial,by simp⟩)
  |(simp[GStep.after]at h;done)
  |exact absurd rfl (Vo _)
end
end
section
open Go Go.Conc
section
variable {P:aB}{T:gC}{Sb:Nat->Prop}{d out:Nat}{fr:ak}{c:List ak}
def Ao(hT:gS P T){s:String}(hs:T.Ip s=true)(v:aj)(args:Array aj):aG P Sb False (callMethod v s args):=by
 cases v with
 |iface t x=>
  have e0:callMethod (.iface t x) s args=(do let (f,receiver)<-method ((<-program).types.size+Made.depth) t x s;callFunc f (#[receiver]++args)):=rfl;rw[e0];refine aG.Vq rH fun p v v' hp=>?_;refine aG.Vq (u9 ..) fun fx v1 v2 hr=>?_;obtain⟨f,rc⟩:=fx;obtain⟨r,es,hr'⟩:∃r es,(method (p.types.size+Made.depth) t x s).runT P v1 #[]=(r,es):=⟨_,_,rfl⟩
  have e1:r=.ok (f,rc) v2:=by have:=Sem.runT_fst P (method (p.types.size+Made.depth) t x s) v1 #[];rw[hr',hr]at this;exact this
  subst e1;obtain⟨g1,g2⟩:=hT.Ip s f hs (nT _ hr');obtain⟨fn,c,q1,q2,q3,_⟩:=hT.jS f 0 0 g1;exact Fo q1 q2 q3 _
 |nilIface=>
  show aG P Sb False (runtimePanic RuntimeError.nilDeref);exact iB _
 |_=>exact aG.halt
def Iq(ρ:aD->aj)(cl:Call)(t:az):aG P Sb False (resolve ρ cl t):=by
 unfold resolve;dsimp only;split
 ·exact aG.pure
 ·exact aG.pure
 ·unfold Deferred.ofValue;split
  ·exact aG.pure
  ·exact aG.pure
  ·exact aG.halt
def acr(hT:gS P T)(hG:og P T Sb)(hr:mS T d fr out){s s1:Nat}(h1:T.TX fr.fn o s=some s1):aG P Sb False (execOp fr.eval o):=by
 have body:∀f a b args,T.jS f a=some b->aG P Sb False (callFunc f args):=fun f a b args hi=>by obtain⟨fn,cc,g1,g2,g3,_⟩:=hT.jS f a b hi;exact Fo g1 g2 g3 args
 unfold gC.TX at h1;cases hop:o.op with
 |call cl=>
  rw[hop]at h1;simp only at h1;split at h1
  ·cases h1
  ·cases hc:cl.callee with
   |invoke r nm=>
    rw[hc]at h1;simp only at h1;split at h1
    ·rename_i hh;rw[vJ hop hc];exact Ao hT hh.1 _ _
    ·cases h1
   |builtin b=>
    rw[hc]at h1;simp only at h1;split at h1
    ·rename_i hb;rw[tV hop hc];exact y8 hb ..
    ·cases h1
   |value x=>
    cases x with
    |tmp m=>
     rw[hc]at h1;simp only at h1;split at h1
     ·rename_i hh;have qY:=hr.vA m (by simpa using hh.1);cases hv:fr.tmps.getD m undef with
      |func fn a b=>
       have hfn:=qY fn a b hv;rw[Fq (T:=T) hop hc hv hfn];exact body _ _ _ _ hT.cf.1
      |_=>
       refine .pZ ⟨fun v x v' hx=>?_⟩;obtain⟨r,es,hr'⟩:∃r es,(execOp fr.eval o).runT P v #[]=(r,es):=⟨_,_,rfl⟩
       have e1:r=.ok x v':=by have:=Sem.runT_fst P (execOp fr.eval o) v #[];rw[hr',hx]at this;exact this
       subst e1;exact vK hop hc (fun fn a b=>by rw[hv];intro h;cases h) hr'
     ·cases h1
    |func f=>
     rw[hc]at h1;simp only at h1;split at h1
     ·obtain⟨e,zF,h1⟩:=zbj.1 h1;rw[Br (fr:=fr) (o:=o) hop hc];unfold gC.fD at zF;split at zF
      ·rename_i Qy;subst Qy;exact hG.M3 _
      ·split at zF
       ·rename_i _ Qy;subst Qy;exact hG.en _
       ·split at zF
        ·rename_i hx;exact hG.ext f hx _
        ·exact body _ _ _ _ zF
     ·cases h1
    |_=>rw[hc]at h1;cases h1
 |go cl=>
  unfold execOp;rw[hop];exact aG.bind (Iq ..) fun _=>aG.pure
 |defer cl=>
  rw[hop]at h1;simp only at h1;cases hc:cl.callee with
  |value x=>
   cases x with
   |func f=>exact Fl fun w es=>zc hop hc es
   |_=>rw[hc]at h1;cases h1
  |_=>rw[hc]at h1;cases h1
 |move x=>exact tS (by rw[hop];rfl)
 |assign x=>exact tS (by rw[hop];rfl)
 |makeFunc fn a b=>exact tS (by rw[hop];rfl)
 |_=>
  rw[hop]at h1;simp only at h1;split at h1
  ·rename_i hh;exact tS (by rw[hop];exact hh.1)
  ·cases h1
def Qz(hT:gS P T)(hG:og P T Sb)(hf:qM T fr out)(hr:mS T d fr out)(hm:fr.mode=.run)(hop:Yb fr):StepT P Sb fr c:=by
 obtain⟨ops,i,is,k,ht⟩:=hop;obtain⟨s,X,qq,tF,hk⟩:=hr.ok;rw[ht]at hk;cases ho:ops[i]? with
 |none=>exact bV (c1:=c) fun cs w=>jH hf hm ht (by rw[ho];rfl) _
 |some o=>
  obtain⟨s1,h1,h2,h3⟩:=QA hk ho;cases JV:Region.wanted o (yielded ops fr.tmps)with
  |false=>exact bV (c1:=c) fun cs w=>jH hf hm ht (by rw[ho];exact JV) _
  |true=>
   have hs:∀cs w,stepG P true (G fr cs) w=stepG.apply P true fr cs none (execOp fr.eval o) w:=fun cs w=>Bs hf hm ht ho JV cs;refine⟨Next,execOp fr.eval o,acr hT hG hr h1,fun cs=>⟨fun w x w' es hrun fZ c1 w1 wh hst=>?_,fun w h w' es hrun fZ c1 w1 wh hst=>?_⟩⟩
   ·rw[hs]at hst;by_cases hsp:∃d,x=Next.spawn d
    ·obtain⟨dd,rfl⟩:=hsp;exfalso;rcases vL (fr:=fr) hrun (c++cs)with⟨o,w2,wV,h1⟩|⟨g',w2,wV,h1,h2⟩|⟨g',g2,w2,wV,h1⟩
     ·rw[h1]at hst;cases hst
     ·rw[h1]at hst;cases hst;rcases h2 with h2|h2|⟨_,d,f,h2,_⟩ <;>cases h2
     ·rw[h1]at hst;cases hst
    ·have Vo:∀d,x≠Next.spawn d:=fun d e=>hsp ⟨d,e⟩;refine⟨(Bq Vo hf.kind hrun hrun hst).1,fun u u' es' hu=>?_⟩;rw[hs];exact(Bq Vo hf.kind hrun hu hst).2
   ·rw[hs]at hst;exact Qx hT.ou hG.sda hf.kind hrun cs hst hm
def L9(hT:gS P T)(hG:og P T Sb)(hf:qM T fr out)(hr:mS T d fr out)(hm:fr.mode=.run):StepT P Sb fr c:=by
 have BK:=hr;have hf0:=hf;obtain⟨s,X,qq,tF,hk⟩:=hr.ok;obtain⟨fn,tmps,todo,defers,mode,kind,ro⟩:=fr;obtain rfl:ro=none:=hf.round;obtain rfl:mode=.run:=hm;simp only at hk hf hr tF;cases todo with
 |nil=>exact bV (fZ:={fn,tmps,todo:= [],defers,mode:=.returning,kind,roundOf:=none}) (c1:=c) fun cs w=>rfl
 |cons i k=>
  cases i with
  |inBlock id=>exact bV (fZ:={fn,tmps,todo:=k,defers,mode:=.run,kind,roundOf:=none}) (c1:=c) fun cs w=>rfl
  |inLoop a=>exact bV (fZ:={fn,tmps,todo:=.code a :: .inLoop a :: k,defers,mode:=.run,kind,roundOf:=none}) (c1:=c) fun cs w=>rfl
  |inRegion ops is=>
   cases is with
   |nil=>exact bV (fZ:={fn,tmps,todo:=k,defers,mode:=.run,kind,roundOf:=none}) (c1:=c) fun cs w=>rfl
   |cons j is=>exact Qz hT hG hf0 BK rfl ⟨ops,j,is,k,rfl⟩
  |code cd=>
   cases cd with
   |skip=>exact bV (fZ:={fn,tmps,todo:=k,defers,mode:=.run,kind,roundOf:=none}) (c1:=c) fun cs w=>rfl
   |ret=>exact bV (fZ:={fn,tmps,todo:=.code .ret :: k,defers,mode:=.returning,kind,roundOf:=none}) (c1:=c) fun cs w=>rfl
   |seq a b=>exact bV (fZ:={fn,tmps,todo:=.code a :: .code b :: k,defers,mode:=.run,kind,roundOf:=none}) (c1:=c) fun cs w=>rfl
   |cond cd a b=>
    by_cases hc:∃q,(Frame.mk fn tmps (.code (.cond cd a b):: k) defers .run kind none).eval cd=.bool q
    ·obtain⟨q,hq⟩:=hc;exact bV (fZ:={fn,tmps,todo:=.code (if q then a else b):: k,defers,mode:=.run,kind,roundOf:=none}) (c1:=c) fun cs w=>by simp only[stepG,G,stepG.exec,hq]
    ·refine vI fun cs w=>⟨.stuck "cond: bool expected" ((Frame.mk fn tmps (.code (.cond cd a b):: k) defers .run kind none).pos P),w,#[],?_⟩
     simp only[stepG,G,stepG.exec];split
     ·rename_i q hq;exact absurd ⟨q,hq⟩ hc
     ·rfl
   |block id a=>exact bV (fZ:={fn,tmps,todo:=.code a :: .inBlock id :: k,defers,mode:=.run,kind,roundOf:=none}) (c1:=c) fun cs w=>rfl
   |loop a=>exact bV (fZ:={fn,tmps,todo:=.code a :: .inLoop a :: k,defers,mode:=.run,kind,roundOf:=none}) (c1:=c) fun cs w=>rfl
   |exit id=>
    cases he:exitTo id k with
    |some k'=>
     exact bV (fZ:={fn,tmps,todo:=k',defers,mode:=.run,kind,roundOf:=none}) (c1:=c) fun cs w=>by simp only[stepG,G,stepG.exec,he,Option.elim]
    |none=>
     refine vI fun cs w=>⟨.stuck "exit, goto: no such block or label" ((Frame.mk fn tmps (.code (.exit id):: k) defers .run kind none).pos P),w,#[],?_⟩
     simp only[stepG,G,stepG.exec,he,Option.elim];rfl
   |region id ops draw=>
    cases draw with
    |false=>exact bV (fZ:={fn,tmps,todo:=.inRegion ops (List.range ops.size):: k,defers,mode:=.run,kind,roundOf:=none}) (c1:=c) fun cs w=>rfl
    |true=>
     have hst:∀cs (w:af),stepG P true (G ⟨fn,tmps,.code (.region id ops true):: k,defers,.run,kind,none⟩ (c++cs)) w=.go (G ⟨fn,tmps,.inRegion ops (Region.schedule (P.follows .mixedOrders) ops (Question.cut (.order fn id) (w.tape w.drawn (.order fn id)))):: k,defers,.run,kind,none⟩ (c++cs)) {w with drawn:=w.drawn+1} #[]:=fun cs w=>by
      have hx:(choose (.order fn id)).run P w=.ok (Question.cut (.order fn id) (w.tape w.drawn (.order fn id))) {w with drawn:=w.drawn+1}:=by simp[choose,Sem.run,Question.forced]
      simp only[stepG,G,stepG.exec,hx,Bool.not_true,Bool.false_eq_true,if_false]
     have RR:∀(w:af),(choose (.order fn id)).runT P w #[]=(.ok (Question.cut (.order fn id) (w.tape w.drawn (.order fn id))) {w with drawn:=w.drawn+1},#[]):=fun w=>rfl;refine⟨Nat,choose (.order fn id),uO _,fun cs=>⟨fun w x w' es hrun fZ c1 w1 wh hs=>?_,fun w h w' es hrun=>by rw[RR]at hrun;cases hrun⟩⟩;rw[RR]at hrun;cases hrun;rw[hst]at hs;cases hs;refine⟨rfl,fun u u' es' hu=>?_⟩;rw[RR]at hu;simp only[Prod.mk.injEq,Result.ok.injEq]at hu;obtain⟨⟨h1,h2⟩,h3⟩:=hu;subst h2 h3;rw[hst,h1];rfl
   |_=>obtain⟨r,h1,_⟩:=hk;simp[gC.ck]at h1
  |_=>exact hk.elim
def C0(hT:gS P T)(hG:og P T Sb)(hf:qM T fr out)(hw:Wt T fr.kind out c)(hm:fr.mode≠.run)(hl:¬Leave fr c):StepT P Sb fr c:=by
 have hu:∀cs w,stepG P true (G fr cs) w=unwind P true fr cs none w:=fun cs w=>by simp only[stepG,G]
 obtain⟨a0,QB⟩:=hf.jS;obtain⟨fn0,c0,g1,g2,g3,_⟩:=hT.jS _ _ _ QB;cases hd:fr.defers with
 |cons x ds=>
  obtain⟨cap,hx⟩:=hf.w8 x (by rw[hd];exact zbr ..);by_cases lT:T.den fr.fn=true
  ·rw[if_pos lT]at hx;have hstep:∀cs w v es,(callFunc T.en (x.args++cap)).runT P w #[]=(.ok (.value v) w,es)->stepG P true (G fr cs) w=.go (G {fr with defers:=ds} cs) w (seen P fr.fn es):=fun cs w v es sj=>by rw[hu];unfold unwind;rw[hd];obtain⟨tg,ar⟩:=x;obtain rfl:tg=.fn (.func T.en) cap:=hx;simp only[callDeferred];have e1:(invoke (.fn (.func T.en) cap) ar).runT P w #[]=(.ok (.value v) w,es):=sj;simp only[e1,Bool.false_and,Bool.false_eq_true,if_false,GStep.after,Array.append_empty];rfl
   refine⟨Next,callFunc T.en (x.args++cap),hG.en _,fun cs=>⟨fun w y w' es hrun fZ c1 w1 wh hs=>?_,fun w h w' es hrun=>?_⟩⟩
   ·obtain⟨v,wV,sj,_⟩:=hT.en (x.args++cap) w;rw[hstep _ _ _ _ sj]at hs;rw[sj]at hrun;cases hrun;simp only[GStep.go.injEq]at hs;obtain⟨h1,rfl,h3⟩:=hs;refine⟨rfl,fun u u' es' Y9=>?_⟩;obtain⟨v',TW,acs,_⟩:=hT.en (x.args++cap) u;rw[acs]at Y9;have e2:u'=u/\es'=TW:=by simp only[Prod.mk.injEq,Result.ok.injEq]at Y9;exact⟨Y9.1.2.symm,Y9.2.symm⟩
    rw[hstep _ _ _ _ acs,e2.1,e2.2,h1]
   ·obtain⟨v,wV,sj,_⟩:=hT.en (x.args++cap) w;rw[sj]at hrun;cases hrun
  ·rw[if_neg lT]at hx;obtain⟨fn,cc,q1,q2,q3,_⟩:=hT.jS _ _ _ hT.Bt.1;refine bV (fZ:=Frame.enter P T.Bt (x.args++cap) .deferred) (c1:={fr with defers:=ds}:: c) fun cs w=>?_;rw[hu];unfold unwind;rw[hd];obtain⟨tg,ar⟩:=x;obtain rfl:tg=.fn (.func T.Bt) cap:=hx;simp only[callDeferred];have e1:(invoke (.fn (.func T.Bt) cap) ar).runT P w #[]=(.ok (.enter T.Bt (ar++cap)) w,#[]):=fJ q1 q2 q3 _ _ _;simp only[e1,Bool.false_and,Bool.false_eq_true,if_false];rfl
 |nil=>
  cases c with
  |nil=>exact absurd ⟨rfl,hm,hd⟩ hl
  |cons cl rest=>
   obtain⟨out',K4,YQ,jm⟩:=hw;cases tX:fr.mode with
   |run=>exact absurd tX hm
   |panicking ch=>
    have xy:fr.catches P=false:=by unfold Frame.catches;rw[g1]
    refine bV (fZ:=cl.raise ch) (c1:=rest) fun cs w=>?_;rw[hu];unfold unwind;rw[hd];simp only[tX,xy,Bool.false_eq_true,if_false,List.cons_append];rfl
   |returning=>
    have QC:∀cs w v w' es,(results fn0 fr.tmps).runT P w #[]=(.ok v w',es)->stepG P true (G fr cs) w=(doReturn P true fr cs none v w').after (seen P fr.fn es):=fun cs w v w' es hrun=>by rw[hu];unfold unwind;rw[hd];simp only[tX,g1,hrun]
    refine⟨aj,results fn0 fr.tmps,ze ..,fun cs=>⟨fun w x w' es hrun fZ c1 w1 wh hs=>?_,fun w h w' es hrun fZ c1 w1 wh hs=>?_⟩⟩
    ·rw[QC _ _ _ _ _ hrun]at hs;have key:∃Ds c2,∀w',doReturn P true fr ((cl :: rest)++cs) none x w'=.go (G Ds c2) w' #[]:=by
      rcases jm with⟨hk,hcm,FU⟩|⟨hk,hcm,Ft⟩
      ·exact⟨cl.finish x,rest++cs,fun w'=>by simp only[List.cons_append,doReturn,hk];rfl⟩
      ·refine⟨cl,rest++cs,fun w'=>?_⟩;simp only[List.cons_append,doReturn,hk];split
       ·rename_i v' g' older hmm;unfold gO at Ft;rw[hmm]at Ft;have:=Ft _ (zbr ..);simp at this
       ·rfl
     obtain⟨Ds,c2,hk2⟩:=key;rw[hk2]at hs;simp only[GStep.after,GStep.go.injEq]at hs;obtain⟨h1,rfl,h3⟩:=hs;refine⟨rfl,fun u u' es' Y9=>?_⟩;rw[QC _ _ _ _ _ Y9,hk2];simp only[GStep.after,Array.append_empty,h1]
    ·exfalso;rw[hu]at hs;unfold unwind at hs;rw[hd]at hs;simp only[tX,g1,hrun]at hs;cases h<;>cases hs
def C2(hT:gS P T)(hG:og P T Sb)(h:zJ T d fr c)(hl:¬Leave fr c):StepT P Sb fr c:=by
 obtain⟨out,⟨hf,hmo⟩,hw⟩:=h;by_cases hm:fr.mode=.run
 ·have hr:mS T d fr out:=by unfold gO at hmo;rw[hm]at hmo;exact hmo
  exact L9 hT hG hf hr hm
 ·exact C0 hT hG hf hw hm hl
end
end
section
open Go Go.Conc
section
variable {P:aB}{T:gC}{Sb:Nat->Prop}{d:Nat}{fr fZ:ak}{c c1:List ak}{v v1 w:af}{es:Array aC}
def tJ(hT:gS P T)(hG:og P T Sb)(hS:zJ T d fr c)(hl:¬Leave fr c)(hs:cx Sb v w)(hv:∀cs,stepG P true (G fr (c++cs)) v=.go (G fZ (c1++cs)) v1 es)(hp:iF fZ c1)(hag:JL v w (v1.drawn-v.drawn)):
 (v1.tape=v.tape/\v.drawn<=v1.drawn)/\∃w1 es',(∀cs,stepG P true (G fr (c++cs)) w=.go (G fZ (c1++cs)) w1 es')/\cx Sb v1 w1/\w1.tape=w.tape/\w1.drawn=w.drawn+(v1.drawn-v.drawn)/\∀e∈es',EvP Sb e:=by
 obtain⟨α,s,hg,hst⟩:=C2 hT hG hS hl;obtain⟨r,esv,hrun⟩:∃r es,s.runT P v #[]=(r,es):=⟨_,_,rfl⟩
 cases r with
 |halt h v'=>exact absurd hp ((hst []).2 v h v' esv hrun fZ c1 v1 es (hv []))
 |ok x v'=>
  obtain⟨rfl,_⟩:=(hst []).1 v x v' esv hrun fZ (c1++ []) v1 es (hv []);have hr:s.run P v=.ok x v1:=by rw[<-Sem.runT_fst P s v #[],hrun]
  obtain⟨m1,m2⟩:=mL s hr;obtain⟨w1,es',h1,h2,h3,h4,h5⟩:=hg.yC hs hr hag #[];refine⟨⟨m1,m2⟩,w1,seen P fr.fn es',fun cs=>?_,h2,h3,h4,fun e he=>?_⟩
  ·exact((hst cs).1 v x v1 esv hrun fZ (c1++cs) v1 es (hv cs)).2 w w1 es' h1
  ·rcases h5 e (Fu he)with h6|h6
   ·simp at h6
   ·exact h6.1
def wt(v:af)(tp:Nat->Question->Nat)(n:Nat):af:={v with tape:=tp,drawn:=n}
def acu(v:af)(tp Bu:Nat->Question->Nat)(n n':Nat):wt (wt v tp n) Bu n'=wt v Bu n':=rfl
def Ir(v:af)(tp:Nat->Question->Nat)(n:Nat):cx (fun _=>False) v (wt v tp n):=⟨rfl,fun _ _=>rfl,fun _ h=>h.elim,rfl,rfl⟩
def Vr{v:af}(h:cx (fun _=>False) v w):w=wt v w.tape w.drawn:=by
 obtain⟨hh,ht,hd,ho,hu⟩:=v;obtain⟨hh',ht',sJ,ho',hu'⟩:=w;have e1:hh=hh':=by apply Array.ext_getElem?;intro i;exact h.same i (fun h=>h)
 have e2:ho=ho':=h.os;have e3:hu=hu':=h.out;subst e1 e2 e3;rfl
def rS(hT:gS P T)(F5:∀g c,T.tgt g c=false)(hp:iF fr' c')(hS:zJ T d fr c)(hr:runN P (n+1) (lone fr (c++ [cV P]) v)=.next (lone fr' (c'++ [cV P]) w')):
 ¬Leave fr c/\∃fZ c1 v1 es d1,(∀cs,stepG P true (G fr (c++cs)) v=.go (G fZ (c1++cs)) v1 es)/\zJ T d1 fZ c1/\iF fZ c1/\deafBehind d es=d1/\runN P n (lone fZ (c1++ [cV P]) v1)=.next (lone fr' (c'++ [cV P]) w'):=by
 have Qi:¬Leave fr c:=fun h=>by have hc:=h.1;subst hc;exact vM hT hS h hr
 refine⟨Qi,?_⟩;rcases yG hT hS v with h|h|h|h
 ·obtain⟨fZ,c1,v1,es,d1,hs,qp,hd⟩:=h;have hst:step P (lone fr (c++ [cV P]) v)=.next (lone fZ (c1++ [cV P]) v1):=step_solo_go (a:=G fr (c++ [cV P])) rfl (hs _)
  have hr':=hr;unfold runN at hr';rw[hst]at hr';obtain⟨hp1,_⟩:=Bv hT hp n qp hr' (fun k f' q u _ _ ht=>by obtain⟨_,c,k',_,h⟩:=ht;rw[F5]at h;cases h)
  exact⟨fZ,c1,v1,es,d1,hs,qp,hp1,(hd hp1).2,hr'⟩
 ·exfalso;rcases h [cV P]with⟨o,w1,es,he⟩|⟨g1,w1,es,he,hg⟩|⟨g1,g2,w1,es,he⟩
  ·unfold runN at hr;rw[lone_eq_solo,gn rfl he]at hr;cases hr
  ·unfold runN at hr;rw[lone_eq_solo,step_solo_go rfl he]at hr;exact rT n hg hr
  ·unfold runN at hr;have e2:step P (lone fr (c++ [cV P]) v)=.next (duo g1 g2 w1 none):=by rw[lone_eq_solo,step,stepT_solo rfl,runT_solo_spawn he]
   rw[e2]at hr;exact rU n (by simp[duo]) hr
 ·obtain⟨_,c,k',_,h⟩:=h;rw[F5]at h;cases h
 ·exact absurd h Qi
def Reach(P:aB)(Q:ak->List ak->af->Prop)(fr:ak)(c:List ak)(v:af):Prop:=∃N fr' c' v',runN P N (lone fr (c++ [cV P]) v)=.next (lone fr' (c'++ [cV P]) v')/\Q fr' c' v'/\iF fr' c'
def nU(hs:∀cs,stepG P true (G fr (c++cs)) v=.go (G fZ (c1++cs)) v1 es):step P (lone fr (c++ [cV P]) v)=.next (lone fZ (c1++ [cV P]) v1):=step_solo_go (a:=G fr (c++ [cV P])) rfl (hs _)
def vN(hT:gS P T)(hG:og P T (fun _=>False))(F5:∀g c,T.tgt g c=false){Q:ak->List ak->af->Prop}(hQ:∀fr c v tp n,Q fr c v->Q fr c (wt v tp n)):∀(N:Nat) {d:Nat} {fr:ak} {c:List ak} {v:af} {fr':ak} {c':List ak} {v':af} (tp:Nat->Question->Nat) (n:Nat),zJ T d fr c->iF fr' c'->Q fr' c' v'->
 runN P N (lone fr (c++ [cV P]) v)=.next (lone fr' (c'++ [cV P]) v')->(∀m q,v.tape (v.drawn+m) q=tp (n+m) q)->Reach P Q fr c (wt v tp n)
 | 0,d,fr,c,v,fr',c',v',tp,n,hS,hp,hq,hr,ha=>by simp only[runN,Stepped.next.injEq]at hr;obtain⟨rfl,h2,rfl⟩:=kT hr;obtain rfl:c=c':=zbo h2;exact⟨0,fr,c,wt v tp n,rfl,hQ _ _ _ _ _ hq,hp⟩
 |N+1,d,fr,c,v,fr',c',v',tp,n,hS,hp,hq,hr,ha=>by
  obtain⟨Qi,fZ,c1,v1,es,d1,hs,qp,hp1,_,FZ⟩:=rS hT F5 hp hS hr;obtain⟨⟨m1,m2⟩,w1,es',g1,g2,g3,g4,_⟩:=tJ hT hG hS Qi (Ir v tp n) hs hp1 (fun k _ q=>ha k q);have e1:=Vr g2;obtain⟨N',f2,c2,u2,h1,h2,h3⟩:=vN hT hG F5 hQ N (v:=v1) tp (n+(v1.drawn-v.drawn)) qp hp hq FZ (fun m q=>by have:=ha (m+(v1.drawn-v.drawn)) q;rw[m1,show v1.drawn+m=v.drawn+(m+(v1.drawn-v.drawn)) by omega,show n+(v1.drawn-v.drawn)+m=n+(m+(v1.drawn-v.drawn)) by omega];exact this)
  have e2:w1=wt v1 tp (n+(v1.drawn-v.drawn)):=by rw[e1,g3,g4];rfl
  refine⟨N'+1,f2,c2,u2,?_,h2,h3⟩;unfold runN;rw[nU g1,e2];exact h1
inductive Ev(P:aB)(Q:ak->List ak->af->Prop):ak->List ak->af->Prop
 |done {fr:ak} {c:List ak} {v:af}:Q fr c v->iF fr c->Ev P Q fr c v
 |step {fr:ak} {c:List ak} {v:af} (F:(Nat->Question->Nat)->Nat->ak) (C:(Nat->Question->Nat)->Nat->List ak) (W:(Nat->Question->Nat)->Nat->af) (E:(Nat->Question->Nat)->Nat->Array aC):¬Leave fr c->
  (∀tp n cs,stepG P true (G fr (c++cs)) (wt v tp n)=.go (G (F tp n) (C tp n++cs)) (W tp n) (E tp n))->(∀tp n,iF (F tp n) (C tp n))->(∀tp n,Ev P Q (F tp n) (C tp n) (W tp n))->Ev P Q fr c v
def Yc(P:aB)(T:gC)(Q:ak->List ak->af->Prop)(x:ak×List ak×af):Prop:=
 (∃d,zJ T d x.1 x.2.1)/\¬Ev P Q x.1 x.2.1 x.2.2/\∀tp n,Reach P Q x.1 x.2.1 (wt x.2.2 tp n)
def QD(hT:gS P T)(hG:og P T (fun _=>False))(F5:∀g c,T.tgt g c=false)(hQ:∀fr c v tp n,Q fr c v->Q fr c (wt v tp n))(x:ak×List ak×af)(hx:Yc P T Q x):
 ∃(y:ak×List ak×af) (tp:Nat->Question->Nat) (k:Nat),Yc P T Q y/\∀(Bu:Nat->Question->Nat) (n':Nat),(∀m,m<k->∀q,Bu (n'+m) q=tp m q)->∃es,∀cs,stepG P true (G x.1 (x.2.1++cs)) (wt x.2.2 Bu n')=.go (G y.1 (y.2.1++cs)) (wt y.2.2 Bu (n'+k)) es:=by
 obtain⟨fr,c,v⟩:=x;obtain⟨⟨d,hS⟩,hE,hR⟩:=hx;simp only at hS hE hR;have hnq:∀tp n,iF fr c->¬Q fr c (wt v tp n):=fun tp n hp hq=>hE (.done (by have:=hQ _ _ _ v.tape v.drawn hq;exact this) hp);have Qi:¬Leave fr c:=fun hl=>by
  obtain⟨N,fr',c',v',h1,h2,h3⟩:=hR (fun _ _=>0) 0;cases N with
  |zero=>
   simp only[runN,Stepped.next.injEq]at h1;obtain⟨rfl,h5,rfl⟩:=kT h1;obtain rfl:c=c':=zbo h5;exact hnq _ _ h3 h2
  |succ N=>exact(rS hT F5 h3 hS h1).1 hl
 have h1:∃tp n,¬∃fZ c1 v1 es,(∀cs,stepG P true (G fr (c++cs)) (wt v tp n)=.go (G fZ (c1++cs)) v1 es)/\iF fZ c1/\Ev P Q fZ c1 v1:=by
  apply Classical.byContradiction;intro hno;have ha:=fun tp n=>Classical.byContradiction fun h=>hno ⟨tp,n,h⟩;exact hE (.step (fun tp n=>(ha tp n).choose) (fun tp n=>(ha tp n).choose_spec.choose) (fun tp n=>(ha tp n).choose_spec.choose_spec.choose) (fun tp n=>(ha tp n).choose_spec.choose_spec.choose_spec.choose) Qi
   (fun tp n=>(ha tp n).choose_spec.choose_spec.choose_spec.choose_spec.1) (fun tp n=>(ha tp n).choose_spec.choose_spec.choose_spec.choose_spec.2.1) (fun tp n=>(ha tp n).choose_spec.choose_spec.choose_spec.choose_spec.2.2))
 obtain⟨tp,n,h1⟩:=h1;obtain⟨N,fr',c',v',h2,h3,h4⟩:=hR tp n;cases N with
 |zero=>
  exfalso;simp only[runN,Stepped.next.injEq]at h2;obtain⟨rfl,h5,rfl⟩:=kT h2;obtain rfl:c=c':=zbo h5;exact hnq _ _ h4 h3
 |succ N=>
  obtain⟨_,fZ,c1,v1,es,d1,hs,qp,hp1,_,FZ⟩:=rS hT F5 h4 hS h2;obtain⟨⟨m1,m2⟩,_⟩:=tJ hT hG hS Qi (Ir (wt v tp n) tp n) hs hp1 (fun k _ q=>rfl);have go:∀(Bu:Nat->Question->Nat) (n':Nat),(∀m,m<v1.drawn-n->∀q,Bu (n'+m) q=tp (n+m) q)->∃es,∀cs,stepG P true (G fr (c++cs)) (wt v Bu n')=.go (G fZ (c1++cs)) (wt v1 Bu (n'+(v1.drawn-n))) es:=fun Bu n' ha=>by
   obtain⟨_,w1,es',g1,g2,g3,g4,_⟩:=tJ hT hG hS Qi (Ir (wt v tp n) Bu n') hs hp1 (fun k hk q=>(ha k hk q).symm);refine⟨es',fun cs=>?_⟩;have e2:w1=wt v1 Bu (n'+(v1.drawn-n)):=by rw[Vr g2,g3,g4];rfl
   rw[<-e2];exact g1 cs
  refine⟨(fZ,c1,v1),fun m=>tp (n+m),v1.drawn-n,⟨⟨d1,qp⟩,fun he=>h1 ⟨fZ,c1,v1,es,hs,hp1,he⟩,fun Bu n'=>?_⟩,go⟩;let tq:Nat->Question->Nat:=fun m=>if m<v1.drawn-n then tp (n+m)else Bu (n'+(m-(v1.drawn-n)))
  obtain⟨wV,Ro⟩:=go tq 0 (fun m hm q=>by simp only[tq,Nat.zero_add,hm,if_true]);obtain⟨N2,f2,c2,u2,q1,q2,q3⟩:=hR tq 0;cases N2 with
  |zero=>
   exfalso;simp only[runN,Stepped.next.injEq]at q1;obtain⟨rfl,h5,rfl⟩:=kT q1;obtain rfl:c=c2:=zbo h5;exact hnq _ _ q3 q2
  |succ N2=>
   unfold runN at q1;rw[nU Ro]at q1;simp only at q1;have:=vN hT hG F5 hQ N2 Bu n' qp q3 q2 q1 (fun m q=>by show tq (0+(v1.drawn-n)+m) q=_;simp only[tq,Nat.zero_add];rw[if_neg (by omega),show v1.drawn-n+m-(v1.drawn-n)=m by omega])
   rw[acu]at this;exact this
def LQ(hT:gS P T)(hG:og P T (fun _=>False))(F5:∀g c,T.tgt g c=false)(hQ:∀fr c v tp n,Q fr c v->Q fr c (wt v tp n))(hS:zJ T d fr c)(hR:∀tp n,Reach P Q fr c (wt v tp n)):Ev P Q fr c v:=by
 apply Classical.byContradiction;intro hE;have hx0:Yc P T Q (fr,c,v):=⟨⟨d,hS⟩,hE,hR⟩
 have nx:=fun(x:{x // Yc P T Q x})=>QD hT hG F5 hQ x.1 x.2;let f:{x // Yc P T Q x}->{x // Yc P T Q x}:=fun x=>⟨(nx x).choose,(nx x).choose_spec.choose_spec.choose_spec.1⟩
 let σ:Nat->{x // Yc P T Q x}:=fun i=>Nat.rec ⟨(fr,c,v),hx0⟩ (fun _ x=>f x) i;let tps:Nat->Nat->Question->Nat:=fun i=>(nx (σ i)).choose_spec.choose;let k:Nat->Nat:=fun i=>(nx (σ i)).choose_spec.choose_spec.choose;have hgo:∀i (Bu:Nat->Question->Nat) (n':Nat),(∀m,m<k i->∀q,Bu (n'+m) q=tps i m q)->∃es,∀cs,stepG P true (G (σ i).1.1 ((σ i).1.2.1++cs)) (wt (σ i).1.2.2 Bu n')=.go (G (σ (i+1)).1.1 ((σ (i+1)).1.2.1++cs)) (wt (σ (i+1)).1.2.2 Bu (n'+k i)) es:=fun i=>(nx (σ i)).choose_spec.choose_spec.choose_spec.2;let D:Nat->Nat:=fun i=>Nat.rec 0 (fun i s=>s+k i) i;have hD:∀i,D (i+1)=D i+k i:=fun i=>rfl;have hmono:∀i j,i<=j->D i<=D j:=by
  intro i j h;induction j with
  |zero=>obtain rfl:i=0:=by omega
         exact zbf _
  |succ j ih=>
   rcases zbt j i with h1|h1
   ·obtain rfl:i=j+1:=by omega
    exact zbf _
   ·have:=ih h1;rw[hD];omega
 let tz:Nat->Question->Nat:=fun m q=>open Classical in if h:∃i,D i<=m/\m<D (i+1)then tps h.choose (m-D h.choose) q else 0
 have htz:∀i m,m<k i->∀q,tz (D i+m) q=tps i m q:=by
  intro i m hm q;have hex:∃j,D j<=D i+m/\D i+m<D (j+1):=⟨i,by omega,by rw[hD];omega⟩
  have hj:=hex.choose_spec;have e:hex.choose=i:=by
   generalize hex.choose=j at hj;rcases Nat.lt_trichotomy j i with h|h|h
   ·have:=hmono (j+1) i h;omega
   ·exact h
   ·have:=hmono (i+1) j h;rw[hD]at this;omega
  have e3:tz (D i+m) q=tps hex.choose (D i+m-D hex.choose) q:=dif_pos hex;rw[e3,e,Nat.add_sub_cancel_left]
 have hrun:∀i,runN P i (lone fr (c++ [cV P]) (wt v tz 0))=.next (lone (σ i).1.1 ((σ i).1.2.1++ [cV P]) (wt (σ i).1.2.2 tz (D i))):=by
  intro i;induction i with
  |zero=>rfl
  |succ i ih=>
   obtain⟨es,hs⟩:=hgo i tz (D i) (htz i);rw[runN_add,ih];simp only[runN];rw[nU hs]
 obtain⟨N,fr',c',v',h1,h2,h3⟩:=hR tz 0;rw[hrun N]at h1;simp only[Stepped.next.injEq]at h1;obtain⟨e1,e2,e3⟩:=kT h1;have Y8:=zbo e2;rw[<-e1,<-Y8,<-e3]at h2;rw[<-e1,<-Y8]at h3;have hb:=(σ N).2.2.1;exact hb (.done (by have:=hQ _ _ _ (σ N).1.2.2.tape (σ N).1.2.2.drawn h2;exact this) h3)
end
end
section
open Go Go.Conc Go.ConcN
structure j3(Shun:Loc->Prop)(t:Trace):Prop where
 clean:∀said,¬Race said t
 known:∀i a,touchAt t i=some a->a.loc.isMemory=true->Knows t 0 i\/(Shun a.loc/\a.kind=.atomic)
 over:t.HandedOver
def JB(Sb:Nat->Prop)(l:Loc):Prop:=∃a,l=.cell a/\Sb a.block
section
variable {Shun:Loc->Prop}{t u:Trace}
def td.abF(h:td Shun t):j3 Shun t:=⟨h.clean,h.known,h.over⟩
def j3.abD(h:j3 Shun t)(hd:Deaf t 0=0):td Shun t:=⟨h.clean,h.known,h.over,hd⟩
def j3.app0(h:j3 Shun t)(hu:∀op∈u,op.g=0)(hs:∀op∈u,∀b,op.act.touch?=some b->Shun b.loc->b.kind≠.plain):j3 Shun (t++u):=by
 refine⟨fun said=>noRace_append (h.clean said) hu fun i a ha op hop b hb hc=>?_,fun i a ha hm=>?_,handedOver_app h.over fun op hop=>.inl (hu op hop)⟩
 ·rcases h.known i a ha hc.2.1 with hk|⟨hsa,hka⟩
  ·exact hk
  ·have hkb:=hs op hop b hb (hc.1▸hsa);obtain⟨_,_,_,jm⟩:=hc;rw[hka]at jm;rcases jm with x|x|⟨_,x,_⟩
   ·cases x
   ·exact absurd x hkb
   ·cases x
 ·obtain⟨x,hx,Qf⟩:=touch_of ha;rcases getElem?_append_cases hx with⟨_,hx'⟩|⟨_,St⟩
  ·exact(h.known i a (by rw[touchAt_of hx'];exact Qf) hm).imp (·.app u) id
  ·have:=knows_own hx;rw[hu x St]at this;exact .inl this
def j3.appMute{g:Nat}(h:j3 Shun t)(hu:∀op∈u,op.g=g)(hn:∀op∈u,op.act.touch?=none):j3 Shun (t++u):=by
 refine⟨fun said=>noRace_append (h.clean said) hu fun i a _ op hop b hb _=>(by rw[hn op hop]at hb;cases hb),fun i a ha hm=>?_,handedOver_app h.over fun op hop=>.inr (hn op hop)⟩;obtain⟨x,hx,Qf⟩:=touch_of ha;rcases getElem?_append_cases hx with⟨_,hx'⟩|⟨_,St⟩
 ·exact(h.known i a (by rw[touchAt_of hx'];exact Qf) hm).imp (·.app u) id
 ·rw[hn x St]at Qf;cases Qf
def j3.own{Sb:Nat->Prop}(h:j3 (JB Sb) t){fn:ay}(hes:∀e∈es,EvP Sb e):j3 (JB Sb) (t++MemOp.ofEvents 0 fn pos es):=by refine h.app0 (fun op hop=>by obtain⟨e,_,rfl⟩:=Go.Conc.mem_ofEvents hop;rfl) (fun op hop b hb hs hk=>?_);obtain⟨e,he,rfl⟩:=Go.Conc.mem_ofEvents hop;obtain⟨a,ha,hsb⟩:=hs;exact hes e he b a hb ha hk hsb
def j3.mute(h:j3 Shun t){g:Nat}{fn:ay}{pos:String}{es:Array aC}(hm:∀e∈es,e.mute=true):j3 Shun (t++MemOp.ofEvents g fn pos es):=
 h.appMute (g:=g) (fun op hop=>by obtain⟨e,_,rfl⟩:=Go.Conc.mem_ofEvents hop;rfl) (fun op hop=>by obtain⟨e,he,rfl⟩:=Go.Conc.mem_ofEvents hop;exact touch_mute (hm e he))
end
structure Crowd(P:aB)(T:gC)(Sb:Nat->Prop)(d:Nat)(fr:ak)(c cs:List ak)(gs:Array au)(t:Trace)(q:Nat->Nat):Prop where
 at0:gs[0]?=some (G fr (c++cs))
 stk:zJ T d fr c
 deaf:Deaf t 0=d
 lv:Leavers P t gs q
 past:j3 (JB Sb) t
 bd:∀(i:Nat) (op:MemOp),t[i]?=some op->op.g<gs.size
def H6{g:Nat}{fn:ay}(h:∀(i:Nat) (op:MemOp),t[i]?=some op->op.g<n)(hg:g<n)(i:Nat)(op:MemOp)(hi:(t++MemOp.ofEvents g fn pos es)[i]?=some op):op.g<n:=by
 rcases getElem?_append_cases hi with⟨_,h1⟩|⟨_,h1⟩
 ·exact h i op h1
 ·obtain⟨e,_,rfl⟩:=Go.Conc.mem_ofEvents h1;exact hg
section
variable {P:aB}{T:gC}{Sb:Nat->Prop}
def z9(h:stepG P true g w=.go (G fZ c1) w1 es)(gs0:gs[0]?=some g)(sl:Option (Nat×Nat)):runT P (crowd gs w sl) 0=(.next (crowd ((gs.map (woken P g (G fZ c1) w1)).setIfInBounds 0 (G fZ c1)) w1 sl),MemOp.ofEvents 0 g.frame.fn g.frame.place es):=runT_crowd_go (P:=P) (sl:=sl) (i:=0) gs0 (show stepG P (0 == 0) g w=_ from h)
def LP(hT:gS P T)(hG:og P T Sb)(F5:∀g c,T.tgt g c=false){c:List ak}{v:af}(hE:Ev P Q fr c v):∀(M d:Nat) (gs:Array au) (w:af) (sl:Option (Nat×Nat)) (t:Trace) (q:Nat->Nat),sumTo gs.size q=M->cx Sb v w->Crowd P T Sb d fr c cs gs t q->
 ∃N gs' fr' c' v' w' sl' t' q' d',runNT P N (crowd gs w sl) t=(.next (crowd gs' w' sl'),t')/\gs'.size=gs.size/\Q fr' c' v'/\cx Sb v' w'/\Crowd P T Sb d' fr' c' cs gs' t' q':=by
 induction hE with
 |done hq hp=>
  intro M d gs w sl t q hM hs hC;exact⟨0,gs,_,_,_,w,sl,t,q,d,rfl,rfl,hq,hs,hC⟩
 |step F C W E Qi hstep hnp hev ih=>
  rename_i fr c v;intro M;induction M using Nat.strongRecOn with
  |_ M ihM=>
   intro d gs w sl t q hM hs hC;have h0:=hC.at0;have hL:=hC.lv;have X5:0<gs.size:=(zbg.1 h0).1;have U2:∀g∈gs,awake g:=by
    intro g hg;obtain⟨i,hi,rfl⟩:=Array.mem_iff_getElem.1 hg;rcases zbs i with rfl|hpos
    ·have:gs[0]=G fr (c++cs):=by simpa[Array.getElem?_eq_getElem hi]using h0
     rw[this];exact awake_of (.inl rfl)
    ·exact awake_of ((hL.old i _ hpos (Array.getElem?_eq_getElem hi)).status.elim .inl fun x=>.inr (.inr x))
   obtain⟨i,g,n,sl',hi,hg,hst⟩:=crowd_pick (P:=P) (w:=w) (sl:=sl) U2 ⟨0,_,h0,rfl⟩;rcases zbs i with rfl|hpos
   ·obtain rfl:g=G fr (c++cs):=by rw[h0]at hi;exact(Option.some.inj hi).symm
    have Ro:cx Sb (wt v w.tape n) (w.at n):=⟨hs.size,hs.same,hs.gF,hs.os,hs.out⟩
    obtain⟨_,w1,es',g1,g2,g3,g4,g5⟩:=tJ hT hG hC.stk Qi Ro (hstep w.tape n) (hnp w.tape n) (fun k _ q=>rfl);have Jc:zJ T (deafBehind d es') (F w.tape n) (C w.tape n):=by
     rcases yG hT hC.stk (w.at n)with h|h|h|h
     ·obtain⟨fZ,c1,w2,wV,d1,hs1,qp,hd⟩:=h;have e0:=(g1 []).symm.trans (hs1 []);simp only[List.append_nil,GStep.go.injEq]at e0;obtain⟨e1,rfl,rfl⟩:=e0;have ef:F w.tape n=fZ:=congrArg Goroutine.frame e1;have ec:C w.tape n=c1:=congrArg Goroutine.callers e1;have hp1:=hnp w.tape n;rw[ef,ec]at hp1⊢;rw[(hd hp1).2];exact qp
     ·exfalso;rcases h []with⟨o,w2,wV,he⟩|⟨g2,w2,wV,he,hdg⟩|⟨ga,gb,w2,wV,he⟩
      ·rw[g1]at he;cases he
      ·rw[g1]at he;cases he;rcases hdg with h2|h2|⟨_,dd,f,h2,_⟩ <;>cases h2
      ·rw[g1]at he;cases he
     ·obtain⟨_,cc,k',_,h⟩:=h;rw[F5]at h;cases h
     ·exact absurd h Qi
    have yH:=z9 (g1 cs) h0 sl';have hsz:((gs.map (woken P (G fr (c++cs)) (G (F w.tape n) (C w.tape n++cs)) w1)).setIfInBounds 0 (G (F w.tape n) (C w.tape n++cs))).size=gs.size:=by simp
    obtain⟨N,gs',fr',c',v',w',Sp,t',q',d',r1,r2,r3,r4,r5⟩:=ih w.tape n (sumTo gs.size q) (deafBehind d es') ((gs.map (woken P (G fr (c++cs)) (G (F w.tape n) (C w.tape n++cs)) w1)).setIfInBounds 0 (G (F w.tape n) (C w.tape n++cs))) w1 sl' (t++MemOp.ofEvents 0 fr.fn fr.place es') q (by rw[hsz]) g2
     ⟨by simp[X5],Jc,by rw[Deaf_own,hC.deaf],⟨fun j x hj hx=>by
         have hne:0≠j:=by omega
         rw[zbh hne,Array.getElem?_map]at hx;obtain⟨y,hy,rfl⟩:=zbu.1 hx;have hq:=hL.old j y hj hy;rw[woken_quitsD hq,Deaf_other t (by omega) _ (fun op hop=>by obtain⟨e,_,rfl⟩:=Go.Conc.mem_ofEvents hop;rfl)];exact hq,fun j hj=>by rw[Deaf_other t (g':=0) (by simp at hj;omega) _ (fun op hop=>by obtain⟨e,_,rfl⟩:=Go.Conc.mem_ofEvents hop;rfl)];exact hL.above j (by simpa using hj)⟩,hC.past.own g5,fun j op hj=>by rw[hsz];exact H6 hC.bd X5 j op hj⟩
    refine⟨N+1,gs',fr',c',v',w',Sp,t',q',d',?_,r2.trans hsz,r3,r4,r5⟩;simp only[runNT,hst,yH];exact r1
   ·have hq:=hL.old i g hpos hi;have hi0:(i == 0)=false:=by simp;omega
    have hlt:i<gs.size:=(zbg.1 hi).1;cases JH:q i with
    |zero=>rw[JH]at hq;rw[hq.1]at hg;cases hg
    |succ k=>
     rw[JH]at hq;rcases hq with⟨hf,_⟩|⟨_,g',es,hm,Qj,fA⟩
     ·rw[hf]at hg;cases hg
     have yH:=runT_crowd_go (P:=P) (sl:=sl') (i:=i) hi (by rw[hi0];exact Qj (w.at n));have hsz:((gs.map (woken P g g' (w.at n))).setIfInBounds i g').size=gs.size:=by simp
     have hsum:sumTo gs.size (Go.ConcN.upd q i k)+(k+1)=sumTo gs.size q+k:=by have:=sumTo_upd q k id hlt;simpa[JH]using this
     obtain⟨N,gs',fr',c',v',w',Sp,t',q',d',r1,r2,r3,r4,r5⟩:=ihM (sumTo gs.size (Go.ConcN.upd q i k)) (by omega) d ((gs.map (woken P g g' (w.at n))).setIfInBounds i g') (w.at n) sl' (t++MemOp.ofEvents i g.frame.fn g.frame.place es) (Go.ConcN.upd q i k) (by rw[hsz])
      ⟨hs.size,hs.same,hs.gF,hs.os,hs.out⟩
      ⟨by
        have hne:i≠0:=by omega
        rw[zbh hne,Array.getElem?_map,h0];simp[woken_run (show (G fr (c++cs)).status=.running from rfl)],hC.stk,by rw[Deaf_other t (g':=i) (by omega) _ (fun op hop=>by obtain⟨e,_,rfl⟩:=Go.Conc.mem_ofEvents hop;rfl)];exact hC.deaf,⟨fun j x hj hx=>by
        by_cases hji:i=j
        ·subst hji;rw[Array.getElem?_setIfInBounds_self_of_lt (by simpa using hlt)]at hx;obtain rfl:=Option.some.inj hx;rw[Go.ConcN.upd_same,Deaf_own];exact fA
        ·rw[zbh hji,Array.getElem?_map]at hx;obtain⟨y,hy,rfl⟩:=zbu.1 hx;have hqj:=hL.old j y hj hy;rw[woken_quitsD hqj,Go.ConcN.upd_ne q k (Ne.symm hji),Deaf_other t hji _ (fun op hop=>by obtain⟨e,_,rfl⟩:=Go.Conc.mem_ofEvents hop;rfl)];exact hqj,fun j hj=>by rw[Deaf_other t (g':=i) (by simp at hj;omega) _ (fun op hop=>by obtain⟨e,_,rfl⟩:=Go.Conc.mem_ofEvents hop;rfl)];exact hL.above j (by simpa using hj)⟩,hC.past.mute hm,fun j op hj=>by rw[hsz];exact H6 hC.bd hlt j op hj⟩
     refine⟨N+1,gs',fr',c',v',w',Sp,t',q',d',?_,r2.trans hsz,r3,r4,r5⟩;simp only[runNT,hst,yH];exact r1
end
end
section
open Go Go.Conc Go.ConcN
noncomputable def gF(Sb:Nat->Prop)(w:af):af:={w with heap:=w.heap.mapIdx fun i o=>open Classical in if Sb i then(match o with|.cells c t _=>.pending c t|o=>o)else o}
def oJ(Sb:Nat->Prop)(w:af):Prop:=∀b,Sb b->∃c t,c.size≠0/\w.heap[b]?=some (.cells c t (0,0))
section
variable {P:aB}{T:gC}{Sb:Nat->Prop}
def D7(h:oJ Sb w):cx Sb (gF Sb w) w:=by
 refine⟨by simp[gF],fun i hi=>?_,fun i hi=>?_,rfl,rfl⟩
 ·simp only[gF,Array.getElem?_mapIdx,if_neg hi];cases w.heap[i]? <;>rfl
 ·obtain⟨c,t,h0,h1⟩:=h i hi;refine⟨c,t,h0,?_,h1⟩;simp only[gF,Array.getElem?_mapIdx,h1,Option.map_some,if_pos hi]
def NH{v:af}(h:cx (fun _=>False) v w):v.heap=w.heap:=by apply Array.ext_getElem?;intro i;exact h.same i fun h=>h
def CL(hT:gS P T)(hG:∀Sb,og P T Sb)(F5:∀g c,T.tgt g c=false)(hQ:∀fr c v tp n,Q fr c v->Q fr c (wt v tp n)){c:List ak}{q:Nat->Nat}(hC:Crowd P T Sb d fr c cs gs t q)(hw:oJ Sb w)(hR:∀tp n,Reach P Q fr c (wt (gF Sb w) tp n))(sl:Option (Nat×Nat)):
 ∃N gs' fr' c' v' w' sl' t' q' d',runNT P N (crowd gs w sl) t=(.next (crowd gs' w' sl'),t')/\gs'.size=gs.size/\Q fr' c' v'/\cx Sb v' w'/\Crowd P T Sb d' fr' c' cs gs' t' q':=
 LP hT (hG Sb) F5 (LQ hT (hG _) F5 hQ hC.stk hR) _ d gs w sl t q rfl (D7 hw) hC
def mg{m1:Machine}{t1:Trace}:∀(a:Nat) {m:Machine} {t:Trace} (b:Nat),runNT P a m t=(.next m1,t1)->runNT P (a+b) m t=runNT P b m1 t1
 | 0,m,t,b,h=>by simp only[runNT,Prod.mk.injEq,Stepped.next.injEq]at h;obtain⟨rfl,rfl⟩:=h;rw[Nat.zero_add]
 |a+1,m,t,b,h=>by
  rw[Nat.add_right_comm];simp only[runNT]at h⊢;cases hs:stepT P m with
  |mk s ops=>
   rw[hs]at h;cases s with
   |next m'=>simp only at h⊢;exact mg a b h
   |ended o w=>simp only at h;cases h
def CM(gs:Array au)(h:gs.size=1):Leavers P #[] gs (fun _=>0):=⟨fun i g hi hg=>by have:=(zbg.1 hg).1;omega,fun j _=>rfl⟩
def D8(hS:zJ T 0 fr []):Crowd P T (fun _=>False) 0 fr [] [] #[G fr []] #[] (fun _=>0):=by
 refine⟨rfl,hS,rfl,CM _ rfl,⟨fun said=>?_,fun i a ha=>?_,fun i g hg=>?_⟩,fun i op h=>by simp at h⟩
 ·rintro⟨i,j,_,⟨a,b,ha,_⟩,_⟩;simp[Trace.act?]at ha
 ·obtain⟨x,hx,_⟩:=touch_of ha;simp at hx
 ·simp[Trace.g?]at hg
def Gn{Post:aj->af->Prop}:∀(M:Nat) (d:Nat) (gs:Array au) (w:af) (sl:Option (Nat×Nat)) (t:Trace) (q:Nat->Nat),sumTo gs.size q=M->Crowd P T Sb d fr [] [] gs t q->(∀n,stepG P true (G fr []) (w.at n)=.ended (.done x) (w.at n) #[]/\Post x (w.at n))->
 ∃N last o w' t',runNT P (N+1) (crowd gs w sl) t=(.ended o w',t')/\runN P N (crowd gs w sl)=.next last/\step P last=.ended o w'/\Conc.Good P Post last o w' t':=by
 intro M;induction M using Nat.strongRecOn with
 |_ M ihM=>
  intro d gs w sl t q hM hC hend;have h0:=hC.at0;have hL:=hC.lv;have X5:0<gs.size:=(zbg.1 h0).1;have U2:∀g∈gs,awake g:=by
   intro g hg;obtain⟨i,hi,rfl⟩:=Array.mem_iff_getElem.1 hg;rcases zbs i with rfl|hpos
   ·have:gs[0]=G fr ([]++ []):=by simpa[Array.getElem?_eq_getElem hi]using h0
    rw[this];exact awake_of (.inl rfl)
   ·exact awake_of ((hL.old i _ hpos (Array.getElem?_eq_getElem hi)).status.elim .inl fun x=>.inr (.inr x))
  obtain⟨i,g,n,sl',hi,hg,hst⟩:=crowd_pick (P:=P) (w:=w) (sl:=sl) U2 ⟨0,_,h0,rfl⟩;rcases zbs i with rfl|hpos
  ·obtain rfl:g=G fr []:=by rw[h0]at hi;exact(Option.some.inj hi).symm
   obtain⟨he,hp⟩:=hend n;have yH:=runT_many_ended (P:=P) (sl:=sl') (i:=0) hi (show stepG P (0 == 0) (G fr []) (w.at n)=_ from he);have hP':=hC.past.own (fn:=fr.fn) (pos:=fr.place) (es:=#[]) (fun e he=>by simp at he);have ht0:stepT P (crowd gs w sl)=(.ended (.done x) (w.at n),MemOp.ofEvents 0 fr.fn fr.place #[]):=hst.trans yH;refine⟨0,crowd gs w sl,.done x,w.at n,t++MemOp.ofEvents 0 fr.fn fr.place #[],by simp only[runNT,ht0],rfl,by rw[step,ht0],x,rfl,hp,hP'.clean,hP'.over,⟨fun y hy=>?_,rfl⟩,fun j y hy hj=>?_⟩
   ·obtain⟨j,hj⟩:=List.mem_iff_getElem?.1 hy;rw[List.getElem?_drop]at hj;exact⟨_,(hL.old (1+j) y (by omega) (by simpa[crowd]using hj)).leaves⟩
   ·have hq:=hL.old j y (by omega) hy;refine⟨q j,?_⟩;have e:(t++MemOp.ofEvents 0 fr.fn fr.place #[]).deaf j (t++MemOp.ofEvents 0 fr.fn fr.place #[]).size=Deaf t j:=
     Deaf_other t (g:=j) (g':=0) (by omega) _ (fun op hop=>by obtain⟨e,_,rfl⟩:=Go.Conc.mem_ofEvents hop;rfl)
    rw[e];exact hq.hears _
  ·have hq:=hL.old i g hpos hi;have hi0:(i == 0)=false:=by simp;omega
   have hlt:i<gs.size:=(zbg.1 hi).1;cases JH:q i with
   |zero=>rw[JH]at hq;rw[hq.1]at hg;cases hg
   |succ k=>
    rw[JH]at hq;rcases hq with⟨hf,_⟩|⟨_,g',es,hm,Qj,fA⟩
    ·rw[hf]at hg;cases hg
    have yH:=runT_crowd_go (P:=P) (sl:=sl') (i:=i) hi (by rw[hi0];exact Qj (w.at n));have hsz:((gs.map (woken P g g' (w.at n))).setIfInBounds i g').size=gs.size:=by simp
    have hsum:sumTo gs.size (Go.ConcN.upd q i k)+(k+1)=sumTo gs.size q+k:=by have:=sumTo_upd q k id hlt;simpa[JH]using this
    obtain⟨N,last,o,w',t',r1,r2,r3,r4⟩:=ihM (sumTo gs.size (Go.ConcN.upd q i k)) (by omega) d ((gs.map (woken P g g' (w.at n))).setIfInBounds i g') (w.at n) sl' (t++MemOp.ofEvents i g.frame.fn g.frame.place es) (Go.ConcN.upd q i k) (by rw[hsz])
     ⟨by
       have hne:i≠0:=by omega
       rw[zbh hne,Array.getElem?_map,h0];simp[woken_run (show (G fr []).status=.running from rfl)],hC.stk,by rw[Deaf_other t (g':=i) (by omega) _ (fun op hop=>by obtain⟨e,_,rfl⟩:=Go.Conc.mem_ofEvents hop;rfl)];exact hC.deaf,⟨fun j x hj hx=>by
       by_cases hji:i=j
       ·subst hji;rw[Array.getElem?_setIfInBounds_self_of_lt (by simpa using hlt)]at hx;obtain rfl:=Option.some.inj hx;rw[Go.ConcN.upd_same,Deaf_own];exact fA
       ·rw[zbh hji,Array.getElem?_map]at hx;obtain⟨y,hy,rfl⟩:=zbu.1 hx;have hqj:=hL.old j y hj hy;rw[woken_quitsD hqj,Go.ConcN.upd_ne q k (Ne.symm hji),Deaf_other t hji _ (fun op hop=>by obtain⟨e,_,rfl⟩:=Go.Conc.mem_ofEvents hop;rfl)];exact hqj,fun j hj=>by rw[Deaf_other t (g':=i) (by simp at hj;omega) _ (fun op hop=>by obtain⟨e,_,rfl⟩:=Go.Conc.mem_ofEvents hop;rfl)];exact hL.above j (by simpa using hj)⟩,hC.past.mute hm,fun j op hj=>by rw[hsz];exact H6 hC.bd hlt j op hj⟩ (fun n'=>hend n')
    have acn:stepT P (crowd gs w sl)=(.next (crowd ((gs.map (woken P g g' (w.at n))).setIfInBounds i g') (w.at n) sl'),MemOp.ofEvents i g.frame.fn g.frame.place es):=hst.trans yH;refine⟨N+1,last,o,w',t',?_,?_,r3,r4⟩
    ·rw[show N+1+1=(N+1)+1 from rfl];simp only[runNT,acn]at r1⊢;exact r1
    ·rw[runN_succ_next acn];exact r2
end
end
section
open Go Go.Conc
def To(P:aB)(Q:ak->List ak->af->Prop)(fr:ak)(c:List ak)(w:af):Prop:=∀cs,∃fr' c' w',Q fr' c' w'/\Steps P (lone fr (c++cs) w) (lone fr' (c'++cs) w')
section
variable {P:aB}{Q Q':ak->List ak->af->Prop}{fr fZ b:ak}{c c1:List ak}{w w1:af}{a:Act}{k:List Item}{x rest:Code}
def To.done(h:Q fr c w):To P Q fr c w:=fun _=>⟨fr,c,w,h,.refl P _⟩
def To.then(h:To P Q fr c w)(hq:∀fr c w,Q fr c w->To P Q' fr c w):To P Q' fr c w:=fun cs=>by obtain⟨f1,c1,w1,h1,s1⟩:=h cs;obtain⟨f2,c2,w2,h2,s2⟩:=hq f1 c1 w1 h1 cs;exact⟨f2,c2,w2,h2,s1.trans s2⟩
def To.step(hs:∀cs,step P (lone fr (c++cs) w)=.next (lone fZ (c1++cs) w1))(h:To P Q fZ c1 w1):To P Q fr c w:=fun cs=>by obtain⟨f2,c2,w2,h2,s2⟩:=h cs;exact⟨f2,c2,w2,h2,.head (hs cs) s2⟩
def To.code{R:Act->af->Prop}(hx:x.wp P (Exit.then R fun _ _ _=>False) a w)(h:∀a' w',R a' w'->To P Q (b.at a' k) c w'):To P Q (b.at a (.code x :: k)) c w:=fun cs=>by
 obtain⟨e,a',w',hq,Lh⟩:=hx b k (c++cs);cases e with
 |normal=>
  obtain⟨f2,c2,w2,h2,s2⟩:=h a' w' hq cs;exact⟨f2,c2,w2,h2,Steps.trans Lh s2⟩
 |_=>exact hq.elim
def To.cj(h:∀K:Act->af->Prop,(∀a w,To P Q (b.at a (.code rest :: k)) c w->K a w)->x.wp P (Exit.then K fun _ _ _=>False) a w):To P Q (b.at a (.code (x.seq rest):: k)) c w:=
 .step (fun _=>step_seq) (.code (h _ fun _ _ h=>h) fun _ _ h=>h)
def To.last{R:Act->af->Prop}(hx:x.wp P (fun e a w=>(e=.normal\/e=.ret)/\R a w) a w)(hk:k= [])(h:∀a' todo w',R a' w'->To P Q {b.at a' todo with mode:=.returning} c w'):To P Q (b.at a (.code x :: k)) c w:=fun cs=>by
 subst hk;obtain⟨e,a',w',⟨he,hq⟩,Lh⟩:=hx b [] (c++cs);rcases he with rfl|rfl
 ·obtain⟨f2,c2,w2,h2,s2⟩:=h a' [] w' hq cs;exact⟨f2,c2,w2,h2,Steps.trans Lh (.head step_end s2)⟩
 ·obtain⟨todo,hst⟩:=Lh;obtain⟨f2,c2,w2,h2,s2⟩:=h a' todo w' hq cs;exact⟨f2,c2,w2,h2,Steps.trans hst s2⟩
def To.region{id:Nat}{ops:Array Oper}(h:To P Q (b.at a (.inRegion ops (List.range ops.size):: k)) c w):To P Q (b.at a (.code (.region id ops false):: k)) c w:=.step (fun _=>step_region) h
def To.over{ops:Array Oper}(h:To P Q (b.at a k) c w):To P Q (b.at a (.inRegion ops [] :: k)) c w:=.step (fun _=>step_region_end) h
def To.ops{ops:Array Oper}{is:List Nat}{R:Act->af->Prop}(hx:wpOps P ops (Exit.then R fun _ _ _=>False) is a w)(h:∀a' w',R a' w'->To P Q (b.at a' k) c w'):To P Q (b.at a (.inRegion ops is :: k)) c w:=fun cs=>by
 obtain⟨e,a',w',hq,Lh⟩:=wp_ops is a w hx b k (c++cs);cases e with
 |normal=>
  obtain⟨f2,c2,w2,h2,s2⟩:=h a' w' hq cs;exact⟨f2,c2,w2,h2,Steps.trans Lh s2⟩
 |_=>exact hq.elim
def cU(h:o.guard=none)(f:Nat->Option Bool):Region.wanted o f=true:=by unfold Region.wanted;rw[h]
def kC{ops:Array Oper}{E:Exit->Act->af->Prop}(j:Nat):wpOps P ops E (List.range' j (ops.toList.drop j).length)=wpList P ops E (ops.toList.drop j):=wpOps_eq_wpList _ j fun i=>by rw[List.getElem?_drop];simp
def To.Ay{ops:Array Oper}(h:∀K:Act->af->Prop,(∀a w,To P Q (b.at a k) c w->K a w)->wpOps P ops (Exit.then K fun _ _ _=>False) is a w):To P Q (b.at a (.inRegion ops is :: k)) c w:=.ops (h _ fun _ _ h=>h) fun _ _ h=>h
def To.op{ops:Array Oper}(ho:ops[i]?=some o)(hw:Region.wanted o (yielded ops a.tmps)=true)(hr:(execOp a.eval o).run P w=.ok (.value v) w1)(h:To P Q (b.at (a.put o.dst v) (.inRegion ops is :: k)) c w1):To P Q (b.at a (.inRegion ops (i :: is):: k)) c w:=by refine .step (fun cs=>step_lone_go ?_) h;rw[stepG_op ho hw];simp only[stepG.apply,Sem.runT_eq,if_true,hr];rw[Frame.finish_at,ho];rfl
def To.enter{ops:Array Oper}{i:Nat}{is:List Nat}{o:Oper}{f:ay}{args:Array aj}(ho:ops[i]?=some o)(hw:Region.wanted o (yielded ops a.tmps)=true)(hr:(execOp a.eval o).run P w=.ok (.enter f args) w1)(h:To P Q (Frame.enter P f args .normal) (b.at a (.inRegion ops (i :: is):: k):: c) w1):To P Q (b.at a (.inRegion ops (i :: is):: k)) c w:=by refine .step (c1:=b.at a (.inRegion ops (i :: is):: k):: c) (fun cs=>step_lone_go ?_) h;rw[stepG_op ho hw];simp only[stepG.apply,Sem.runT_eq,if_true,hr];rfl
def To.leave(hl:fr.leaving P w (.returned v))(h:To P Q (cl.finish v) c w):To P Q fr (cl :: c) w:=.step (fun _=>step_leave_returned hl) h
def dc{ops:Array Oper}(ho:ops[i]?=some o):(b.at a (.inRegion ops (i :: is):: k)).finish v=b.at (a.put o.dst v) (.inRegion ops is :: k):=by rw[Frame.finish_at,ho];rfl
def enter_at{body:Code}(hf:P.funcs[f]?=some fn)(hb:fn.body=some body)(args:Array aj):Frame.enter P f args .normal=({fn:=f,tmps:=#[],todo:= [],defers:= [],mode:=.run,kind:=.normal,roundOf:=none}:ak).at ⟨args++Array.replicate (fn.ntmps-args.size) undef, []⟩ [.code body]:=by simp[Frame.enter,Frame.at,hf,hb]
def To.reach(h:To P Q fr c w)(hn:∀fr c w,Q fr c w->iF fr c):Reach P Q fr c w:=by obtain⟨f2,c2,w2,h2,n,hn2⟩:=h [cV P];exact⟨n,f2,c2,w2,hn2,h2,hn _ _ _ h2⟩
end
end
section
open Go Go.Conc
def uo(ops:Array Oper)(n:Nat)(need:Nat->List Nat):Bool:=
 (List.range ops.size).all fun i=>match ops[i]? with
   |some o=>((need i).all fun x=>decide (x<i)&& o.after.any fun e=>Region.binds .any e &&(e.on == x ||(need e.on).contains x))&&(o.after.all fun e=>!Region.binds .any e || decide (e.on<i))&&(decide (i<n)||(List.range n).all fun j=>(need i).contains j)
   |none=>false
section
variable {P:aB}{Q:ak->List ak->af->Prop}{b:ak}{k:List Item}{c:List ak}{ops:Array Oper}{n:Nat}{need:Nat->List Nat}{listed:Array Bool}
def mh(h:uo ops n need=true)(hi:ops[i]?=some o):
 (∀x∈need i,x<i/\∃e∈o.after,Region.binds .any e=true/\(e.on=x\/x∈need e.on))/\(∀e∈o.after,Region.binds .any e=true->e.on<i)/\(n<=i->∀j,j<n->j∈need i):=by
 unfold uo at h;rw[List.all_eq_true]at h;have:=h i (List.mem_range.2 (zbg.1 hi).1);rw[hi]at this;simp only[Bool.and_eq_true,List.all_eq_true,Bool.or_eq_true,decide_eq_true_eq,List.mem_range,List.contains_iff_mem,Array.any_eq_true',Array.all_eq_true',beq_iff_eq,Bool.not_eq_true']at this;obtain⟨⟨h1,h2⟩,h3⟩:=this;refine⟨fun x hx=>?_,fun e he hb=>?_,fun hn j hj=>?_⟩
 ·obtain⟨g1,e,g2,g3,g4⟩:=h1 x hx;exact⟨g1,e,g2,g3,g4⟩
 ·rcases h2 e he with g|g
  ·rw[g]at hb;cases hb
  ·exact g
 ·rcases h3 with g|g
  ·omega
  ·exact g j hj
def D9(h:uo ops n need=true):∀(m i:Nat),i<=m->i<ops.size->listed.getD i true=false->Region.ready .any ops listed≠ []
 | 0,i,hm,hi,hl=>fun e=>by
   obtain rfl:i=0:=by omega
   have ho:ops[0]?=some ops[0]:=Array.getElem?_eq_getElem hi;have:0∈Region.ready .any ops listed:=mem_ready.2 ⟨hl,_,ho,fun x hx hb=>by have:=(mh h ho).2.1 x hx hb;omega⟩;rw[e]at this;cases this
 |m+1,i,hm,hi,hl=>fun e=>by
  have ho:ops[i]?=some ops[i]:=Array.getElem?_eq_getElem hi;by_cases hall:∀x∈ops[i].after,Region.binds .any x=true->listed.getD x.on false=true
  ·have:i∈Region.ready .any ops listed:=mem_ready.2 ⟨hl,_,ho,hall⟩;rw[e]at this;cases this
  ·have:∃x∈ops[i].after,Region.binds .any x=true/\listed.getD x.on false≠true:=by apply Classical.byContradiction;intro hno;exact hall fun x hx hb=>Classical.byContradiction fun hl'=>hno ⟨x,hx,hb,hl'⟩
   obtain⟨x,hx,hb,hl'⟩:=this;have hlt:=(mh h ho).2.1 x hx hb;refine D9 h m x.on (by omega) (by omega) ?_ e;rcases zbt x.on listed.size with h'|h'
   ·simp[h']at hl'⊢;exact hl'
   ·have:i<listed.size:=by apply Classical.byContradiction;intro hge;simp[Array.getElem?_eq_none (Nat.le_of_not_lt hge)]at hl
    omega
def Ss{f t:Nat}(h:Region.ready .any ops listed≠ []):∃i t',i∈Region.ready .any ops listed/\Region.linearise.go .any ops (f+1) t listed []=i :: Region.linearise.go .any ops f t' (listed.setIfInBounds i true) []:=by
 have hl:t %(Region.ready .any ops listed).length< (Region.ready .any ops listed).length:=Nat.mod_lt _ (by cases hr:Region.ready .any ops listed with|nil=>exact absurd hr h|cons=>simp);have hi:=List.getElem?_eq_getElem hl;refine⟨_,t /(Region.ready .any ops listed).length,List.getElem_mem hl,?_⟩;simp only[Region.linearise.go];change (match (Region.ready .any ops listed)[t %(Region.ready .any ops listed).length]? with
  |some i=>Region.linearise.go .any ops f (t /(Region.ready .any ops listed).length) (listed.setIfInBounds i true) [i]
  |none=> [].reverse)=_
 rw[hi];simp only;rw[linearise_go_acc];rfl
def upTo(z n:Nat):Array Bool:=Array.ofFn (n:=z) fun i=>decide (i.1<n)
def To.drawn{id:Nat}(need:Nat->List Nat)(hck:uo ops n need=true)(hm:P.follows .mixedOrders=true)(d:Nat->Nat)(v:Nat->aj){a0:Act}{w:af}(hd:∀i j,i<n->j<n->d i=d j->i=j)(hz:∀i,i<n->d i<a0.tmps.size)(hn:n<=ops.size)
 (hop:∀i,i<n->∀(a:Act) (is:List Nat),(∀j∈need i,a.tmps[d j]?=some (v j))->(∀t,(∀j,j<n->d j≠t)->a.tmps[t]?=a0.tmps[t]?)->To P Q (b.at (a.put (some (d i)) (v i)) (.inRegion ops is :: k)) c w.drew->To P Q (b.at a (.inRegion ops (i :: is):: k)) c w.drew)
 (hend:∀(a:Act) (t:Nat),(∀j,j<n->a.tmps[d j]?=some (v j))->(∀t,(∀j,j<n->d j≠t)->a.tmps[t]?=a0.tmps[t]?)->a.defers=a0.defers->a.tmps.size=a0.tmps.size->To P Q (b.at a (.inRegion ops (Region.linearise.go .any ops (ops.size-n) t (upTo ops.size n) []):: k)) c w.drew):
 To P Q (b.at a0 (.code (.region id ops true):: k)) c w:=by
 have key:∀(us:List Nat) (m:Nat),us.length=m->∀(listed:Array Bool) (a:Act) (t:Nat),us.Nodup->(∀i∈us,i<n)->listed.size=ops.size->(∀i,i<ops.size->(listed.getD i true=false↔i∈us\/n<=i))->(∀i,listed.getD i false=true->∀x∈need i,listed.getD x false=true)->
  (∀j,j<n->j ∉ us->a.tmps[d j]?=some (v j))->(∀t,(∀j,j<n->d j≠t)->a.tmps[t]?=a0.tmps[t]?)->a.defers=a0.defers->a.tmps.size=a0.tmps.size->
  To P Q (b.at a (.inRegion ops (Region.linearise.go .any ops (m+(ops.size-n)) t listed []):: k)) c w.drew:=by
  intro us m;induction m generalizing us with
  |zero=>
   intro hl listed a t _ _ hs hu _ h1 h2 h3 h4;obtain rfl:us= []:=List.length_eq_zero_iff.1 hl;have e:listed=upTo ops.size n:=by
    apply Array.ext_getElem?;intro i;rcases zbt i ops.size with hi|hi
    ·have:=hu i hi;simp only[List.not_mem_nil,false_or]at this;rw[Array.getElem?_eq_getElem (by omega)];unfold upTo;rw[Array.getElem?_eq_getElem (by simpa using hi),Array.getElem_ofFn];simp only[Array.getD_eq_getD_getElem?,Array.getElem?_eq_getElem (show i<listed.size by omega),Option.getD_some]at this;congr 1;cases hb:listed[i]with
     |false=>have:=this.1 hb;simp;omega
     |true=>have:¬n<=i:=fun hh=>by rw[this.2 hh]at hb;cases hb
            simp;omega
    ·rw[Array.getElem?_eq_none (by omega),Array.getElem?_eq_none (by simpa[upTo]using hi)]
   rw[Nat.zero_add,e];exact hend a t (fun j hj=>h1 j hj (by simp)) h2 h3 h4
  |succ m ih=>
   intro hl listed a t hnd Sf hs hu qY h1 h2 h3 h4;obtain⟨j0,hj0⟩:∃j,j∈us:=by
    cases us with
    |nil=>simp at hl
    |cons x _=>exact⟨x,by simp⟩
   have aeB:=Sf j0 hj0;have Wr:listed.getD j0 true=false:=(hu j0 (by omega)).2 (.inl hj0);obtain⟨i,t',hi,hgo⟩:=Ss (ops:=ops) (listed:=listed) (f:=m+(ops.size-n)) (t:=t) (D9 hck j0 j0 (zbf _) (by omega) Wr);obtain⟨hil,o,ho,hall⟩:=mem_ready.1 hi;have hiz:i<ops.size:=(zbg.1 ho).1;have hlt:∀{x:Nat},listed.getD x false=true->listed.getD x true=true:=fun{x} hx=>by
    rcases zbt x listed.size with h'|h'
    ·simp[h']at hx⊢;exact hx
    ·simp[Array.getElem?_eq_none h']at hx
   have Wu:∀x∈need i,listed.getD x false=true:=fun x hx=>by
    obtain⟨_,e,he,hb,hx'⟩:=(mh hck ho).1 x hx;rcases hx' with rfl|hx'
    ·exact hall e he hb
    ·exact qY _ (hall e he hb) x hx'
   have hin:i<n:=by apply Classical.byContradiction;intro hge;have:=Wu j0 ((mh hck ho).2.2 (by omega) j0 aeB);rw[hlt this]at Wr;cases Wr
   have hiu:i∈us:=by
    rcases(hu i hiz).1 hil with h|h
    ·exact h
    ·omega
   rw[show m+1+(ops.size-n)=m+(ops.size-n)+1 by omega,hgo];have hnu:∀x∈need i,x<n/\x ∉ us:=fun x hx=>by have hx1:=(mh hck ho).1 x hx;refine⟨by omega,fun St=>?_⟩;have:=(hu x (by omega)).2 (.inl St);rw[hlt (Wu x hx)]at this;cases this
   refine hop i hin a _ (fun j hj=>h1 j (hnu j hj).1 (hnu j hj).2) h2 ?_;have hmem:∀x,x∈us.erase i↔x∈us/\x≠i:=fun x=>by rw[List.Nodup.mem_erase_iff hnd];exact And.comm
   refine ih (us.erase i) (by rw[List.length_erase_of_mem hiu,hl];rfl) (listed.setIfInBounds i true) (a.put (some (d i)) (v i)) t' (hnd.erase i) (fun x hx=>Sf x ((hmem x).1 hx).1) (by simpa using hs) (fun x hx=>?_) (fun x hx y hy=>?_) (fun j hj hju=>?_) (fun t ht=>?_) (by simpa[Act.put]using h3) (by simpa[Act.put]using h4)
   ·by_cases e:i=x
    ·subst e;have e1:(listed.setIfInBounds i true).getD i true=true:=by simp[hs,hiz]
     rw[e1];exact⟨fun h=>(by cases h),fun h=>h.elim (fun h=>absurd rfl ((hmem i).1 h).2) fun h=>(by omega)⟩
    ·have e1:(listed.setIfInBounds i true).getD x true=listed.getD x true:=by simp[e]
     rw[e1,hu x hx,hmem];exact⟨fun h=>h.imp (fun g=>⟨g,fun e'=>e e'.symm⟩) fun g=>g,fun h=>h.imp (fun g=>g.1) fun g=>g⟩
   ·have ZN:∀z,listed.getD z false=true->(listed.setIfInBounds i true).getD z false=true:=fun z hz'=>by
     by_cases e:i=z
     ·subst e;simp[hs,hiz]
     ·simpa[Array.getElem?_setIfInBounds,e]using hz'
    by_cases e:i=x
    ·subst e;exact ZN y (Wu y hy)
    ·refine ZN y (qY x ?_ y hy);simpa[Array.getElem?_setIfInBounds,e]using hx
   ·by_cases e:j=i
    ·subst e;simp only[Act.put];rw[Array.getElem?_setIfInBounds_self_of_lt (by rw[h4];exact hz j hj)]
    ·simp only[Act.put];rw[zbh (fun e'=>e (hd _ _ hj hin e'.symm))];exact h1 j hj fun aeF=>hju ((hmem j).2 ⟨aeF,e⟩)
   ·simp only[Act.put];rw[zbh (ht i hin)];exact h2 t ht
 have hsc:Region.schedule (P.follows .mixedOrders) ops (w.tape w.drawn (.order b.fn id))=Region.linearise.go .any ops (n+(ops.size-n)) (w.tape w.drawn (.order b.fn id)) (Array.replicate ops.size false) []:=by rw[show n+(ops.size-n)=ops.size by omega];simp only[Region.schedule,hm,Bool.true_or,if_true];rfl
 refine .step (c1:=c) (fun cs=>step_region_draw) ?_;rw[hsc];refine key (List.range n) n (by simp) _ a0 _ List.nodup_range (fun i hi=>List.mem_range.1 hi) (by simp) (fun i hi=>?_) (fun i hi=>?_) (fun j hj hju=>absurd (List.mem_range.2 hj) hju) (fun _ _=>rfl) rfl rfl
 ·simp only[Array.getD_eq_getD_getElem?,Array.getElem?_replicate,hi,if_true,Option.getD_some,List.mem_range,true_iff];omega
 ·exfalso;simp only[Array.getD_eq_getD_getElem?,Array.getElem?_replicate]at hi;split at hi<;>cases hi
def Gd{f t:Nat}(h:Region.ready .any ops listed= [i]):Region.linearise.go .any ops (f+1) t listed []=i :: Region.linearise.go .any ops f t (listed.setIfInBounds i true) []:=by
 simp only[Region.linearise.go];change (match (Region.ready .any ops listed)[t %(Region.ready .any ops listed).length]? with
  |some i=>Region.linearise.go .any ops f (t /(Region.ready .any ops listed).length) (listed.setIfInBounds i true) [i]
  |none=> [].reverse)=_
 rw[h];simp only[List.length_singleton,Nat.mod_one,Nat.div_one,List.getElem?_cons_zero];rw[linearise_go_acc];rfl
end
end
end Go.Proofs.YteoahlieielcdaaGreat
