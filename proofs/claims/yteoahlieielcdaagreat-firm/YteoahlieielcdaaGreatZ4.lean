import Derived.Test.YteoahlieielcdaaGreatBase
import Derived.Conc.LoneCalls
import Derived.Test.YteoahlieielcdaaGreatT1
set_option linter.all false
set_option maxHeartbeats 2000000
set_option maxRecDepth 100000
namespace Go.Proofs.YteoahlieielcdaaGreat
abbrev za9:=@Nat.le_refl
abbrev zba:=@Array.getElem?_eq_some_iff
abbrev zbb:=@Array.getElem?_setIfInBounds_ne
abbrev zbc:=@List.mem_cons_of_mem
abbrev zbd:=@Option.bind_eq_some_iff
abbrev zbe:=@Array.all_eq_true_iff_forall_mem
abbrev zbf:=@Array.foldl_toList
abbrev zbg:=@Array.getD_eq_getD_getElem?
abbrev zbh:=@Array.mem_toList_iff
abbrev zbi:=@List.append_cancel_right
abbrev zbj:=@List.contains_iff_mem
abbrev zbk:=@List.mem_cons
abbrev zbl:=@List.mem_cons_self
abbrev zbm:=@Nat.eq_zero_or_pos
abbrev zbn:=@Option.map_eq_some_iff
variable{P:Program}{Q:Frame->List Frame->World->Prop}{ρ:Operand->Value}{o:Oper}{b sy:Bool}{v x y:Value}{at_ k a:Addr}{v1 w w' w1 v2:World}{l:List Addr}{h:Halt}{r i n id d:Nat}{es es' xN:Array Event}{c:Call}{f:FuncId}{m:Mark}{s:Sem Next}{is:List Nat}{fr' fr gC cl:Frame}{e:Array Value->Sem Value}{fn:Func}{g g1:Goroutine}{cs c' c1:List Frame}{δ:Nat->Nat}{pos:String}{t:Trace}{gs:Array Goroutine}
section
open Go
theorem j4(op:BinOp)(k:IntKind)(x y:Int):NM (Op.intArith op k x y):=by unfold Op.intArith;(repeat' (first|(with_reducible first|exact NM.pure' _|exact aB ..)|dsimp only|split|intro _))
theorem sM(op:BinOp)(k:IntKind)(x y:Int):NM (Op.intBits op k x y):=by unfold Op.intBits;(repeat' (first|(with_reducible first|exact NM.pure' _|exact aB ..)|dsimp only|split|intro _))
end
section
open Go
def qE:Op->Bool
 |.move _|.assign _|.pick _ _ _|.alloc _|.box _ _|.build _ _|.buildSlice _ _ _|.load _ _|.store _ _ _|.nilCheck _|.binOp _ _ _ _ _|.unOp _ _ _|.makeInterface _ _
 |.makeFunc _ _ _|.makeMap _ _|.makeSlice _ _ _|.slice _ _ _ _ _|.fieldAddr _ _ _|.field _ _ _|.indexAddr _ _ _|.index _ _ _|.lookup _ _ _ _|.mapUpdate _ _ _ _|.range _ _|.next _ _|.entry _|.extract _ _|.panic _=>true
 |.convert s d _=>!(s == d)
 |_=>false
def Dv:Builtin->Bool
 |.len|.append|.copy|.delete|.max|.unsafeString=>true
 |_=>false
inductive gG{α:Type}(Q:α->Prop):Sem α->Prop
 |pure {a:α}:Q a->gG Q (.pure a)
 |load {m:Mode} {a:Addr} {k:Value->Sem α}:(∀v,gG Q (k v))->gG Q (.load m a k)
 |store {m:Mode} {a:Addr} {v:Value} {k:Sem α}:gG Q k->gG Q (.store m a v k)
 |new {o:Obj} {k:Nat->Sem α}:(∀r,gG Q (k r))->gG Q (.new o k)
 |shape {r:Nat} {k:Option (TypeId×Nat)->Sem α}:(∀s,gG Q (k s))->gG Q (.shape r k)
 |freeze {a:Addr} {n:Nat} {k:Sem α}:gG Q k->gG Q (.freeze a n k)
 |frozen {a:Addr} {k:Bool->Sem α}:(∀b,gG Q (k b))->gG Q (.frozen a k)
 |getObj {r:Nat} {k:Obj->Sem α}:(∀o,gG Q (k o))->gG Q (.getObj r k)
 |setObj {r:Nat} {o:Obj} {k:Sem α}:gG Q k->gG Q (.setObj r o k)
 |choose {q:Question} {k:Nat->Sem α}:(∀n,gG Q (k n))->gG Q (.choose q k)
 |sys {c:Sys} {k:SysRet->Sem α}:(∀r,gG Q (k r))->gG Q (.sys c k)
 |program {k:Program->Sem α}:(∀p,gG Q (k p))->gG Q (.program k)
 |mark {m:Mark} {k:Sem α}:gG Q k->gG Q (.mark m k)
 |halt {h:Halt}:gG Q (.halt h)
theorem iW{α β:Type}{Q:β->Prop}(s:Sem α){f:α->Sem β}(hf:∀a,gG Q (f a)):gG Q (s >>= f):=by
 show gG Q (s.bind f);induction s with
 |pure a=>exact hf a
 |load _ _ _ ih=>exact .load fun v=>ih v
 |store _ _ _ _ ih=>exact .store ih
 |new _ _ ih=>exact .new fun r=>ih r
 |shape _ _ ih=>exact .shape fun r=>ih r
 |freeze _ _ _ ih=>exact .freeze ih
 |frozen _ _ ih=>exact .frozen fun r=>ih r
 |getObj _ _ ih=>exact .getObj fun r=>ih r
 |setObj _ _ _ ih=>exact .setObj ih
 |choose _ _ ih=>exact .choose fun r=>ih r
 |sys _ _ ih=>exact .sys fun r=>ih r
 |program _ ih=>exact .program fun r=>ih r
 |mark _ _ ih=>exact .mark ih
 |halt _=>exact .halt
theorem gG.out{α:Type}{Q:α->Prop}{s:Sem α}(h:gG Q s):∀{w:World} {es:Array Event} {a:α} {w':World} {es':Array Event},s.runT P w es=(.ok a w',es')->Q a:=by
 induction h with
 |pure h=>intro w es a w' es' hr;cases hr;exact h
 |load _ ih=>intro w es a w' es' hr;simp only[Sem.runT]at hr;split at hr;exact ih _ hr;split at hr;exact ih _ hr;cases hr
 |store _ ih=>
  intro w es a w' es' hr;rename_i m b v k _;cases v<;>simp only[Sem.runT]at hr<;>first|(cases hr;done)|(split at hr<;>split at hr<;>first|(cases hr;done)|exact ih hr)
 |new _ ih=>intro w es a w' es' hr;exact ih _ hr
 |shape _ ih=>intro w es a w' es' hr;exact ih _ hr
 |freeze _ ih=>intro w es a w' es' hr;exact ih hr
 |frozen _ ih=>intro w es a w' es' hr;exact ih _ hr
 |getObj _ ih=>intro w es a w' es' hr;simp only[Sem.runT]at hr;split at hr;cases hr;exact ih _ hr;cases hr
 |setObj _ ih=>intro w es a w' es' hr;simp only[Sem.runT]at hr;split at hr;cases hr;exact ih hr;cases hr
 |choose _ ih=>intro w es a w' es' hr;simp only[Sem.runT]at hr;split at hr<;>exact ih _ hr
 |sys _ ih=>intro w es a w' es' hr;exact ih _ hr
 |program _ ih=>intro w es a w' es' hr;exact ih _ hr
 |mark _ ih=>intro w es a w' es' hr;exact ih hr
 |halt=>intro w es a w' es' hr;cases hr
def xT(n:Next):Prop:=(∃v,n=.value v)\/n=.skip
theorem z6(s:Sem Value):gG xT (do pure (Next.value (<-s)):Sem Next):=iW s fun _=>.pure (.inl ⟨_,rfl⟩)
theorem M4(s:Sem Unit):gG xT (do s;pure Next.skip:Sem Next):=iW s fun _=>.pure (.inr rfl)
theorem zW{Q:Next->Prop}:gG Q (runtimePanic RuntimeError.nilDeref:Sem Next):=by unfold runtimePanic;exact iW _ fun _=>.halt
theorem MN(h:qE o.op=true):gG xT (execOp ρ o):=by
 unfold execOp;cases ho:o.op<;>rw[ho]at h<;>first|(cases h;done)|skip
 case nilCheck x=>
  dsimp only;repeat' (first|exact zW|exact .pure (.inl ⟨_,rfl⟩)|exact .halt|with_reducible refine iW _ (fun _=>?_)|split)
 all_goals first
  |exact .pure (.inl ⟨_,rfl⟩)
  |exact z6 _|exact M4 _
  |exact iW _ fun _=>.pure (.inl ⟨_,rfl⟩)
theorem DN{b:Builtin}(h:Dv b=true)(a:Array TypeId)(t:TypeId)(c:Array Bool)(x:Array Value):gG xT (builtin b a t c x):=by unfold builtin;cases b<;>first|(cases h;done)|exact z6 _
end
section
open Go
theorem fS{α β:Type}(s:Sem α)(f:α->Sem β):∀(w:World) (es:Array Event),(s >>= f).runT P w es=match s.runT P w es with|(.ok a w',es')=>(f a).runT P w' es'|(.halt h w',es')=>(.halt h w',es'):=by
 show∀(w:World) (es:Array Event),(s.bind f).runT P w es=_;induction s with
 |pure a=>intro w es;rfl
 |load m a k ih=>
  intro w es;simp only[Sem.bind,Sem.runT];cases w.cell? a with
  |some v=>exact ih _ _ _
  |none=>
   simp only;cases w.farLoad P a (m == .atomic)with
   |ok x=>exact ih _ _ _
   |error h=>rfl
 |store m a v k ih=>
  intro w es;cases v<;>simp only[Sem.bind,Sem.runT]<;>first
   |rfl
   |(cases w.cell? a with
     |some x=>
      simp only
      split
      ·rfl
      ·exact ih _ _
     |none=>
      simp only
      split
      ·exact ih _ _
      ·rfl)
 |new o k ih=>intro w es;exact ih _ _ _
 |shape r k ih=>intro w es;exact ih _ _ _
 |freeze a n k ih=>intro w es;exact ih _ _
 |frozen a k ih=>intro w es;exact ih _ _ _
 |getObj r k ih=>
  intro w es;simp only[Sem.bind,Sem.runT];split
  ·rfl
  ·exact ih _ _ _
  ·rfl
 |setObj r o k ih=>
  intro w es;simp only[Sem.bind,Sem.runT];split
  ·rfl
  ·exact ih _ _
  ·rfl
 |choose q k ih=>
  intro w es;simp only[Sem.bind,Sem.runT];split
  ·exact ih _ _ _
  ·exact ih _ _ _
 |sys c k ih=>intro w es;exact ih _ _ _
 |program k ih=>intro w es;exact ih _ _ _
 |mark m k ih=>intro w es;exact ih _ _
 |halt h=>intro w es;rfl
end
section
open Go
structure eJ(Sb:Nat->Prop)(v w:World):Prop where
 size:v.heap.size=w.heap.size
 same:∀i,¬Sb i->v.heap[i]?=w.heap[i]?
 gu:∀i,Sb i->∃c t,c.size≠0/\v.heap[i]?=some (.pending c t)/\w.heap[i]?=some (.cells c t (0,0))
 os:v.os=w.os
 out:v.output=w.output
def Nj(Sb:Nat->Prop)(e:Event):Prop:=∀x a,(MemAct.ofEvent e).touch?=some x->x.loc=.cell a->x.kind=.plain->¬Sb a.block
def EvQ(Sb:Nat->Prop)(qt:Prop)(e:Event):Prop:=Nj Sb e/\(qt->e.loc≠.mark .disable/\e.loc≠.mark .enable)
structure af(P:Program)(Sb:Nat->Prop)(qt:Prop){α:Type}(s:Sem α):Prop where
 Ar:∀{v w:World} {x:α} {v':World},eJ Sb v w->s.run P v=.ok x v'->Km v w (v'.drawn-v.drawn)->∀es,∃w' es',s.runT P w es=(.ok x w',es')/\eJ Sb v' w'/\w'.tape=w.tape/\w'.drawn=w.drawn+(v'.drawn-v.drawn)/\∀e∈es',e∈es\/EvQ Sb qt e
structure oP(P:Program){α:Type}(s:Sem α):Prop where
 no:∀(v:World) (x:α) (v':World),s.run P v≠.ok x v'
section
variable {P:Program}{Sb:Nat->Prop}{qt:Prop}{α β:Type}
theorem run_bind{s:Sem α}{f:α->Sem β}(w:World):(s >>= f).run P w=match s.run P w with|.ok a w'=>(f a).run P w'|.halt h w'=>.halt h w':=by
 have h:=congrArg Prod.fst (fS (P:=P) s f w #[]);rw[Sem.runT_fst]at h;rw[h,<-Sem.runT_fst P s w #[]];cases hs:s.runT P w #[]with
 |mk r es=>
  cases r with
  |ok a w'=>simp only;rw[Sem.runT_fst]
  |halt h w'=>rfl
theorem zk{α:Type}:∀(k:Ask α) (v:World),(v.ask k).2.tape=v.tape/\v.drawn<=(v.ask k).2.drawn
 |.done a,v=>⟨rfl,za9 _⟩
 |.ask what range k,v=>by
  unfold World.ask;dsimp only;split
  ·exact zk (k 0) v
  ·obtain⟨h1,h2⟩:=zk (k ((Question.extern what range).cut (v.tape v.drawn (Question.extern what range)))) {v with drawn:=v.drawn+1};exact⟨h1,by simp only at h2;omega⟩
theorem PS(c:Sys)(v:World):(v.sys c).2.tape=v.tape/\v.drawn<=(v.sys c).2.drawn:=by
 unfold World.sys;have h:=zk (Kernel.perform c v.os) v;split
 ·exact⟨rfl,za9 _⟩
 ·rename_i h1;rw[h1]at h;exact h
theorem jk(v:World)(a:Addr)(n:Nat):(v.freeze a n).tape=v.tape/\(v.freeze a n).drawn=v.drawn:=by unfold World.freeze;split<;>exact⟨rfl,rfl⟩
theorem zl{v:World}{u:TypeId}(h:v.viewStore P at_ u k x b=.ok (v1,l)):v1.tape=v.tape/\v1.drawn=v.drawn:=by
 unfold World.viewStore at h;simp only[bind,Except.bind,pure,Except.pure]at h;repeat' (split at h)
 all_goals first|(cases h;done)|(cases h;exact⟨rfl,rfl⟩)
theorem mX(s:Sem α):∀{v:World} {x:α} {v':World},s.run P v=.ok x v'->v'.tape=v.tape/\v.drawn<=v'.drawn:=by
 induction s with
 |pure _=>intro v x v' hr;cases hr;exact⟨rfl,za9 _⟩
 |load _ _ _ ih=>intro v x v' hr;simp only[Sem.run]at hr;split at hr;exact ih _ hr;split at hr;exact ih _ hr;cases hr
 |store m a y k ih=>
  have key:∀{v:World} {x:α} {v':World} {y:Value},((match v.cell? a with
   |some _=>if v.frozen? a then .halt (.unsupported (.unsafePointer "a write to bytes that a string shares")) v else k.run P (v.setCell a y)
   |none=>match v.farStore P a y (m == .atomic)with
    |.ok (w,_)=>k.run P w
    |.error h=>.halt h v):Result α)=.ok x v'->v'.tape=v.tape/\v.drawn<=v'.drawn:=by
   intro v x v' y hr
   split at hr
   ·split at hr
    ·cases hr
    ·have:=ih hr;exact this
   ·split at hr
    ·rename_i w1 l hf
     unfold World.farStore at hf
     split at hf
     ·split at hf
      ·rename_i r hv
       cases hf
       obtain⟨e1,e2⟩:=zl hv
       obtain⟨h1,h2⟩:=ih hr
       exact⟨h1.trans e1,by omega⟩
      ·cases hf
     ·cases hf
    ·cases hr
  intro v x v' hr;cases y<;>simp only[Sem.run]at hr<;>first|(cases hr;done)|exact key hr
 |new _ _ ih=>intro v x v' hr;have:=ih _ hr;exact this
 |shape _ _ ih=>intro v x v' hr;exact ih _ hr
 |freeze a n _ ih=>intro v x v' hr;have:=ih hr;rw[(jk v a n).1,(jk v a n).2]at this;exact this
 |frozen _ _ ih=>intro v x v' hr;exact ih _ hr
 |getObj _ _ ih=>intro v x v' hr;simp only[Sem.run]at hr;split at hr;cases hr;exact ih _ hr;cases hr
 |setObj _ _ _ ih=>intro v x v' hr;simp only[Sem.run]at hr;split at hr;cases hr;(have:=ih hr;exact this);cases hr
 |choose _ _ ih=>
  intro v x v' hr;simp only[Sem.run]at hr;split at hr
  ·exact ih _ hr
  ·obtain⟨h1,h2⟩:=ih _ hr;exact⟨h1,by simp only at h2;omega⟩
 |sys c _ ih=>
  intro v x v' hr;obtain⟨h1,h2⟩:=ih _ hr;obtain⟨h3,h4⟩:=PS c v;exact⟨h1.trans h3,by omega⟩
 |program _ ih=>intro v x v' hr;exact ih _ hr
 |mark _ _ ih=>intro v x v' hr;exact ih hr
 |halt _=>intro v x v' hr;cases hr
theorem af.bind{s:Sem α}{f:α->Sem β}(h:af P Sb qt s)(hf:∀a,af P Sb qt (f a)):af P Sb qt (s >>= f):=by
 constructor;intro v w x v' hs hr hg es;rw[run_bind]at hr;cases h1:s.run P v with
 |halt _ _=>rw[h1]at hr;cases hr
 |ok a v1=>
  rw[h1]at hr;simp only at hr;obtain⟨t1,d1⟩:=mX s h1;obtain⟨t2,d2⟩:=mX (f a) hr;obtain⟨w1,xN,q1,q2,q3,q4,q5⟩:=h.Ar hs h1 (fun k hk q=>hg k (by omega) q) es;obtain⟨w2,xK,r1,r2,r3,r4,r5⟩:=(hf a).Ar q2 hr (fun k hk q=>by have:=hg (k+(v1.drawn-v.drawn)) (by omega) q;rw[t1,q3,q4,show v1.drawn+k=v.drawn+(k+(v1.drawn-v.drawn)) by omega,show w.drawn+(v1.drawn-v.drawn)+k=w.drawn+(k+(v1.drawn-v.drawn)) by omega];exact this) xN
  refine⟨w2,xK,by rw[fS,q1];exact r1,r2,r3.trans q3,by omega,fun e he=>?_⟩;rcases r5 e he with h3|h3
  ·exact q5 e h3
  ·exact .inr h3
theorem af.qy{s:Sem α}(h:oP P s):af P Sb qt s:=⟨fun _ hr _=>absurd hr (h.no _ _ _)⟩
theorem qz:oP P (.halt h:Sem α):=⟨fun _ _ _ h=>by cases h⟩
theorem dz(s:String):oP P (stuck s:Sem α):=qz
theorem gW(u:Unsupported):oP P (unsupported u:Sem α):=qz
theorem om(v:Value):oP P (goPanic v:Sem α):=qz
theorem kT{s:Sem α}{f:α->Sem β}(h:∀a,oP P (f a)):oP P (s >>= f):=⟨fun v x v' hr=>by
 rw[run_bind]at hr;split at hr
 ·exact(h _).no _ _ _ hr
 ·cases hr⟩
theorem gX{s:Sem α}{f:α->Sem β}(h:oP P s):oP P (s >>= f):=⟨fun v x v' hr=>by
 rw[run_bind]at hr;split at hr
 ·rename_i h1;exact h.no _ _ _ h1
 ·cases hr⟩
theorem af.pure{a:α}:af P Sb qt (.pure a:Sem α):=⟨fun hs hr _ es=>by
 cases hr;exact⟨_,es,rfl,hs,rfl,by omega,fun e he=>.inl he⟩⟩
theorem af.pure'(a:α):af P Sb qt (Pure.pure a:Sem α):=af.pure
theorem af.halt{h:Halt}:af P Sb qt (.halt h:Sem α):=.qy qz
theorem zm{wr:Bool}(h:¬Sb a.block):EvQ Sb qt ⟨.cell a,wr,sy⟩:=⟨fun x b hx hl _=>by have e:MemAct.ofEvent ⟨.cell a,wr,sy⟩=.access ⟨.cell a,wr,sy⟩:=rfl;rw[e]at hx;simp only[MemAct.touch?,Option.some.injEq]at hx;subst hx;cases hl;exact h,fun _=>⟨by simp,by simp⟩⟩
theorem Di{wr:Bool}:EvQ Sb qt ⟨.obj r,wr,sy⟩:=⟨fun x b hx hl _=>by
 cases wr<;>cases sy<;>simp[MemAct.ofEvent,MemAct.touch?]at hx<;>(subst hx;cases hl),fun _=>⟨by simp,by simp⟩⟩
theorem me{e0:Event}(h0:EvQ Sb qt e0)(h:∀e∈es',e∈es.push e0\/EvQ Sb qt e):∀e∈es',e∈es\/EvQ Sb qt e:=fun e he=>(h e he).elim (fun h1=>(Array.mem_push.1 h1).elim .inl fun e1=>.inr (e1▸h0)) .inr
theorem PT{wr:Bool}(h0:∀a∈l,¬Sb a.block)(h:∀e∈es',e∈es++l.toArray.map (fun a=>(⟨.cell a,wr,sy⟩:Event))\/EvQ Sb qt e):∀e∈es',e∈es\/EvQ Sb qt e:=fun e he=>(h e he).elim (fun h1=>(Array.mem_append.1 h1).elim .inl fun e1=>by obtain⟨a,ha,rfl⟩:=Array.mem_map.1 e1;exact .inr (zm (h0 a (by simpa using ha)))) .inr
end
section
variable {Sb:Nat->Prop}{v w:World}
theorem eJ.lt(h:eJ Sb v w)(hi:Sb i):i<w.heap.size:=by obtain⟨c,t,_,_,h2⟩:=h.gu i hi;exact(zba.1 h2).1
theorem eJ.cell(h:eJ Sb v w){a:Addr}{x:Value}(hc:v.cell? a=some x):¬Sb a.block/\w.cell? a=some x:=by
 have hn:¬Sb a.block:=fun hs=>by obtain⟨c,t,_,h1,_⟩:=h.gu a.block hs;simp[World.cell?,h1]at hc
 refine⟨hn,?_⟩;rw[<-hc];simp[World.cell?,h.same _ hn]
theorem eJ.Uz(h:eJ Sb v w)(hn:¬Sb a.block):w.cell? a=v.cell? a:=by simp[World.cell?,h.same _ hn]
theorem eJ.modify(h:eJ Sb v w)(r:Nat)(g:Obj->Obj)(hr:¬Sb r):eJ Sb {v with heap:=v.heap.modify r g} {w with heap:=w.heap.modify r g}:=by
 refine⟨by simp[h.size],fun i hi=>?_,fun i hi=>?_,h.os,h.out⟩
 ·simp only[Array.getElem?_modify];rw[h.same i hi]
 ·obtain⟨c,t,h0,h1,h2⟩:=h.gu i hi;have e:r≠i:=fun e=>hr (e▸hi);simp only[Array.getElem?_modify];exact⟨c,t,h0,by simp[e,h1],by simp[e,h2]⟩
theorem eJ.set(h:eJ Sb v w)(a:Addr)(x:Value)(ha:¬Sb a.block):eJ Sb (v.setCell a x) (w.setCell a x):=by unfold World.setCell;exact h.modify a.block _ ha
theorem eJ.frz(h:eJ Sb v w)(a:Addr)(n:Nat)(ha:¬Sb a.block):eJ Sb (v.freeze a n) (w.freeze a n):=by
 unfold World.freeze;split
 ·exact h
 ·exact h.modify a.block _ ha
theorem eJ.new(h:eJ Sb v w)(o:Obj):eJ Sb {v with heap:=v.heap.push o} {w with heap:=w.heap.push o}:=by
 refine⟨by simp[h.size],fun i hi=>?_,fun i hi=>?_,h.os,h.out⟩
 ·simp only[Array.getElem?_push,h.size];rw[h.same i hi]
 ·have hl:=h.lt hi;obtain⟨c,t,h0,h1,h2⟩:=h.gu i hi;refine⟨c,t,h0,?_,?_⟩
  ·simp only[Array.getElem?_push,h.size];rw[if_neg (by omega)];exact h1
  ·simp only[Array.getElem?_push];rw[if_neg (by omega)];exact h2
theorem eJ.obj(h:eJ Sb v w)(r:Nat)(o:Obj)(hr:¬Sb r):eJ Sb {v with heap:=v.heap.setIfInBounds r o} {w with heap:=w.heap.setIfInBounds r o}:=by
 refine⟨by simp[h.size],fun i hi=>?_,fun i hi=>?_,h.os,h.out⟩
 ·simp only[Array.getElem?_setIfInBounds,h.size];rw[h.same i hi]
 ·have:r≠i:=fun e=>hr (e▸hi);obtain⟨c,t,h0,h1,h2⟩:=h.gu i hi;exact⟨c,t,h0,by rw[zbb this];exact h1,by rw[zbb this];exact h2⟩
theorem eJ.draw(h:eJ Sb v w)(n m:Nat):eJ Sb {v with drawn:=n} {w with drawn:=m}:=⟨h.size,h.same,h.gu,h.os,h.out⟩
end
end
section
open Go
section
variable {P:Program}{Sb:Nat->Prop}{qt:Prop}{α β:Type}
theorem Ko{v:World}(he:v.heap[at_.block]?=w.heap[at_.block]?)(u:TypeId)(k:Addr)(b:Bool):v.seen P at_ u k b=w.seen P at_ u k b:=by unfold World.seen;rw[he]
theorem seen_cells{v:World}{u:TypeId}{c:Array Value}{e:TypeId}{f:Nat×Nat}{first:Nat}{like:Value}{cells:List (Nat×Nat×List UInt8)}(h:v.seen P at_ u k b=.ok (c,e,f,first,like,cells)):v.heap[at_.block]?=some (.cells c e f):=by
 unfold World.seen at h;simp only[bind,Except.bind,pure,Except.pure]at h;repeat' (split at h)
 all_goals first|(cases h;done)|skip
 all_goals(first|(cases h;assumption)|skip)
theorem Dl{v:World}(hs:eJ Sb v w){u:TypeId}(h:v.viewLoad P at_ u k b=.ok (x,l)):w.viewLoad P at_ u k b=.ok (x,l)/\∀a∈l,¬Sb a.block:=by
 have h0:=h;unfold World.viewLoad at h;cases hq:v.seen P at_ u k b with
 |error e=>rw[hq]at h;cases h
 |ok y=>
  obtain⟨c,e,f,first,like,cells⟩:=y;have hn:¬Sb at_.block:=fun hb=>by obtain⟨c',t',_,h1,_⟩:=hs.gu _ hb;rw[seen_cells hq]at h1;cases h1
  refine⟨?_,?_⟩
  ·rw[<-h0];unfold World.viewLoad;rw[Ko (hs.same _ hn)]
  ·rw[hq]at h;simp only[bind,Except.bind,pure,Except.pure]at h;split at h
   ·cases h;intro a ha;obtain⟨z,_,rfl⟩:=List.mem_map.1 ha;exact hn
   ·cases h
theorem AZ{v:World}(hs:eJ Sb v w){u:TypeId}(h:v.viewStore P at_ u k x b=.ok (v1,l)):(∃o,v1={v with heap:=v.heap.setIfInBounds at_.block o}/\w.viewStore P at_ u k x b=.ok ({w with heap:=w.heap.setIfInBounds at_.block o},l))/\¬Sb at_.block/\∀a∈l,¬Sb a.block:=by
 unfold World.viewStore at h⊢;by_cases ht:Go.tight P P.depth u=true
 ·simp only[ht,Bool.not_true,Bool.false_eq_true,if_false,bind,Except.bind,pure,Except.pure]at h⊢;cases hq:v.seen P at_ u k b with
  |error e=>rw[hq]at h;cases h
  |ok y=>
   obtain⟨c,e,f,first,like,cells⟩:=y;have hn:¬Sb at_.block:=fun hb=>by obtain⟨c',t',_,h1,_⟩:=hs.gu _ hb;rw[seen_cells hq]at h1;cases h1
   rw[hq]at h;rw[<-Ko (hs.same _ hn),hq];simp only at h⊢;cases hb:x.bytes? with
   |none=>rw[hb]at h;cases h
   |some bytes=>
    rw[hb]at h;simp only at h⊢;split at h
    ·cases h
    ·rename_i hlen;rw[if_neg hlen];split at h
     ·cases h
     ·rename_i c2 hc2;cases h;refine⟨⟨.cells c2 e f,rfl,?_⟩,hn,fun a ha=>?_⟩
      ·rfl
      ·obtain⟨z,_,rfl⟩:=List.mem_map.1 ha;exact hn
 ·simp only[ht,Bool.not_false,if_true,bind,Except.bind]at h;cases h
theorem FI{m:Mode}{k:Value->Sem α}(hk:∀x,af P Sb qt (k x)):af P Sb qt (.load m a k):=by
 constructor;intro v w x v' hs hr hg es;simp only[Sem.run]at hr;simp only[Sem.runT];cases hc:v.cell? a with
 |some y=>
  rw[hc]at hr;obtain⟨hn,hw⟩:=hs.cell hc;rw[hw];obtain⟨w',es',h1,h2,h3,h4,h5⟩:=(hk y).Ar hs hr hg (es.push ⟨.cell a,false,m == .atomic⟩);exact⟨w',es',h1,h2,h3,h4,me (zm hn) h5⟩
 |none=>
  rw[hc]at hr;simp only at hr;have hn:¬Sb a.block:=fun hb=>by obtain⟨c,t,_,h1,_⟩:=hs.gu _ hb;simp[World.farLoad,h1]at hr
  rw[hs.Uz hn,hc];simp only;unfold World.farLoad at hr⊢;rw[<-hs.same _ hn];cases ho:v.heap[a.block]? with
  |none=>simp[ho]at hr
  |some ob=>
   cases ob with
   |view at_ u=>
    simp only[ho]at hr⊢;cases hv:v.viewLoad P at_ u a (m == .atomic)with
    |error e=>rw[hv]at hr;simp at hr
    |ok y=>
     obtain⟨x1,l⟩:=y;rw[hv]at hr;simp only at hr;obtain⟨hw,hl⟩:=Dl hs hv;rw[hw];simp only;obtain⟨w',es',h1,h2,h3,h4,h5⟩:=(hk x1).Ar hs hr hg (es++l.toArray.map (⟨.cell ·,false,m == .atomic⟩));exact⟨w',es',h1,h2,h3,h4,PT hl h5⟩
   |_=>simp[ho]at hr
theorem Dm{m:Mode}{k:Sem α}(hk:af P Sb qt k):af P Sb qt (.store m a y k):=by
 have key:∀{v w:World} {x:α} {v':World} {y:Value},eJ Sb v w->((match v.cell? a with
  |some _=>if v.frozen? a then .halt (.unsupported (.unsafePointer "a write to bytes that a string shares")) v else k.run P (v.setCell a y)
  |none=>match v.farStore P a y (m == .atomic)with
   |.ok (w,_)=>k.run P w
   |.error h=>.halt h v):Result α)=.ok x v'->Km v w (v'.drawn-v.drawn)->∀es,∃w' es',((match w.cell? a with
   |some _=>if w.frozen? a then(.halt (.unsupported (.unsafePointer "a write to bytes that a string shares")) w,es)else k.runT P (w.setCell a y) (es.push ⟨.cell a,true,m == .atomic⟩)
   |none=>match w.farStore P a y (m == .atomic)with
    |.ok (w,touched)=>k.runT P w (es++touched.toArray.map (⟨.cell ·,true,m == .atomic⟩))
    |.error h=>(.halt h w,es)):Result α×Array Event)=(.ok x w',es')/\eJ Sb v' w'/\w'.tape=w.tape/\w'.drawn=w.drawn+(v'.drawn-v.drawn)/\∀e∈es',e∈es\/EvQ Sb qt e:=by
  intro v w x v' y hs hr hg es
  cases hc:v.cell? a with
  |some z=>
   rw[hc]at hr;simp only at hr;obtain⟨hn,hw⟩:=hs.cell hc;rw[hw];have hf:w.frozen? a=v.frozen? a:=by simp[World.frozen?,hs.same _ hn]
   simp only[hf];split at hr
   ·cases hr
   ·rename_i hfz;rw[if_neg hfz];obtain⟨w',es',h1,h2,h3,h4,h5⟩:=hk.Ar (hs.set a y hn) hr hg (es.push ⟨.cell a,true,m == .atomic⟩);exact⟨w',es',h1,h2,h3,h4,me (zm hn) h5⟩
  |none=>
   rw[hc]at hr;simp only at hr;have hn:¬Sb a.block:=fun hb=>by obtain⟨c,t,_,h1,_⟩:=hs.gu _ hb;simp[World.farStore,h1]at hr
   rw[hs.Uz hn,hc];simp only;unfold World.farStore at hr⊢;rw[<-hs.same _ hn];cases ho:v.heap[a.block]? with
   |none=>simp[ho]at hr
   |some ob=>
    cases ob with
    |view at_ u=>
     simp only[ho]at hr⊢;cases hv:v.viewStore P at_ u a y (m == .atomic)with
     |error e=>rw[hv]at hr;simp at hr
     |ok z=>
      obtain⟨v1,l⟩:=z;rw[hv]at hr;simp only at hr;obtain⟨⟨o,rfl,hw⟩,hnb,hl⟩:=AZ hs hv;rw[hw];simp only;obtain⟨w',es',h1,h2,h3,h4,h5⟩:=hk.Ar (hs.obj _ o hnb) hr hg (es++l.toArray.map (⟨.cell ·,true,m == .atomic⟩));exact⟨w',es',h1,h2,h3,h4,PT hl h5⟩
    |_=>simp[ho]at hr
 constructor;intro v w x v' hs hr hg es;cases y<;>simp only[Sem.run]at hr<;>simp only[Sem.runT]<;>first|(cases hr;done)|exact key hs hr hg es
theorem zu{o:Obj}{k:Nat->Sem α}(hk:∀r,¬Sb r->af P Sb qt (k r)):af P Sb qt (.new o k):=by
 constructor;intro v w x v' hs hr hg es;simp only[Sem.run]at hr;simp only[Sem.runT];have hn:¬Sb v.heap.size:=fun hb=>by have:=hs.lt hb;rw[<-hs.size]at this;omega
 rw[<-hs.size];exact(hk _ hn).Ar (hs.new o) hr hg es
theorem Dn{k:Option (TypeId×Nat)->Sem α}(hk:∀s,¬Sb r->af P Sb qt (k s))(hp:oP P (k none)):af P Sb qt (.shape r k):=by
 constructor;intro v w x v' hs hr hg es;simp only[Sem.run]at hr;simp only[Sem.runT];have hn:¬Sb r:=fun hb=>by obtain⟨c,t,_,h1,_⟩:=hs.gu _ hb;simp only[World.shape?,h1]at hr;exact hp.no _ _ _ hr
 have e:w.shape? r=v.shape? r:=by simp only[World.shape?,hs.same _ hn]
 rw[e];exact(hk _ hn).Ar hs hr hg es
theorem A0{k:Sem α}(ha:¬Sb a.block)(hk:af P Sb qt k):af P Sb qt (.freeze a n k):=by constructor;intro v w x v' hs hr hg es;simp only[Sem.run]at hr;simp only[Sem.runT];obtain⟨w',es',h1,h2,h3,h4,h5⟩:=hk.Ar (hs.frz a n ha) hr (by unfold Km at hg⊢;rw[(jk v _ _).2,(jk w _ _).2,(jk v _ _).1,(jk w _ _).1];exact hg) es;rw[(jk w _ _).1]at h3;rw[(jk w _ _).2,(jk v _ _).2]at h4;exact⟨w',es',h1,h2,h3,h4,h5⟩
theorem eJ.frozen{v w:World}(hs:eJ Sb v w)(a:Addr):w.frozen? a=v.frozen? a:=by
 by_cases hb:Sb a.block
 ·obtain⟨c,t,_,h1,h2⟩:=hs.gu _ hb;simp[World.frozen?,h1,h2]
 ·simp only[World.frozen?,hs.same _ hb]
theorem A7{k:Bool->Sem α}(hk:∀b,af P Sb qt (k b)):af P Sb qt (.frozen a k):=by constructor;intro v w x v' hs hr hg es;simp only[Sem.run]at hr;simp only[Sem.runT];rw[hs.frozen];exact(hk _).Ar hs hr hg es
theorem A8{k:Obj->Sem α}(hk:∀o,¬Sb r->af P Sb qt (k o))(hp:∀c t,oP P (k (.pending c t))):af P Sb qt (.getObj r k):=by
 constructor;intro v w x v' hs hr hg es;simp only[Sem.run]at hr;simp only[Sem.runT];have hn:¬Sb r:=fun hb=>by obtain⟨c,t,_,h1,_⟩:=hs.gu _ hb;simp only[h1]at hr;exact(hp _ _).no _ _ _ hr
 rw[<-hs.same r hn];split at hr
 ·cases hr
 ·obtain⟨w',es',h1,h2,h3,h4,h5⟩:=(hk _ hn).Ar hs hr hg _;exact⟨w',es',h1,h2,h3,h4,me Di h5⟩
 ·cases hr
theorem A9{o:Obj}{k:Sem α}(hr:¬Sb r)(hk:af P Sb qt k):af P Sb qt (.setObj r o k):=by
 constructor;intro v w x v' hs hrun hg es;simp only[Sem.run]at hrun;simp only[Sem.runT];rw[<-hs.same r hr];split at hrun
 ·cases hrun
 ·obtain⟨w',es',h1,h2,h3,h4,h5⟩:=hk.Ar (hs.obj r o hr) hrun hg _;exact⟨w',es',h1,h2,h3,h4,me Di h5⟩
 ·cases hrun
theorem Ba{q:Question}{k:Nat->Sem α}(hk:∀n,af P Sb qt (k n)):af P Sb qt (.choose q k):=by
 constructor;intro v w x v' hs hr hg es;simp only[Sem.run]at hr;simp only[Sem.runT];split at hr
 ·rename_i hq;rw[if_pos hq];exact(hk _).Ar hs hr hg es
 ·rename_i hq;rw[if_neg hq];obtain⟨_,hd⟩:=mX _ hr;simp only at hd;have e0:w.tape w.drawn q=v.tape v.drawn q:=(hg 0 (by omega) q).symm;rw[e0];obtain⟨w',es',h1,h2,h3,h4,h5⟩:=(hk _).Ar (hs.draw (v.drawn+1) (w.drawn+1)) hr (fun j hj q'=>by have:=hg (j+1) (by simp only at hj;omega) q';simp only;rw[show v.drawn+1+j=v.drawn+(j+1) by omega,show w.drawn+1+j=w.drawn+(j+1) by omega];exact this) es
  exact⟨w',es',h1,h2,h3,by simp only at h4;omega,h5⟩
theorem zv{k:Program->Sem α}(hk:af P Sb qt (k P)):af P Sb qt (.program k):=by constructor;intro v w x v' hs hr hg es;exact hk.Ar hs hr hg es
theorem FJ(m:Mark)(wr sy:Bool)(h:qt->m≠.disable/\m≠.enable):EvQ Sb qt ⟨.mark m,wr,sy⟩:=⟨fun x a hx _ hk=>by
 have e:MemAct.ofEvent ⟨.mark m,wr,sy⟩=.mark m:=by cases wr<;>cases sy<;>rfl
 rw[e]at hx;cases m<;>simp[MemAct.touch?]at hx<;>(subst hx;cases hk),fun hq=>by simpa using h hq⟩
theorem wA{k:Sem α}(hm:qt->m≠.disable/\m≠.enable)(hk:af P Sb qt k):af P Sb qt (.mark m k):=by constructor;intro v w x v' hs hr hg es;obtain⟨w',es',h1,h2,h3,h4,h5⟩:=hk.Ar hs hr hg (es.push ⟨.mark m,false,true⟩);exact⟨w',es',h1,h2,h3,h4,me (FJ _ _ _ hm) h5⟩
end
end
section
open Go
variable {P:Program}{Sb:Nat->Prop}{qt:Prop}
theorem xO(a:Addr)(m:Mode):af P Sb qt (load a m):=FI fun _=>.pure
theorem lF(a:Addr)(v:Value)(m:Mode):af P Sb qt (store a v m):=Dm .pure
theorem kU(o:Obj):af P Sb qt (newObj o):=zu fun _ _=>.pure
theorem jK{β:Type}{k:Option (TypeId×Nat)->Sem β}(hk:∀s,¬Sb r->af P Sb qt (k s))(hp:oP P (k none)):af P Sb qt (shape r >>= k):=Dn hk hp
theorem BZ(h:¬Sb a.block):af P Sb qt (freeze a n):=A0 h .pure
theorem qB(a:Addr):af P Sb qt (frozen a):=A7 fun _=>.pure
theorem gZ{β:Type}{k:Obj->Sem β}(hk:∀o,¬Sb r->af P Sb qt (k o))(hp:∀c t,oP P (k (.pending c t))):af P Sb qt (getObj r >>= k):=A8 hk hp
theorem vh{o:Obj}(h:¬Sb r):af P Sb qt (setObj r o):=A9 h .pure
theorem cX(q:Question):af P Sb qt (choose q):=Ba fun _=>.pure
theorem dB:af P Sb qt program:=zv .pure
theorem aG{α:Type}(s:String):af P Sb qt (stuck s:Sem α):=.halt
theorem eG{α:Type}(u:Unsupported):af P Sb qt (unsupported u:Sem α):=.halt
theorem PY{α:Type}(v:Value):af P Sb qt (goPanic v:Sem α):=.halt
theorem zw(n:Nat):af P Sb qt (askRoom n):=by unfold askRoom;split;exact wA (fun _=>by simp) .pure;exact .pure
theorem cM{α β:Type}{a:α}{f:α->Sem β}(h:af P Sb qt (f a)):af P Sb qt (Pure.pure a >>= f):=h
theorem cg{α β:Type}{s:String}{f:α->Sem β}:af P Sb qt ((stuck s:Sem α)>>= f):=.qy (gX (dz _))
theorem bT{α β:Type}{u:Unsupported}{f:α->Sem β}:af P Sb qt ((unsupported u:Sem α)>>= f):=.qy (gX (gW _))
theorem zx{α:Type}{s s':Sem α}(h:oP P s'):oP P (if false=true then s else s'):=by rw[if_neg (by simp)];exact h
def tS(P:Program)(a:Addr)(u:TypeId)(n:Nat)(w:World):Bool:=match w.shape? a.block with|some (e,cells)=>liesAt P P.depth e (cells / P.cellsOf e) a.off u n|none=>false
theorem mY(a:Addr)(u:TypeId)(n:Nat)(w:World)(es:Array Event):(variablesAt a u n).runT P w es=(.ok (tS P a u n w) w,es):=by
 unfold tS;have e:(variablesAt a u n).runT P w es=(match w.shape? a.block with|some (e,cells)=>(Pure.pure (liesAt P P.depth e (cells / P.cellsOf e) a.off u n):Sem Bool)|none=>Pure.pure false).runT P w es:=rfl;rw[e];cases w.shape? a.block with
 |none=>rfl
 |some x=>rfl
theorem qU{β:Type}{u:TypeId}{f:Bool->Sem β}(h:∀q,¬Sb a.block->af P Sb qt (f q))(hp:oP P (f false)):af P Sb qt (variablesAt a u n >>= f):=by
 constructor;intro v w x v' hs hr hg es;rw[run_bind,<-Sem.runT_fst P _ v #[],mY]at hr;simp only at hr;have hn:¬Sb a.block:=fun hb=>by
  obtain⟨c,t,_,h3,_⟩:=hs.gu _ hb;have e:tS P a u n v=false:=by simp[tS,World.shape?,h3]
  rw[e]at hr;exact hp.no _ _ _ hr
 have hb:tS P a u n w=tS P a u n v:=by simp only[tS,World.shape?,hs.same _ hn]
 obtain⟨w',es',g1,g2,g3,g4,g5⟩:=(h _ hn).Ar hs hr hg es;exact⟨w',es',by rw[fS,mY,hb];exact g1,g2,g3,g4,g5⟩
theorem qV{β:Type}{u:TypeId}{s:Sem β}(h:af P Sb qt s):af P Sb qt (variablesAt a u n >>= fun _=>s):=by constructor;intro v w x v' hs hr hg es;rw[run_bind,<-Sem.runT_fst P _ v #[],mY]at hr;obtain⟨w',es',g1,g2,g3,g4,g5⟩:=h.Ar hs hr hg es;exact⟨w',es',by rw[fS,mY];exact g1,g2,g3,g4,g5⟩
theorem hU{β:Type}{t:TypeId}{c:Array Value}{f:Addr->Sem β}(h:∀a,¬Sb a.block->af P Sb qt (f a)):af P Sb qt (newRow t c >>= f):=zu (o:=.cells c t) fun r hr=>h ⟨r,0,none⟩ hr
theorem vi{β:Type}{a b c:Nat}{x:Option Addr}{f:Bool->Sem β}(h:∀q,oP P (f q)):af P Sb qt (Builtin.mayShare a b c x v >>= f):=.qy (kT h)
theorem tT{α:Type}{s:Sem α}(h0:¬Sb r->af P Sb qt s)(h1:Sb r->∀(v w:World) (x:α) (v':World),eJ Sb v w->s.run P v=.ok x v'->v'=v/\∀es,s.runT P w es=(.ok x w,es)):af P Sb qt s:=by
 by_cases hb:Sb r
 ·constructor;intro v w x v' hs hr hg es;obtain⟨rfl,h2⟩:=h1 hb v w x v' hs hr;exact⟨w,es,h2 es,hs,rfl,by omega,fun e he=>.inl he⟩
 ·exact h0 hb
theorem bn{α:Type}{c:Prop}[Decidable c]{s s':Sem α}(h:af P Sb qt s)(h':af P Sb qt s'):af P Sb qt (if c then s else s'):=by split;exact h;exact h'
theorem PZ{α β:Type}{s:Sem α}{f:α->β}(h:af P Sb qt s):af P Sb qt (f<$> s):=af.bind (f:=fun a=>Pure.pure (f a)) h fun _=>.pure
theorem FK{α β:Type}{f:β->α->Sem β}(h:∀b a,af P Sb qt (f b a)):∀{l:List α} {b:β},af P Sb qt (l.foldlM f b)
 | [],b=>.pure
 |a :: l,b=>by rw[List.foldlM_cons];exact af.bind (h _ _) fun _=>FK h
theorem Dp{α β:Type}{f:α->β->Sem (ForInStep β)}(h:∀a b,af P Sb qt (f a b)):∀{l:List α} {b:β},af P Sb qt (forIn l b f)
 | [],b=>.pure
 |a :: l,b=>by
  rw[List.forIn_cons];refine af.bind (h _ _) fun s=>?_;cases s with
  |done=>exact .pure
  |yield=>exact Dp h
theorem Kq{α β:Type}{f:α->β->Sem (ForInStep β)}(h:∀a b,af P Sb qt (f a b)){l:Array α}{b:β}:af P Sb qt (forIn l b f):=by rw[<-Array.forIn_toList];exact Dp h
theorem aco{β:Type}{f:Nat->β->Sem (ForInStep β)}(h:∀a b,af P Sb qt (f a b)){l:Std.Legacy.Range}{b:β}:af P Sb qt (forIn l b f):=by rw[Std.Legacy.Range.forIn_eq_forIn_range'];exact Dp h
theorem FL{α β:Type}{f:α->Sem β}(h:∀a,af P Sb qt (f a)):∀{l:List α},af P Sb qt (l.mapM f)
 | []=>.pure
 |a :: l=>by rw[List.mapM_cons];exact af.bind (h _) fun _=>af.bind (FL h) fun _=>.pure
theorem FM{α β:Type}{f:α->Sem β}(h:∀a,af P Sb qt (f a)){l:Array α}:af P Sb qt (l.mapM f):=by rw[Array.mapM_eq_mapM_toList];exact PZ (FL h)
theorem bX(h:¬Sb r):af P Sb qt (shape r):=by
 constructor;intro v w x v' hs hr hg es;have e:w.shape? r=v.shape? r:=by simp only[World.shape?,hs.same _ h]
 cases hr;exact⟨w,es,by show (Result.ok (w.shape? r) w,es)=_;rw[e],hs,rfl,by omega,fun e he=>.inl he⟩
theorem iV(h:¬Sb r):af P Sb qt (getObj r):=by
 constructor;intro v w x v' hs hr hg es;simp only[getObj,Sem.run]at hr;simp only[getObj,Sem.runT];rw[<-hs.same r h];split at hr
 ·cases hr
 ·cases hr;exact⟨w,_,rfl,hs,rfl,by omega,me Di fun e he=>.inl he⟩
 ·cases hr
theorem mZ(hb:Sb r){v:World}(hs:eJ Sb v w):∃c t,c.size≠0/\v.heap[r]?=some (.pending c t)/\v.shape? r=none/\w.shape? r=some (t,c.size):=by obtain⟨c,t,h0,h1,h2⟩:=hs.gu r hb;exact⟨c,t,h0,h1,by simp[World.shape?,h1],by simp[World.shape?,h2]⟩
theorem qC(r:Nat):af P Sb qt (viewAt r):=by
 refine tT (r:=r) (fun hn=>?_) (fun hb v w x v' hs hr=>?_)
 ·unfold viewAt;(repeat' (first|(with_reducible first|exact af.pure' _|exact bX (by assumption)|exact iV (by assumption)|refine af.bind (bX (by assumption)) (fun _=>?_)|refine af.bind (iV (by assumption)) (fun _=>?_)|refine af.bind ?_ (fun _=>?_)|refine bn ?_ ?_)|dsimp only|split|intro _))
 ·obtain⟨c,t,h0,h1,h2,h3⟩:=mZ hb hs;have e:(viewAt r).run P v=.ok none v:=by show Sem.run P (Sem.shape r fun s=>_) v=_;simp only[Sem.run,h2];show Sem.run P (Sem.getObj r fun o=>_) v=_;simp only[Sem.run,h1];rfl
  rw[e]at hr;cases hr;refine⟨rfl,fun es=>?_⟩;show Sem.runT P (Sem.shape r fun s=>_) w es=_;simp only[Sem.runT,h3];rfl
theorem wB(r:Nat):af P Sb qt (numberAt r):=by
 refine tT (r:=r) (fun hn=>?_) (fun hb v w x v' hs hr=>?_)
 ·unfold numberAt;(repeat' (first|(with_reducible first|exact af.pure' _|exact bX (by assumption)|exact iV (by assumption)|refine af.bind (bX (by assumption)) (fun _=>?_)|refine af.bind (iV (by assumption)) (fun _=>?_)|refine af.bind ?_ (fun _=>?_)|refine bn ?_ ?_)|dsimp only|split|intro _))
 ·obtain⟨c,t,h0,h1,h2,h3⟩:=mZ hb hs;have e:(numberAt r).run P v=.ok none v:=by show Sem.run P (Sem.shape r fun s=>_) v=_;simp only[Sem.run,h2];show Sem.run P (Sem.getObj r fun o=>_) v=_;simp only[Sem.run,h1];rfl
  rw[e]at hr;cases hr;refine⟨rfl,fun es=>?_⟩;show Sem.runT P (Sem.shape r fun s=>_) w es=_;simp only[Sem.runT,h3];rfl
theorem zy(r:Nat):af P Sb qt (cellsIn r):=by
 refine tT (r:=r) (fun hn=>?_) (fun hb v w x v' hs hr=>?_)
 ·unfold cellsIn;(repeat' (first|(with_reducible first|exact af.pure' _|exact bX (by assumption)|exact iV (by assumption)|refine af.bind (bX (by assumption)) (fun _=>?_)|refine af.bind (iV (by assumption)) (fun _=>?_)|refine af.bind ?_ (fun _=>?_))|dsimp only|split|intro _))
 ·obtain⟨c,t,h0,h1,h2,h3⟩:=mZ hb hs;have e:(cellsIn r).run P v=.ok (some c.size) v:=by show Sem.run P (Sem.shape r fun s=>_) v=_;simp only[Sem.run,h2];show Sem.run P (Sem.getObj r fun o=>_) v=_;simp only[Sem.run,h1];rfl
  rw[e]at hr;cases hr;refine⟨rfl,fun es=>?_⟩;show Sem.runT P (Sem.shape r fun s=>_) w es=_;simp only[Sem.runT,h3];rfl
theorem vk(h:¬Sb a.block):af P Sb qt (markStringish a):=by unfold markStringish;(repeat' (first|(with_reducible first|exact af.pure' _|exact BZ (by assumption)|exact bX (by assumption)|refine af.bind (bX (by assumption)) (fun _=>?_)|refine af.bind ?_ (fun _=>?_))|dsimp only|split|intro _))
theorem pZ(hb:Sb r){v:World}(hs:eJ Sb v w)(a:Addr)(ha:a.block=r):v.frozen? a=false/\w.frozen? a=false:=by subst ha;obtain⟨c,t,h0,h1,h2⟩:=hs.gu _ hb;simp[World.frozen?,h1,h2]
theorem tU(a:Addr):af P Sb qt (stringish a):=by
 refine tT (r:=a.block) (fun hn=>?_) (fun hb v w x v' hs hr=>?_)
 ·unfold stringish;(repeat' (first|(with_reducible first|exact af.pure' _|exact qB ..|exact bX (by assumption)|refine af.bind (bX (by assumption)) (fun _=>?_)|refine af.bind ?_ (fun _=>?_)|refine bn ?_ ?_)|dsimp only|split|intro _))
 ·obtain⟨c,t,h0,h1,h2,h3⟩:=mZ hb hs;have e:(stringish a).run P v=.ok false v:=by show Sem.run P (Sem.frozen a fun s=>_) v=_;simp only[Sem.run,(pZ hb hs a rfl).1];show Sem.run P (Sem.shape a.block fun o=>_) v=_;simp only[Sem.run,h2];rfl
  rw[e]at hr;cases hr;refine⟨rfl,fun es=>?_⟩;show Sem.runT P (Sem.frozen a fun s=>_) w es=_;simp only[Sem.runT,(pZ hb hs a rfl).2];show Sem.runT P (Sem.shape a.block fun o=>_) w es=_;simp only[Sem.runT,h3];show Sem.runT P (Sem.frozen _ fun s=>_) w es=_;simp only[Sem.runT,(pZ hb hs ⟨a.block,c.size,none⟩ rfl).2]
theorem Kr(r:Nat):af P Sb qt (do pure ((<-shape r) matches some (_,0)):Sem Bool):=by
 refine tT (r:=r) (fun hn=>?_) (fun hb v w x v' hs hr=>?_)
 ·(repeat' (first|(with_reducible first|exact af.pure' _|exact bX (by assumption)|refine af.bind (bX (by assumption)) (fun _=>?_)|refine af.bind ?_ (fun _=>?_))|dsimp only|split|intro _))
 ·obtain⟨c,t,h0,h1,h2,h3⟩:=mZ hb hs;have e:(do pure ((<-shape r) matches some (_,0)):Sem Bool).run P v=.ok false v:=by show Sem.run P (Sem.shape r fun s=>_) v=_;simp only[Sem.run,h2];rfl
  rw[e]at hr;cases hr;refine⟨rfl,fun es=>?_⟩;show Sem.runT P (Sem.shape r fun s=>_) w es=_;simp only[Sem.runT,h3];cases hc:c.size with
  |zero=>exact absurd hc h0
  |succ n=>rfl
theorem FN(a b:Addr):af P Sb qt (mayBeOne a b):=by unfold mayBeOne;dsimp only;refine af.bind (tU a) fun sa=>af.bind (tU b) fun sb=>?_;exact af.bind (Kr a.block) fun _=>af.bind (Kr b.block) fun _=>af.pure' _
theorem iA{u:TypeId}(h:¬Sb a.block):af P Sb qt (variablesAt a u n):=by unfold variablesAt;(repeat' (first|(with_reducible first|exact af.pure' _|exact dB ..|exact bX (by assumption)|refine af.bind (bX (by assumption)) (fun _=>?_)|refine af.bind ?_ (fun _=>?_))|dsimp only|split|intro _))
theorem p8(a:Addr)(b:Bool):af P Sb qt (asNumber a b):=by unfold asNumber;(repeat' (first|(with_reducible first|exact af.pure' _|exact kU ..|refine af.bind ?_ (fun _=>?_))|dsimp only|split|intro _))
theorem oK(a:Addr):af P Sb qt (behindNumber a):=by unfold behindNumber;(repeat' (first|(with_reducible first|exact af.pure' _|exact wB ..|refine af.bind ?_ (fun _=>?_))|dsimp only|split|intro _))
theorem B1(a:Addr):af P Sb qt (noView a):=by unfold noView;(repeat' (first|(with_reducible first|exact af.pure' _|exact eG ..|exact qC ..|refine af.bind ?_ (fun _=>?_)|refine bn ?_ ?_)|dsimp only|split|intro _))
theorem FO(a b:Addr):af P Sb qt (sameAddr a b):=by unfold sameAddr;(repeat' (first|(with_reducible first|exact af.pure' _|exact qB ..|exact cX ..|exact B1 ..|exact FN ..|exact bT|refine af.bind ?_ (fun _=>?_)|refine bn ?_ ?_)|dsimp only|split|intro _))
theorem zz(a b:Option Addr):af P Sb qt (samePointer a b):=by unfold samePointer;(repeat' (first|(with_reducible first|exact af.pure' _|exact FO ..)|dsimp only|split|intro _))
theorem fY(t:TypeId):af P Sb qt (typeInfo t):=by unfold typeInfo;(repeat' (first|(with_reducible first|exact af.pure' _|exact dB ..|exact aG ..|refine af.bind ?_ (fun _=>?_))|dsimp only|split|intro _))
theorem aF(t:TypeId):af P Sb qt (underlying t):=by unfold underlying;(repeat' (first|(with_reducible first|exact af.pure' _|exact dB ..|exact aG ..|refine af.bind ?_ (fun _=>?_))|dsimp only|split|intro _))
theorem WL(t:TypeId):af P Sb qt (typeStr t):=by unfold typeStr;(repeat' (first|(with_reducible first|exact af.pure' _|exact eG ..|exact fY ..|refine af.bind ?_ (fun _=>?_)|refine bn ?_ ?_)|dsimp only|split|intro _))
theorem iB(t:TypeId):af P Sb qt (zeroValue t):=by unfold zeroValue;(repeat' (first|(with_reducible first|exact af.pure' _|exact eG ..|exact fY ..|refine af.bind ?_ (fun _=>?_))|dsimp only|split|intro _))
theorem cY(t:TypeId):af P Sb qt (sizeOf t):=by unfold sizeOf;(repeat' (first|(with_reducible first|exact af.pure' _|exact fY ..|refine af.bind ?_ (fun _=>?_))|dsimp only|split|intro _))
theorem FP(t:TypeId):af P Sb qt (isAgg t):=by unfold isAgg;(repeat' (first|(with_reducible first|exact af.pure' _|exact aF ..|refine af.bind ?_ (fun _=>?_))|dsimp only|split|intro _))
theorem m7(a:Addr):∀(n i:Nat) (acc:Array Value),af P Sb qt (loadCellsFrom a i n acc)
 | 0,i,acc=>af.pure
 |n+1,i,acc=>by unfold loadCellsFrom;exact af.bind (xO ..) fun _=>m7 a n _ _
theorem kL(a:Addr)(n:Nat):af P Sb qt (loadCells a n):=m7 a n 0 #[]
theorem jL(a:Addr):∀(vs:List Value) (i:Nat),af P Sb qt (storeCells a vs i)
 | [],i=>.pure
 |v :: vs,i=>by unfold storeCells;exact af.bind (lF ..) fun _=>jL a vs _
theorem oq(t:TypeId)(a:Addr):af P Sb qt (loadVar t a):=by unfold loadVar;(repeat' (first|(with_reducible first|exact af.pure' _|exact xO ..|exact cY ..|exact FP ..|exact kL ..|refine af.bind ?_ (fun _=>?_)|refine bn ?_ ?_)|dsimp only|split|intro _))
theorem wD(t:TypeId)(a:Addr)(v:Value):af P Sb qt (storeVar t a v):=by unfold storeVar;(repeat' (first|(with_reducible first|exact cY ..|exact jL ..|exact cg|refine af.bind ?_ (fun _=>?_)|refine bn ?_ ?_)|dsimp only|split|intro _))
theorem Mm(t:TypeId)(c:Array Value):af P Sb qt (newRow t c):=by unfold newRow;(repeat' (first|(with_reducible first|exact af.pure' _|exact kU ..|refine af.bind ?_ (fun _=>?_))|dsimp only|split|intro _))
theorem vm(t:TypeId)(v:Value):af P Sb qt (newVar t v):=by unfold newVar;(repeat' (first|with_reducible exact Mm ..|dsimp only|split|intro _))
theorem B2(t:TypeId):af P Sb qt (elemOf t):=by unfold elemOf;(repeat' (first|(with_reducible first|exact af.pure' _|exact aG ..|exact aF ..|refine af.bind ?_ (fun _=>?_))|dsimp only|split|intro _))
theorem Ks(t:TypeId)(cs:Array Value)(n:Nat):af P Sb qt (part t cs n):=by unfold part;(repeat' (first|(with_reducible first|exact af.pure' _|exact aG ..|exact cY ..|exact FP ..|refine af.bind ?_ (fun _=>?_)|refine bn ?_ ?_)|dsimp only|split|intro _))
theorem bN{α:Type}(e:RuntimeError):af P Sb qt (runtimePanic e:Sem α):=by unfold runtimePanic;(repeat' (first|(with_reducible first|exact dB ..|exact PY ..|exact vm ..|exact B2 ..|refine af.bind ?_ (fun _=>?_))|dsimp only|split|intro _))
theorem lG{α:Type}(k:IntKind)(x y:Int)(c:BoundsCode):af P Sb qt (boundsPanic k x y c:Sem α):=by unfold boundsPanic;(repeat' (first|(with_reducible first|exact cX ..|exact bN ..|refine cM ?_|refine af.bind ?_ (fun _=>?_)|refine PZ ?_|refine bn ?_ ?_)|dsimp only|split|intro _))
theorem ot(v:Value):af P Sb qt (asIntOf v):=by unfold asIntOf;(repeat' (first|(with_reducible first|exact af.pure' _|exact aG ..|exact eG ..)|dsimp only|split|intro _))
theorem jY(v:Value):af P Sb qt (asInt v):=by unfold asInt;(repeat' (first|(with_reducible first|exact af.pure' _|exact ot ..|refine af.bind ?_ (fun _=>?_))|dsimp only|split|intro _))
theorem qD(v:Value):af P Sb qt (asBool v):=by unfold asBool;(repeat' (first|(with_reducible first|exact af.pure' _|exact aG ..)|dsimp only|split|intro _))
theorem P0(v:Value):af P Sb qt (asAgg v):=by unfold asAgg;(repeat' (first|(with_reducible first|exact af.pure' _|exact aG ..)|dsimp only|split|intro _))
theorem iC(v:Value):af P Sb qt (asAddr v):=by unfold asAddr;(repeat' (first|(with_reducible first|exact af.pure' _|exact aG ..|exact bN ..)|dsimp only|split|intro _))
theorem vn(a:Addr):af P Sb qt (byteOf a):=by unfold byteOf;(repeat' (first|(with_reducible first|exact af.pure' _|exact dB ..|exact aG ..|exact B1 ..|refine jK (fun _ _=>?_) ?_|exact dz _|refine af.bind ?_ (fun _=>?_)|refine bn ?_ ?_)|dsimp only|split|intro _))
theorem Mo(a:Addr)(b c:Nat):af P Sb qt (partAt a b c):=by unfold partAt;(repeat' (first|(with_reducible first|exact af.pure' _|exact vn ..|refine af.bind ?_ (fun _=>?_))|dsimp only|split|intro _))
theorem Bb(a:Addr)(f:Field):af P Sb qt (fieldPlace a f):=by unfold fieldPlace;(repeat' (first|(with_reducible first|exact af.pure' _|exact cY ..|exact Mo ..|refine af.bind ?_ (fun _=>?_)|refine bn ?_ ?_)|dsimp only|split|intro _))
theorem tV:∀(n:Nat) (a:Addr) (acc:ByteArray),af P Sb qt (loadBytes a acc n)
 | 0,a,acc=>.pure
 |n+1,a,acc=>by have ih:=tV n;unfold loadBytes;(repeat' (first|(with_reducible first|exact af.pure|exact xO ..|exact aG ..|exact ih ..|refine af.bind ?_ (fun _=>?_))|dsimp only|split|intro _))
theorem FQ(t:TypeId)(b:Bool)(v:Value):af P Sb qt (Instr.alloc t b v):=by unfold Instr.alloc;(repeat' (first|(with_reducible first|exact af.pure' _|exact iB ..|exact wD ..|exact vm ..|refine af.bind ?_ (fun _=>?_))|dsimp only|split|intro _))
theorem jZ(v:Value):af P Sb qt (Instr.sureAddr v):=by unfold Instr.sureAddr;(repeat' (first|(with_reducible first|exact af.pure' _|exact aG ..)|dsimp only|split|intro _))
theorem B3(t:TypeId)(v:Value):af P Sb qt (Instr.loadAt t v):=by unfold Instr.loadAt;(repeat' (first|(with_reducible first|exact oq ..|exact jZ ..|refine af.bind ?_ (fun _=>?_))|dsimp only|split|intro _))
theorem zA(t:TypeId)(v x:Value):af P Sb qt (Instr.storeAt t v x):=by unfold Instr.storeAt;(repeat' (first|(with_reducible first|exact wD ..|exact jZ ..|refine af.bind ?_ (fun _=>?_))|dsimp only|split|intro _))
theorem zB(t:TypeId)(v:Value)(n:Nat):af P Sb qt (Instr.fieldAt t v n):=by unfold Instr.fieldAt;(repeat' (first|(with_reducible first|exact af.pure' _|exact aG ..|exact aF ..|exact Bb ..|exact jZ ..|refine af.bind ?_ (fun _=>?_))|dsimp only|split|intro _))
theorem zC(t:TypeId)(v x:Value):af P Sb qt (Instr.indexAt t v x):=by unfold Instr.indexAt;(repeat' (first|(with_reducible first|exact af.pure' _|exact eG ..|exact aF ..|exact cY ..|exact lG ..|exact ot ..|exact jZ ..|refine cM ?_|exact cg|refine af.bind ?_ (fun _=>?_)|refine bn ?_ ?_)|dsimp only|split|intro _))
theorem Bh(x:Value)(y:Nat)(c:BoundsCode):af P Sb qt (Instr.sliceBound x y c):=by unfold Instr.sliceBound;(repeat' (first|(with_reducible first|exact af.pure' _|exact lG ..|exact ot ..|refine af.bind ?_ (fun _=>?_)|refine bn ?_ ?_)|dsimp only|split|intro _))
theorem p9(b:Bool)(l c:Nat)(x y z:Option Value):af P Sb qt (Instr.sliceBounds b l c x y z):=by unfold Instr.sliceBounds;(repeat' (first|(with_reducible first|exact af.pure' _|exact Bh ..|refine cM ?_|exact cg|refine af.bind ?_ (fun _=>?_))|dsimp only|split|intro _))
theorem P1(t:TypeId)(v:Value)(x y z:Option Value):af P Sb qt (Instr.slice t v x y z):=by unfold Instr.slice;(repeat' (first|(with_reducible first|exact af.pure' _|exact aG ..|exact aF ..|exact cY ..|exact iC ..|exact p9 ..|exact cg|refine af.bind ?_ (fun _=>?_)|refine bn ?_ ?_)|dsimp only|split|intro _))
theorem zD(t:TypeId)(v:Value)(x y z:Option Value):af P Sb qt (Instr.sliceAt t v x y z):=by unfold Instr.sliceAt;(repeat' (first|(with_reducible first|exact af.pure' _|exact aF ..|exact cY ..|exact jZ ..|exact p9 ..|exact P1 ..|refine af.bind ?_ (fun _=>?_))|dsimp only|split|intro _))
theorem P2(t:TypeId)(v:Value):af P Sb qt (Instr.box t v):=by unfold Instr.box;(repeat' (first|(with_reducible first|exact af.pure' _|exact vm ..|refine af.bind ?_ (fun _=>?_))|dsimp only|split|intro _))
theorem FR(t:TypeId)(p:Array (Nat×Value)):af P Sb qt (Instr.build t p):=by unfold Instr.build;(repeat' (first|(with_reducible first|exact af.pure' _|exact aG ..|exact aF ..|exact iB ..|exact cY ..|refine af.bind ?_ (fun _=>?_)|refine FM (fun _=>?_))|dsimp only|split|intro _))
theorem rD(t:TypeId)(n:Nat)(p:Array (Nat×Value)):af P Sb qt (Instr.buildSlice t n p):=by unfold Instr.buildSlice;(repeat' (first|(with_reducible first|exact af.pure' _|exact aG ..|exact aF ..|exact iB ..|exact cY ..|refine cM ?_|exact bT|refine hU (fun _ _=>?_)|refine af.bind ?_ (fun _=>?_)|refine bn ?_ ?_)|dsimp only|split|intro _))
theorem m8(t:TypeId)(v:Value):af P Sb qt (Instr.makeInterface t v):=by unfold Instr.makeInterface;(repeat' (first|(with_reducible first|exact af.pure' _|exact aG ..|exact aF ..|refine af.bind ?_ (fun _=>?_))|dsimp only|split|intro _))
theorem FT(f:Fn)(a b:Array Value):af P Sb qt (Instr.makeFunc f a b):=by unfold Instr.makeFunc;(repeat' (first|with_reducible exact af.pure' _|dsimp only|split|intro _))
theorem zE(t:TypeId)(r:Option Value):af P Sb qt (Instr.makeMap t r):=by unfold Instr.makeMap;(repeat' (first|(with_reducible first|exact af.pure' _|exact kU ..|exact aF ..|exact jY ..|exact cg|refine af.bind ?_ (fun _=>?_))|dsimp only|split|intro _))
theorem tX(t:TypeId)(l c:Value):af P Sb qt (Instr.makeSlice t l c):=by unfold Instr.makeSlice;(repeat' (first|(with_reducible first|exact af.pure' _|exact cX ..|exact zw ..|exact aG ..|exact fY ..|exact aF ..|exact iB ..|exact cY ..|exact bN ..|exact jY ..|refine cM ?_|refine hU (fun _ _=>?_)|refine af.bind ?_ (fun _=>?_)|refine bn ?_ ?_)|dsimp only|split|intro _))
theorem FU(t:TypeId)(v:Value)(n:Nat):af P Sb qt (Instr.field t v n):=by unfold Instr.field;(repeat' (first|(with_reducible first|exact aG ..|exact aF ..|exact Ks ..|exact P0 ..|refine af.bind ?_ (fun _=>?_))|dsimp only|split|intro _))
theorem FV(t:TypeId)(v x:Value):af P Sb qt (Instr.index t v x):=by unfold Instr.index;(repeat' (first|(with_reducible first|exact af.pure' _|exact aG ..|exact aF ..|exact cY ..|exact Ks ..|exact lG ..|exact ot ..|refine af.bind ?_ (fun _=>?_)|refine bn ?_ ?_)|dsimp only|split|intro _))
end
section
open Go
variable {P:Program}{Sb:Nat->Prop}{qt:Prop}
theorem zF:∀(d:Nat) (t:TypeId) (x y:Value),af P Sb qt (Op.equalIn d t x y)
 | 0,t,x,y=>af.halt
 |d+1,t,x,y=>by have ih:=zF d;unfold Op.equalIn;(repeat' (first|(with_reducible first|exact af.pure' _|exact af.halt|exact cX ..|exact dB ..|exact aG ..|exact eG ..|exact oK ..|exact FO ..|exact zz ..|exact fY ..|exact aF ..|exact WL ..|exact cY ..|exact Ks ..|exact bN ..|exact vn ..|exact ih ..|exact bT|refine af.bind ?_ (fun _=>?_)|refine Kq (fun _ _=>?_)|refine aco (fun _ _=>?_)|refine bn ?_ ?_)|dsimp only|split|intro _))
theorem P3(t:TypeId)(x y:Value):af P Sb qt (Op.equal t x y):=zF _ t x y
theorem tY:∀(d:Nat) (t:TypeId) (x y:Value),af P Sb qt (Op.eqGuardIn d t x y)
 | 0,t,x,y=>af.halt
 |d+1,t,x,y=>by have ih:=tY d;unfold Op.eqGuardIn;(repeat' (first|(with_reducible first|exact af.pure' _|exact af.halt|exact aF ..|exact cY ..|exact Ks ..|exact ih ..|refine af.bind ?_ (fun _=>?_)|refine Kq (fun _ _=>?_)|refine aco (fun _ _=>?_)|refine bn ?_ ?_)|dsimp only|split|intro _))
theorem mg(b:Bool):∀(d:Nat) (t:TypeId) (x:Value),af P Sb qt (Instr.checkKey b d t x)
 | 0,t,x=>af.halt
 |d+1,t,x=>by have ih:=mg b d;unfold Instr.checkKey;(repeat' (first|(with_reducible first|exact af.pure' _|exact af.halt|exact aG ..|exact fY ..|exact aF ..|exact WL ..|exact cY ..|exact Ks ..|exact bN ..|exact ih ..|refine af.bind ?_ (fun _=>?_)|refine Kq (fun _ _=>?_)|refine aco (fun _ _=>?_)|refine bn ?_ ?_)|dsimp only|split|intro _))
theorem rE(t:TypeId)(x:Value):∀(l:List MapEntry) (i:Nat),af P Sb qt (Instr.findAsking t x l i)
 | [],i=>af.pure
 |e :: l,i=>by have ih:=rE t x l;unfold Instr.findAsking;(repeat' (first|(with_reducible first|exact af.pure' _|exact af.pure|exact P3 ..|exact ih ..|refine af.bind ?_ (fun _=>?_)|refine bn ?_ ?_)|dsimp only|split|intro _))
theorem sG(t:TypeId)(x:Value)(l:List MapEntry):af P Sb qt (Instr.findKey t x l):=by unfold Instr.findKey;(repeat' (first|(with_reducible first|exact af.pure' _|exact aF ..|exact rE ..|refine af.bind ?_ (fun _=>?_))|dsimp only|split|intro _))
theorem B4(t:TypeId)(x y:Value)(b:Bool):af P Sb qt (Instr.lookup t x y b):=by unfold Instr.lookup;(repeat' (first|(with_reducible first|exact af.pure' _|exact aG ..|exact aF ..|exact iB ..|exact mg ..|exact sG ..|refine gZ (fun _ _=>?_) (fun _ _=>?_)|exact dz _|exact gX (dz _)|refine cM ?_|exact cg|refine af.bind ?_ (fun _=>?_))|dsimp only|split|intro _))
theorem xe(x y:Value):af P Sb qt (Instr.keyThatStays x y):=by unfold Instr.keyThatStays;(repeat' (first|(with_reducible first|exact af.pure' _|exact cX ..|refine af.bind ?_ (fun _=>?_)|refine bn ?_ ?_)|dsimp only|split|intro _))
theorem tZ(t:TypeId)(x y z:Value):af P Sb qt (Instr.mapUpdate t x y z):=by unfold Instr.mapUpdate;(repeat' (first|(with_reducible first|exact aG ..|exact aF ..|exact bN ..|exact mg ..|exact sG ..|exact xe ..|exact vh (by assumption)|refine gZ (fun _ _=>?_) (fun _ _=>?_)|exact dz _|refine af.bind ?_ (fun _=>?_))|dsimp only|split|intro _))
theorem FW(t:TypeId)(x:Value):af P Sb qt (Instr.range t x):=by unfold Instr.range;(repeat' (first|(with_reducible first|exact af.pure' _|exact kU ..|exact aF ..|refine gZ (fun _ _=>?_) (fun _ _=>?_)|exact dz _|exact gX (dz _)|refine cM ?_|exact cg|refine af.bind ?_ (fun _=>?_))|dsimp only|split|intro _))
theorem Kt(x:Value)(b:Bool)(t:TypeId):af P Sb qt (Instr.next x b t):=by unfold Instr.next;(repeat' (first|(with_reducible first|exact af.pure' _|exact cX ..|exact aG ..|exact vh (by assumption)|refine gZ (fun _ _=>?_) (fun _ _=>?_)|exact dz _|exact bT|refine af.bind ?_ (fun _=>?_)|refine bn ?_ ?_)|dsimp only|split|intro _))
theorem FX(x:Value):af P Sb qt (Instr.entry x):=by unfold Instr.entry;(repeat' (first|(with_reducible first|exact af.pure' _|exact aG ..|exact eG ..|refine gZ (fun _ _=>?_) (fun _ _=>?_)|exact dz _|exact bT|refine bn ?_ ?_)|dsimp only|split|intro _))
theorem zG(x:Value)(n:Nat):af P Sb qt (Instr.extract x n):=by unfold Instr.extract;(repeat' (first|(with_reducible first|exact af.pure' _|exact aG ..)|dsimp only|split|intro _))
theorem uf{α:Type}(e:RuntimeError):oP P (runtimePanic e:Sem α):=by unfold runtimePanic;refine kT fun p=>?_;cases e<;>dsimp only<;>first|exact om _|exact kT fun _=>kT fun _=>om _
theorem B5(x:Value):af P Sb qt (Instr.panic x):=by
 refine .qy ?_;unfold Instr.panic;split
 ·exact om _
 ·exact kT fun n=>by split;exact om _;exact uf _
 ·exact dz _
theorem jX(op:BinOp)(k:IntKind)(x y:Int):af P Sb qt (Op.intArith op k x y):=by unfold Op.intArith;(repeat' (first|(with_reducible first|exact af.pure' _|exact aG ..)|dsimp only|split|intro _))
theorem sF(op:BinOp)(k:IntKind)(x y:Int):af P Sb qt (Op.intBits op k x y):=by unfold Op.intBits;(repeat' (first|(with_reducible first|exact af.pure' _|exact aG ..)|dsimp only|split|intro _))
theorem Mp(op:BinOp)(x y:Int):af P Sb qt (Op.intCmp op x y):=by unfold Op.intCmp;(repeat' (first|(with_reducible first|exact af.pure' _|exact aG ..)|dsimp only|split|intro _))
theorem Mq(op:BinOp)(k:IntKind)(x y:Int):af P Sb qt (Op.intDiv op k x y):=by unfold Op.intDiv;(repeat' (first|(with_reducible first|exact af.pure' _|exact aG ..|exact bN ..|refine bn ?_ ?_)|dsimp only|split|intro _))
theorem P4(op:BinOp)(k:IntKind)(x:Int)(k':IntKind)(y:Int):af P Sb qt (Op.shift op k x k' y):=by unfold Op.shift;(repeat' (first|(with_reducible first|exact af.pure' _|exact aG ..|exact bN ..|refine bn ?_ ?_)|dsimp only|split|intro _))
theorem rF(op:BinOp)(k:FloatKind)(x y:Nat):af P Sb qt (Op.floatArith op k x y):=by unfold Op.floatArith;(repeat' (first|(with_reducible first|exact af.pure' _|exact cX ..|refine cM ?_|exact cg|refine af.bind ?_ (fun _=>?_))|dsimp only|split|intro _))
theorem wE(op:BinOp)(k:FloatKind)(x y:Nat):af P Sb qt (Op.floatCmp op k x y):=by unfold Op.floatCmp;(repeat' (first|(with_reducible first|exact af.pure' _|exact aG ..)|dsimp only|split|intro _))
theorem ko(s:FloatKind)(b:Nat)(k:FloatKind):af P Sb qt (Conv.floatToFloat s b k):=by unfold Conv.floatToFloat;(repeat' (first|(with_reducible first|exact af.pure' _|exact cX ..|refine af.bind ?_ (fun _=>?_)|refine bn ?_ ?_)|dsimp only|split|intro _))
theorem qc(op:BinOp)(k:FloatKind)(x y:Nat):af P Sb qt (Op.Complex.arith op k x y):=by unfold Op.Complex.arith;(repeat' (first|(with_reducible first|exact af.pure' _|exact aG ..|exact rF ..|refine af.bind ?_ (fun _=>?_))|dsimp only|split|intro _))
theorem P8(op:BinOp)(k:FloatKind)(x y:Nat):af P Sb qt (Op.Complex.cmp op k x y):=by unfold Op.Complex.cmp;(repeat' (first|(with_reducible first|exact qD ..|exact wE ..|refine af.bind ?_ (fun _=>?_))|dsimp only|split|intro _))
theorem SY(k:FloatKind)(x:Nat)(k':FloatKind):af P Sb qt (Op.Complex.conv k x k'):=by unfold Op.Complex.conv;(repeat' (first|(with_reducible first|exact af.pure' _|exact aG ..|exact ko ..|refine af.bind ?_ (fun _=>?_)|refine bn ?_ ?_)|dsimp only|split|intro _))
theorem Dq(x y:Nat):af P Sb qt (Op.Complex.add x y):=qc ..
theorem Dr(x y:Nat):af P Sb qt (Op.Complex.sub x y):=qc ..
theorem Ds(x y:Nat):af P Sb qt (Op.Complex.mul x y):=qc ..
theorem SZ(x y:Nat):af P Sb qt (Op.Complex.quo x y):=qc ..
theorem I3(a b c d:Nat):af P Sb qt (Op.Complex.product a b c d):=by unfold Op.Complex.product;(repeat' (first|(with_reducible first|exact af.pure' _|exact Dq ..|exact Dr ..|exact Ds ..|refine af.bind ?_ (fun _=>?_))|dsimp only|split|intro _))
theorem Dt(s a b c d:Nat):af P Sb qt (Op.Complex.corrected s a b c d):=by unfold Op.Complex.corrected;(repeat' (first|(with_reducible first|exact af.pure' _|exact Dq ..|exact Dr ..|exact Ds ..|refine af.bind ?_ (fun _=>?_))|dsimp only|split|intro _))
theorem FY(a b c d:Nat):af P Sb qt (Op.Complex.quotient a b c d):=by unfold Op.Complex.quotient;(repeat' (first|(with_reducible first|exact af.pure' _|exact P8 ..|exact Dq ..|exact Dr ..|exact Ds ..|exact SZ ..|exact Dt ..|refine cM ?_|refine af.bind ?_ (fun _=>?_)|refine bn ?_ ?_)|dsimp only|split|intro _))
theorem Du(op:BinOp)(k:FloatKind)(a b c d:Nat):af P Sb qt (Op.complexOp op k a b c d):=by unfold Op.complexOp;(repeat' (first|(with_reducible first|exact af.pure' _|exact aG ..|exact qc ..|exact P8 ..|exact SY ..|exact I3 ..|exact FY ..|refine af.bind ?_ (fun _=>?_)|refine bn ?_ ?_)|dsimp only|split|intro _))
theorem wF(op:BinOp)(x y:ByteArray):af P Sb qt (Op.stringOp op x y):=by unfold Op.stringOp;(repeat' (first|(with_reducible first|exact af.pure' _|exact aG ..|exact eG ..|refine bn ?_ ?_)|dsimp only|split|intro _))
theorem FZ(op:UnOp)(x:Value):af P Sb qt (Op.unary op x):=by unfold Op.unary;(repeat' (first|(with_reducible first|exact af.pure' _|exact aG ..|exact eG ..|exact jX ..|exact sF ..)|dsimp only|split|intro _))
theorem ug(a b:Addr):af P Sb qt (Op.twoPlaces a b):=by unfold Op.twoPlaces;(repeat' (first|(with_reducible first|exact af.pure' _|exact dB ..|exact vn ..|exact bT|refine af.bind ?_ (fun _=>?_)|refine bn ?_ ?_)|dsimp only|split|intro _))
theorem I4(k:IntKind)(a b:Addr):af P Sb qt (Op.addrSub k a b):=by unfold Op.addrSub;(repeat' (first|(with_reducible first|exact af.pure' _|exact ug ..|refine af.bind ?_ (fun _=>?_))|dsimp only|split|intro _))
theorem I5(op:BinOp)(a b:Addr):af P Sb qt (Op.addrCmp op a b):=by unfold Op.addrCmp;(repeat' (first|(with_reducible first|exact af.pure' _|exact eG ..|exact ug ..|refine af.bind ?_ (fun _=>?_))|dsimp only|split|intro _))
theorem I6(k:IntKind)(a:Addr)(n:Int):af P Sb qt (Op.addrMod k a n):=by unfold Op.addrMod;(repeat' (first|(with_reducible first|exact af.pure' _|exact eG ..|exact fY ..|exact vn ..|refine jK (fun _ _=>?_) ?_|exact gW _|exact bT|refine af.bind ?_ (fun _=>?_)|refine bn ?_ ?_)|dsimp only|split|intro _))
theorem F0(k:IntKind)(n:Int):af P Sb qt (Conv.intToInt k n):=af.pure
theorem Bi(k:FloatKind)(n:Int):af P Sb qt (Conv.intToFloat k n):=af.pure
theorem Bj(k:FloatKind)(b:Nat)(k':IntKind):af P Sb qt (Conv.floatToInt k b k'):=by unfold Conv.floatToInt;(repeat' (first|(with_reducible first|exact af.pure' _|exact cX ..|refine af.bind ?_ (fun _=>?_)|refine bn ?_ ?_)|dsimp only|split|intro _))
theorem qW(k:FloatKind)(x y:Nat)(k':FloatKind):af P Sb qt (Conv.complexToComplex k x y k'):=by unfold Conv.complexToComplex;(repeat' (first|(with_reducible first|exact af.pure' _|exact aG ..|exact ko ..|refine af.bind ?_ (fun _=>?_))|dsimp only|split|intro _))
theorem zH(n:Int):af P Sb qt (Conv.intToString n):=af.pure
theorem vo(t:TypeId)(s:ByteArray):af P Sb qt (Conv.stringToBytes t s):=by unfold Conv.stringToBytes;(repeat' (first|(with_reducible first|exact af.pure' _|exact cX ..|exact vk (by assumption)|refine hU (fun _ _=>?_)|refine af.bind ?_ (fun _=>?_))|dsimp only|split|intro _))
theorem vp(x:Value):af P Sb qt (Conv.bytesToString x):=by unfold Conv.bytesToString;(repeat' (first|(with_reducible first|exact af.pure' _|exact aG ..|exact kL ..|exact cg|refine af.bind ?_ (fun _=>?_)|refine Kq (fun _ _=>?_))|dsimp only|split|intro _))
theorem vq(t:TypeId)(s:ByteArray):af P Sb qt (Conv.stringToRunes t s):=by unfold Conv.stringToRunes;(repeat' (first|(with_reducible first|exact af.pure' _|exact cX ..|refine hU (fun _ _=>?_)|refine af.bind ?_ (fun _=>?_))|dsimp only|split|intro _))
theorem vr(x:Value):af P Sb qt (Conv.runesToString x):=by unfold Conv.runesToString;(repeat' (first|(with_reducible first|exact af.pure' _|exact aG ..|exact kL ..|exact cg|refine af.bind ?_ (fun _=>?_)|refine Kq (fun _ _=>?_))|dsimp only|split|intro _))
theorem vu(a:Addr):af P Sb qt (Conv.seenAt a):=by unfold Conv.seenAt;(repeat' (first|(with_reducible first|exact af.pure' _|exact dB ..|exact eG ..|exact qC ..|refine jK (fun _ _=>?_) ?_|exact gW _|exact bT|refine af.bind ?_ (fun _=>?_)|refine bn ?_ ?_)|dsimp only|split|intro _))
theorem vw(s d:TypeId)(x:Value):af P Sb qt (Conv.unsafePointer s d x):=by
 unfold Conv.unsafePointer;refine af.bind (aF _) fun u1=>af.bind (aF _) fun u2=>?_;split;case h_4=>
  refine af.bind (vu _) fun a=>?_;refine af.bind (cY _) fun n=>?_;by_cases hn:n=0
  ·subst hn;simp only[decide_true,Bool.true_or,if_true];exact qV (af.pure' _)
  ·simp only[hn,decide_false,Bool.false_or];by_cases hb:Sb a.block
   ·constructor;intro v w x v' hs hr hg es;exfalso;obtain⟨c,t,h0,h1,h2,h3⟩:=mZ hb hs;rw[run_bind,<-Sem.runT_fst P _ v #[],mY]at hr;have e:∀u,tS P a u 1 v=false:=fun u=>by unfold tS;rw[h2]
    rw[e]at hr;simp only[Bool.false_eq_true,if_false]at hr;rw[run_bind]at hr;have e2:(shape a.block).run P v=.ok none v:=by show Result.ok (v.shape? a.block) v=_;rw[h2]
    rw[e2]at hr;exact(gX (gW _)).no _ _ _ hr
   ·(repeat' (first|(with_reducible first|exact af.pure' _|exact kU ..|exact dB ..|exact aG ..|exact eG ..|exact zy ..|exact p8 ..|exact aF ..|exact cY ..|exact vu ..|exact bX (by assumption)|exact iA (by assumption)|refine af.bind (bX (by assumption)) (fun _=>?_)|exact gW _|exact gX (gW _)|exact bT|refine af.bind (iA (by assumption)) (fun _=>?_)|refine af.bind ?_ (fun _=>?_)|refine bn ?_ ?_)|dsimp only|split|intro _))
 all_goals(repeat' (first|(with_reducible first|exact af.pure' _|exact kU ..|exact dB ..|exact aG ..|exact eG ..|exact zy ..|exact p8 ..|exact aF ..|exact cY ..|exact vu ..|exact bX (by assumption)|exact iA (by assumption)|refine af.bind (bX (by assumption)) (fun _=>?_)|exact gW _|exact gX (gW _)|exact bT|refine af.bind (iA (by assumption)) (fun _=>?_)|refine af.bind ?_ (fun _=>?_)|refine bn ?_ ?_)|dsimp only|split|intro _))
theorem uh(a:Array TypeId)(t:TypeId)(x:Array Value):af P Sb qt (Builtin.unsafeAdd_ a t x):=by unfold Builtin.unsafeAdd_;rcases x with⟨_|⟨a0,_|⟨a1,_|⟨a2,l⟩⟩⟩⟩ <;>first|exact af.halt|(cases a0<;>first|exact af.halt|(refine af.bind (jY _) (fun n=>?_);(repeat' (first|(with_reducible first|exact af.pure' _|exact af.halt|exact dB ..|exact eG ..|exact qC ..|exact jY ..|refine jK (fun _ _=>?_) ?_|exact gW _|exact bT|refine af.bind ?_ (fun _=>?_)|refine bn ?_ ?_)|dsimp only|split|intro _))))
theorem zI(t:TypeId)(x y:Value):af P Sb qt (movedNumber t x y):=by unfold movedNumber;(repeat' (first|(with_reducible first|exact af.pure' _|exact p8 ..|exact oK ..|exact aF ..|exact uh ..|exact bT|refine af.bind ?_ (fun _=>?_)|refine bn ?_ ?_)|dsimp only|split|intro _))
theorem xf(t:TypeId)(x y:Value):af P Sb qt (movedPointer t x y):=by unfold movedPointer;(repeat' (first|(with_reducible first|exact wB ..|exact uh ..|exact bT|refine af.bind ?_ (fun _=>?_)|refine bn ?_ ?_)|dsimp only|split|intro _))
theorem zJ(op:BinOp)(t:TypeId)(x y:Operand)(a b:Value):af P Sb qt (eqGuard op t x y a b):=by unfold eqGuard;(repeat' (first|(with_reducible first|exact af.pure' _|exact dB ..|exact eG ..|exact tY ..|refine af.bind ?_ (fun _=>?_)|refine bn ?_ ?_)|dsimp only|split|intro _))
theorem F1(op:BinOp)(t:TypeId)(x y:Value):af P Sb qt (binOp op t x y):=by unfold binOp;(repeat' (first|(with_reducible first|exact af.pure' _|exact aG ..|exact eG ..|exact oK ..|exact aF ..|exact P3 ..|exact jX ..|exact sF ..|exact Mp ..|exact Mq ..|exact P4 ..|exact rF ..|exact wE ..|exact Du ..|exact wF ..|exact I4 ..|exact I5 ..|exact I6 ..|exact zI ..|exact xf ..|refine af.bind ?_ (fun _=>?_)|refine bn ?_ ?_)|dsimp only|split|intro _))
theorem zK(s d:TypeId)(qT:(s == d)=false)(x:Value):af P Sb qt (convert s d x):=by unfold convert;simp only[qT];(repeat' (first|(with_reducible first|exact af.pure' _|exact aG ..|exact eG ..|exact aF ..|exact F0 ..|exact Bi ..|exact Bj ..|exact ko ..|exact qW ..|exact zH ..|exact vo ..|exact vp ..|exact vq ..|exact vr ..|exact vw ..|refine af.bind ?_ (fun _=>?_))|dsimp only|split|intro _))
theorem F2(v:Value):af P Sb qt (Builtin.lenOf v):=by unfold Builtin.lenOf;(repeat' (first|(with_reducible first|exact af.pure' _|exact aG ..)|dsimp only|split|intro _))
theorem rG(a b:Nat)(v:Value):af P Sb qt (Builtin.firstCells a b v):=by unfold Builtin.firstCells;(repeat' (first|(with_reducible first|exact af.pure' _|exact aG ..|exact kL ..)|dsimp only|split|intro _))
theorem Mr(a:Array TypeId)(t:TypeId)(x:Array Value):af P Sb qt (Builtin.append_ a t x):=by unfold Builtin.append_;(repeat' (first|(with_reducible first|exact af.pure' _|exact cX ..|exact zw ..|exact aG ..|exact fY ..|exact aF ..|exact iB ..|exact cY ..|exact jL ..|exact bN ..|exact jY ..|exact F2 ..|exact rG ..|exact gW _|refine kT (fun _=>?_)|refine cM ?_|refine hU (fun _ _=>?_)|refine vi (fun _=>?_)|refine af.bind ?_ (fun _=>?_)|refine bn ?_ ?_)|dsimp only|split|intro _))
theorem S1(a:Array TypeId)(t:TypeId)(x:Array Value):af P Sb qt (Builtin.copy_ a t x):=by unfold Builtin.copy_;(repeat' (first|(with_reducible first|exact af.pure' _|exact aG ..|exact aF ..|exact cY ..|exact jL ..|exact F2 ..|exact rG ..|refine af.bind ?_ (fun _=>?_))|dsimp only|split|intro _))
theorem Ms(a:Array TypeId)(t:TypeId)(x:Array Value):af P Sb qt (Builtin.delete_ a t x):=by unfold Builtin.delete_;(repeat' (first|(with_reducible first|exact af.pure' _|exact aG ..|exact aF ..|exact mg ..|exact sG ..|exact vh (by assumption)|refine gZ (fun _ _=>?_) (fun _ _=>?_)|exact dz _|exact gX (dz _)|exact cg|refine af.bind ?_ (fun _=>?_))|dsimp only|split|intro _))
theorem WM(a:Array TypeId)(t:TypeId)(x:Array Value):af P Sb qt (Builtin.len_ a t x):=by unfold Builtin.len_;(repeat' (first|(with_reducible first|exact af.pure' _|exact aG ..|exact aF ..|refine gZ (fun _ _=>?_) (fun _ _=>?_)|exact dz _|refine af.bind ?_ (fun _=>?_))|dsimp only|split|intro _))
theorem S2(x y:Value):af P Sb qt (Builtin.max2 x y):=by unfold Builtin.max2;(repeat' (first|(with_reducible first|exact af.pure' _|exact cX ..|exact aG ..|exact eG ..|exact qD ..|exact wF ..|refine af.bind ?_ (fun _=>?_))|dsimp only|split|intro _))
theorem WN(a:Array TypeId)(t:TypeId)(x:Array Value):af P Sb qt (Builtin.max_ a t x):=by unfold Builtin.max_;(repeat' (first|(with_reducible first|exact aG ..|exact S2 ..|refine FK (fun _ _=>?_))|dsimp only|split|intro _))
theorem xg(a:Array TypeId)(t:TypeId)(x:Array Value):af P Sb qt (Builtin.unsafeString_ a t x):=by unfold Builtin.unsafeString_;rcases x with⟨_|⟨a0,_|⟨a1,_|⟨a2,l⟩⟩⟩⟩ <;>first|exact af.halt|(cases a0<;>first|exact af.halt|(refine af.bind (jY _) (fun n=>?_);(repeat' (first|(with_reducible first|exact af.pure' _|exact af.halt|exact aG ..|exact eG ..|exact B2 ..|exact bN ..|exact jY ..|exact tV ..|exact BZ (by assumption)|exact gW _|exact bT|refine qU (fun _ _=>?_) ?_|refine zx ?_|refine af.bind ?_ (fun _=>?_)|refine bn ?_ ?_)|dsimp only|split|intro _))))
end
section
open Go
structure gI where
 ext:FuncId->Bool
 j8:FuncId->Nat->Option Nat
 Nk:FuncId
 en:FuncId
 vY:FuncId->List Nat
 cf:FuncId
 Cb:FuncId
 tgt:FuncId->Code->Bool
 den:FuncId->Bool
 Ja:String->Bool
def gI.kG(T:gI)(g:FuncId):Operand->Bool
 |.tmp n=>(T.vY g).contains n
 |.func f=>f == T.cf
 |_=>false
def gI.agk(T:gI):Fn->Bool
 |.func f=>f == T.cf
 |_=>false
def gI.fD(T:gI)(f:FuncId)(d:Nat):Option Nat:=
 if f=T.Nk then some (d+1)else if f=T.en then(if d=0 then none else some (d-1))else if T.ext f then some d
 else T.j8 f d
def gI.Xn(T:gI)(g f:FuncId)(args:Array Operand):Bool:=(T.vY f).all fun n=>match args[n]? with|some x=>T.kG g x|none=>true
def gI.wr(T:gI)(g:FuncId)(o:Oper):Bool:=match o.dst with|some n=>(T.vY g).contains n|none=>false
def gI.S5(T:gI)(g:FuncId)(o:Oper)(d:Nat):Option Nat:=
 match o.op with
 |.call c=>
  if T.wr g o=true then none else
  match c.callee with
  |.builtin b=>if Dv b then some d else none
  |.value (.func f)=>if T.Xn g f c.args then(T.fD f (d % 2)).bind fun e=>if e<2 then some (e+2*(d / 2))else none else none
  |.invoke _ s=>if T.Ja s=true/\d=0 then some 0 else none
  |.value (.tmp n)=>if (T.vY g).contains n=true/\d=0 then some 0 else none
  |_=>none
 |.defer c=>
  match c.callee with
  |.value (.func f)=>
   if T.wr g o=true then none else
   if T.den g=true then(if f=T.en then some (d+2)else none)
   else if f=T.Cb/\T.j8 g 0=some 0/\T.j8 g 1=none then some d else none
  |_=>none
 |.go _=>some d
 |.move x=>if T.wr g o=true/\T.kG g x=false then none else some d
 |.assign x=>if T.wr g o=true/\T.kG g x=false then none else some d
 |.makeFunc fn _ _=>if T.wr g o=true/\T.agk fn=false then none else some d
 |op=>if qE op=true/\T.wr g o=false then some d else none
def gI.XZ(T:gI)(g:FuncId):List Oper->Nat->Option Nat
 | [],d=>some d
 |o :: os,d=>(T.S5 g o d).bind fun e=>if o.guard.isNone=true\/e=d then T.XZ g os e else none
def uE:Option (Option Nat)->Nat->Bool
 |some none,_=>true
 |some (some e'),e=>e' == e
 |none,_=>false
def gI.ck(T:gI)(g:FuncId)(out:Nat):Code->Nat->List (Nat×Nat)->Option (Option Nat)
 |.skip,d,_=>some (some d)
 |.region _ ops draw,d,_=>
  if ops.all (fun o=>T.S5 g o d == some d)=true then some (some d)else if draw=true then none else(T.XZ g ops.toList d).map some
 |.seq a b,d,X=>if T.tgt g (.seq a b)=true then some none else(T.ck g out a d X).bind fun r=>match r with|some e=>T.ck g out b e X|none=>some none
 |.cond c a b,d,X=>
  match c with
  |.const (.bool true)=>T.ck g out a d X
  |.const (.bool false)=>T.ck g out b d X
  |_=>(T.ck g out a d X).bind fun ra=>(T.ck g out b d X).bind fun rb=>
   match ra,rb with
   |none,r=>some r
   |some e,none=>some (some e)
   |some e,some e'=>if e=e' then some (some e)else none
 |.block id body,d,X=>
  if T.ck g out body d ((id,99):: X)=some none then some none
  else if uE (T.ck g out body d ((id,d):: X)) d=true then some (some d)
  else if uE (T.ck g out body d ((id,0):: X)) 0=true then some (some 0)
  else if uE (T.ck g out body d ((id,1):: X)) 1=true then some (some 1)else none
 |.loop body,d,X=>
  (T.ck g out body d X).bind fun r=>match r with|none=>some none|some e=>if e=d then some none else none
 |.exit id,d,X=>if X.lookup id=some d/\d<90 then some none else none
 |.ret,d,_=>if d % 2=out+d / 2 then some none else none
 |_,_,_=>none
section
variable (T:gI)(g:FuncId)(out:Nat)
def TK(ops:Array Oper):Nat->List Nat->Nat->Prop
 |d, [],e=>e=d
 |d,i :: is,e=>match ops[i]? with
  |none=>TK ops d is e
  |some o=>∃d1,T.S5 g o d=some d1/\(o.guard=none\/d1=d)/\TK ops d1 is e
def Jd:List Item->(Nat->List (Nat×Nat)->Prop)×(List (Nat×Nat)->Prop)
 | []=>(fun d X=>d % 2=out+d / 2/\X= [],fun X=>X= [])
 |.code c :: k=>(fun d X=>∃r,T.ck g out c d X=some r/\(Jd k).2 X/\∀e,r=some e->(Jd k).1 e X,(Jd k).2)
 |.inBlock id :: k=>(fun d X=>∃X',X=(id,d):: X'/\(Jd k).1 d X'/\(Jd k).2 X',fun X=>∃e X',X=(id,e):: X'/\(e<90->(Jd k).1 e X')/\(Jd k).2 X')
 |.inLoop body :: k=>(fun d X=>(∃r,T.ck g out body d X=some r/\∀e,r=some e->e=d)/\(Jd k).2 X,(Jd k).2)
 |.inRegion ops is :: k=>(fun d X=>∃e,TK T g ops d is e/\(Jd k).1 e X/\(Jd k).2 X,(Jd k).2)
 |_ :: k=>(fun _ _=>False,(Jd k).2)
abbrev oR(k:List Item)(d:Nat)(X:List (Nat×Nat)):Prop:=(Jd T g out k).1 d X
abbrev Xs(k:List Item)(X:List (Nat×Nat)):Prop:=(Jd T g out k).2 X
end
section
variable {T:gI}{g:FuncId}{out d:Nat}{k k':List Item}{X:List (Nat×Nat)}
theorem D8{id e:Nat}(h90:e<90):∀{k:List Item} {X:List (Nat×Nat)},Xs T g out k X->X.lookup id=some e->exitTo id k=some k'->∃X',oR T g out k' e X'
 | [],X,h,hl,he=>by cases he
 |i :: k,X,h,hl,he=>by
  cases i with
  |inBlock id'=>
   obtain⟨e',X',rfl,h2,h3⟩:=h;simp only[exitTo]at he;by_cases hi:id'=id
   ·subst hi;simp only[beq_self_eq_true,if_true,Option.some.injEq]at he;subst he;simp only[List.lookup,beq_self_eq_true,Option.some.injEq]at hl;subst hl;exact⟨X',h2 h90⟩
   ·have h1:(id' == id)=false:=by simpa using hi
    have h2':(id == id')=false:=by simpa using fun h=>hi h.symm
    simp only[h1,Bool.false_eq_true,if_false]at he;simp only[List.lookup,h2']at hl;exact D8 h90 h3 hl he
  |_=>exact D8 h90 (k:=k) h hl he
theorem TL(h:oR T g out [] d X):d % 2=out+d / 2:=h.1
theorem TM(h:oR T g out (.code .ret :: k) d X):d % 2=out+d / 2:=by
 obtain⟨r,h1,_⟩:=h;simp only[gI.ck]at h1;split at h1
 ·assumption
 ·cases h1
theorem QW(h:oR T g out (.code .skip :: k) d X):oR T g out k d X:=by obtain⟨r,h1,_,h3⟩:=h;simp only[gI.ck,Option.some.injEq]at h1;exact h3 d h1.symm
theorem GN(h:oR T g out (.inBlock id :: k) d X):∃X',oR T g out k d X':=by obtain⟨X',_,h,_⟩:=h;exact⟨X',h⟩
theorem TN{a b:Code}(h:oR T g out (.code (.seq a b):: k) d X)(ht:T.tgt g (.seq a b)=false):oR T g out (.code a :: .code b :: k) d X:=by
 obtain⟨r,h1,h2,h3⟩:=h;simp only[gI.ck,ht,Bool.false_eq_true,if_false]at h1;cases ha:T.ck g out a d X with
 |none=>rw[ha]at h1;cases h1
 |some ra=>
  rw[ha]at h1;refine⟨ra,ha,h2,fun e he=>?_⟩;subst he;exact⟨r,h1,h2,h3⟩
theorem QX{c:Operand}{a b:Code}{q:Bool}(h:oR T g out (.code (.cond c a b):: k) d X)(hq:∀q',c=.const (.bool q')->q=q'):oR T g out (.code (if q then a else b):: k) d X:=by
 obtain⟨r,h1,h2,h3⟩:=h;simp only[gI.ck]at h1;split at h1
 ·obtain rfl:=hq true rfl;exact⟨r,h1,h2,h3⟩
 ·obtain rfl:=hq false rfl;exact⟨r,h1,h2,h3⟩
 clear hq;cases ha:T.ck g out a d X with
 |none=>rw[ha]at h1;cases h1
 |some ra=>
  rw[ha]at h1;cases hb:T.ck g out b d X with
  |none=>rw[hb]at h1;cases h1
  |some rb=>
   rw[hb]at h1;simp only[Option.bind_some]at h1;cases q with
   |true=>
    refine⟨ra,ha,h2,fun e he=>h3 e ?_⟩;subst he;cases rb with
    |none=>simpa using h1.symm
    |some e'=>simp only at h1;split at h1<;>cases h1;rfl
   |false=>
    refine⟨rb,hb,h2,fun e he=>h3 e ?_⟩;subst he;cases ra with
    |none=>simpa using h1.symm
    |some e'=>
     simp only at h1;split at h1
     ·rename_i hh;cases h1;rw[hh]
     ·cases h1
theorem M5{a:Code}(h:oR T g out (.code (.block id a):: k) d X):∃X',oR T g out (.code a :: .inBlock id :: k) d X':=by
 obtain⟨r,h1,h2,h3⟩:=h;simp only[gI.ck]at h1;have key:∀e,uE (T.ck g out a d ((id,e):: X)) e=true->r=some e->oR T g out (.code a :: .inBlock id :: k) d ((id,e):: X):=by
  intro e he hr;have hk:=h3 e hr;cases ha:T.ck g out a d ((id,e):: X)with
  |none=>rw[ha]at he;cases he
  |some ra=>
   refine⟨ra,ha,⟨e,X,rfl,fun _=>hk,h2⟩,fun e' he'=>?_⟩;subst he';rw[ha]at he;simp only[uE,beq_iff_eq]at he;subst he;exact⟨X,rfl,hk,h2⟩
 split at h1
 ·rename_i hh;exact⟨(id,99):: X,none,hh,⟨99,X,rfl,fun h=>absurd h (by decide),h2⟩,fun e he=>by cases he⟩
 ·split at h1
  ·rename_i hh;exact⟨_,key d hh (by cases h1;rfl)⟩
  ·split at h1
   ·rename_i hh;exact⟨_,key 0 hh (by cases h1;rfl)⟩
   ·split at h1
    ·rename_i hh;exact⟨_,key 1 hh (by cases h1;rfl)⟩
    ·cases h1
theorem Al{a:Code}(h:oR T g out (.inLoop a :: k) d X):oR T g out (.code a :: .inLoop a :: k) d X:=by obtain⟨⟨r,h1,h2⟩,h3⟩:=h;refine⟨r,h1,h3,fun e he=>?_⟩;obtain rfl:=h2 e he;exact⟨⟨r,h1,h2⟩,h3⟩
theorem QY{a:Code}(h:oR T g out (.code (.loop a):: k) d X):oR T g out (.code a :: .inLoop a :: k) d X:=by
 obtain⟨r,h1,h2,h3⟩:=h;simp only[gI.ck]at h1;refine Al (d:=d) ⟨?_,h2⟩;cases ha:T.ck g out a d X with
 |none=>rw[ha]at h1;cases h1
 |some ra=>
  refine⟨ra,rfl,fun e he=>?_⟩;subst he;rw[ha]at h1;simp only[Option.bind_some]at h1;split at h1
  ·assumption
  ·cases h1
theorem QZ(h:oR T g out (.code (.exit id):: k) d X)(he:exitTo id k=some k'):∃X',oR T g out k' d X':=by
 obtain⟨r,h1,h2,h3⟩:=h;simp only[gI.ck]at h1;split at h1
 ·rename_i hh;exact D8 hh.2 h2 hh.1 he
 ·cases h1
theorem qL{ops:Array Oper}(h:ops.all (fun o=>T.S5 g o d == some d)=true):∀is,TK T g ops d is d
 | []=>rfl
 |i :: is=>by
  unfold TK;split
  ·exact qL h is
  ·rename_i o ho;have h1:=Array.all_eq_true.1 h;obtain⟨hl,he⟩:=zba.1 ho;have:=h1 i hl;rw[he]at this;exact⟨d,by simpa using this,.inr rfl,qL h is⟩
theorem Cr{ops:Array Oper}:∀(suf pre:List Oper) (d e:Nat),ops.toList=pre++suf->T.XZ g suf d=some e->TK T g ops d (List.range' pre.length suf.length) e
 | [],pre,d,e,h,hc=>by simp only[gI.XZ,Option.some.injEq]at hc;exact hc.symm
 |o :: suf,pre,d,e,h,hc=>by
  rw[List.length_cons,List.range'_succ];have ho:ops[pre.length]?=some o:=by rw[<-Array.getElem?_toList,h];simp
  unfold TK;rw[ho];simp only[gI.XZ]at hc;cases hd:T.S5 g o d with
  |none=>rw[hd]at hc;cases hc
  |some d1=>
   rw[hd]at hc;simp only[Option.bind_some]at hc;split at hc
   ·rename_i hg;refine⟨d1,hd,hg.imp (fun h=>by simpa using h) id,?_⟩;have:=Cr suf (pre++ [o]) d1 e (by rw[h];simp) hc;simpa using this
   ·cases hc
theorem Am{ops:Array Oper}{draw:Bool}(h:oR T g out (.code (.region id ops draw):: k) d X):(draw=false->oR T g out (.inRegion ops (List.range ops.size):: k) d X)/\(draw=true->∀is,oR T g out (.inRegion ops is :: k) d X):=by
 obtain⟨r,h1,h2,h3⟩:=h;simp only[gI.ck]at h1;split at h1
 ·rename_i hh;have hk:=h3 d (by cases h1;rfl);exact⟨fun _=>⟨d,qL hh _,hk,h2⟩,fun _ is=>⟨d,qL hh _,hk,h2⟩⟩
 ·split at h1
  ·cases h1
  ·rename_i hd;refine⟨fun _=>?_,fun h=>absurd h hd⟩;cases hc:T.XZ g ops.toList d with
   |none=>rw[hc]at h1;cases h1
   |some e=>
    rw[hc]at h1;have:=Cr ops.toList [] d e rfl hc;rw[List.length_nil,<-List.range_eq_range',Array.length_toList]at this;exact⟨e,this,h3 e (by cases h1;rfl),h2⟩
theorem Q0{ops:Array Oper}(h:oR T g out (.inRegion ops [] :: k) d X):oR T g out k d X:=by obtain⟨e,h1,h2,_⟩:=h;obtain rfl:e=d:=h1;exact h2
theorem Qd{ops:Array Oper}(h:oR T g out (.inRegion ops (i :: is):: k) d X)(ho:ops[i]?=some o):∃d1,T.S5 g o d=some d1/\(o.guard=none\/d1=d)/\oR T g out (.inRegion ops is :: k) d1 X:=by obtain⟨e,h1,h2,h3⟩:=h;unfold TK at h1;rw[ho]at h1;obtain⟨d1,h4,h5,h6⟩:=h1;exact⟨d1,h4,h5,e,h6,h2,h3⟩
theorem Xh{ops:Array Oper}(h:oR T g out (.inRegion ops (i :: is):: k) d X)(ho:ops[i]?=none):oR T g out (.inRegion ops is :: k) d X:=by obtain⟨e,h1,h2,h3⟩:=h;unfold TK at h1;rw[ho]at h1;exact⟨e,h1,h2,h3⟩
end
end
section
open Go
variable {P:Program}{Sb:Nat->Prop}{qt:Prop}
theorem qd:∀(l:List FieldStep) (t:TypeId) (x:Option Value),af P Sb qt (followBlind l t x)
 | [],t,x=>af.pure
 |s :: l,t,x=>by have ih:=qd l;unfold followBlind;(repeat' (first|(with_reducible first|exact af.pure' _|exact af.pure|exact aG ..|exact aF ..|exact Ks ..|exact ih ..|refine af.bind ?_ (fun _=>?_))|dsimp only|split|intro _))
theorem wG:∀(n:Nat) (t:TypeId) (v:Value) (s:String),af P Sb qt (nilAhead n t v s)
 | 0,t,v,s=>af.pure
 |n+1,t,v,s=>by have ih:=wG n;have ih2:=qd (P:=P) (Sb:=Sb) (qt:=qt);unfold nilAhead;repeat' (first|exact ih2 ..|(repeat' (first|(with_reducible first|exact af.pure' _|exact af.pure|exact aG ..|exact fY ..|exact aF ..|exact ih ..|refine af.bind ?_ (fun _=>?_))|dsimp only|split|intro _)))
theorem cR{s:Sem Value}(h:af P Sb qt s):af P Sb qt (do pure (Next.value (<-s)):Sem Next):=af.bind h fun _=>af.pure
theorem Ku{s:Sem Unit}(h:af P Sb qt s):af P Sb qt (do s;pure Next.skip:Sem Next):=af.bind h fun _=>af.pure
theorem xP(h:qE o.op=true):af P Sb qt (execOp ρ o):=by
 unfold execOp;cases ho:o.op<;>rw[ho]at h<;>first|(cases h;done)|skip
 case nilCheck x=>
  dsimp only;repeat' (first|exact wG ..|(repeat' (first|(with_reducible first|exact af.pure' _|exact af.pure|exact dB ..|exact bN ..|exact qD ..|exact FQ ..|exact B3 ..|exact zA ..|exact zB ..|exact zC ..|exact zD ..|exact P2 ..|exact FR ..|exact rD ..|exact m8 ..|exact zE ..|exact tX ..|exact FU ..|exact FV ..|exact B4 ..|exact tZ ..|exact FW ..|exact Kt ..|exact FX ..|exact zG ..|exact B5 ..|exact FZ ..|exact zJ ..|exact F1 ..|exact zK ..|exact bT|refine af.bind ?_ (fun _=>?_)|refine bn ?_ ?_)|dsimp only|split|intro _)))
 case convert s d x=>exact cR (zK _ _ (by simpa[qE]using h) _)
 all_goals first
  |exact af.pure
  |exact cR (FQ ..)|exact cR (P2 ..)|exact cR (FR ..)|exact cR (rD ..)|exact cR (B3 ..)|exact Ku (zA ..)
  |exact cR (af.bind (zJ ..) fun _=>F1 ..)|exact cR (FZ ..)|exact cR (m8 ..)|exact cR (FT ..)
  |exact cR (zE ..)|exact cR (tX ..)|exact cR (zD ..)|exact cR (zB ..)|exact cR (FU ..)|exact cR (zC ..)|exact cR (FV ..)
  |exact cR (B4 ..)|exact Ku (tZ ..)|exact cR (FW ..)|exact cR (Kt ..)|exact cR (FX ..)|exact cR (zG ..)|exact cR (B5 ..)
  |exact af.bind (qD _) fun _=>af.pure
theorem I7{b:Builtin}(h:Dv b=true)(a:Array TypeId)(t:TypeId)(c:Array Bool)(x:Array Value):af P Sb qt (builtin b a t c x):=by
 unfold builtin;cases b<;>first|(cases h;done)|skip
 all_goals first|exact cR (Mr ..)|exact cR (S1 ..)|exact cR (Ms ..)|exact cR (WM ..)|exact cR (WN ..)|exact cR (xg ..)
end
section
open Go Go.Conc
def vD(T:gI)(v:Value):Prop:=∀fn a c,v=.func fn a c->fn=.func T.cf
structure rI(T:gI)(fr:Frame)(out:Nat):Prop where
 round:fr.roundOf=none
 EF:∀x∈fr.defers,∃c,x.target=.fn (.func (if T.den fr.fn=true then T.en else T.Cb)) c
 kind:fr.kind=.normal\/fr.kind=.deferred
 j8:∃a,T.j8 fr.fn a=some out
 Xi:T.den fr.fn=true\/fr.defers= []\/out=0
def oT(T:gI)(fr:Frame):Nat:=if T.den fr.fn=true then fr.defers.length else 0
structure m9(T:gI)(d:Nat)(fr:Frame)(out:Nat):Prop where
 vY:∀n∈T.vY fr.fn,vD T (fr.tmps.getD n undef)
 ok:∃s X,s % 2=d/\s / 2=oT T fr/\oR T fr.fn out fr.todo s X
def gQ(T:gI)(d:Nat)(fr:Frame)(out:Nat):Prop:=
 match fr.mode with
 |.run=>m9 T d fr out
 |.returning=>d=out+oT T fr
 |.panicking ch=>∀e∈ch,e.recovered=false
def agm(T:gI)(d:Nat)(fr:Frame)(out:Nat):Prop:=rI T fr out/\gQ T d fr out
def Wt(T:gI):CallKind->Nat->List Frame->Prop
 |kd,_, []=>kd=.normal
 |kd,e,c :: rest=>∃out',rI T c out'/\Wt T c.kind out' rest/\
  ((kd=.normal/\c.mode=.run/\∀v,m9 T e (c.finish v) out')\/(kd=.deferred/\c.mode≠.run/\gQ T e c out'))
def AG(T:gI)(d:Nat)(fr:Frame)(cs1:List Frame):Prop:=∃out,agm T d fr out/\Wt T fr.kind out cs1
def iT(fr:Frame)(cs1:List Frame):Prop:=∀c∈fr :: cs1,∀ch,c.mode≠.panicking ch
def kF(P:Program)(T:gI)(d:Nat)(fr:Frame)(cs1:List Frame)(w:World):Prop:=
 ∃fr' Xo w' es d',(∀cs,stepG P true (G fr (cs1++cs)) w=.go (G fr' (Xo++cs)) w' es)/\AG T d' fr' Xo/\(iT fr' Xo->iT fr cs1/\deafBehind d es=d')
def Cj(g:Goroutine):Prop:=g.status=.blocked\/g.status=.waiting\/(g.status=.running/\∃d f,g.dying=some d/\d.calling=false/\d.fatal=some f)
def zX(P:Program)(fr:Frame)(cs1:List Frame)(w:World):Prop:=
 ∀cs,(∃o w' es,stepG P true (G fr (cs1++cs)) w=.ended o w' es)\/(∃g' w' es,stepG P true (G fr (cs1++cs)) w=.go g' w' es/\Cj g')\/∃g' g2 w' es,stepG P true (G fr (cs1++cs)) w=.spawn g' g2 w' es
def QD(T:gI)(fr:Frame):Prop:=fr.mode=.run/\∃c k,fr.todo=.code c :: k/\T.tgt fr.fn c=true
section
variable {P:Program}{T:gI}{d out:Nat}{fr:Frame}{cs1:List Frame}{w:World}
theorem iT.top(h:iT fr' cs1)(hm:∀ch,fr.mode≠.panicking ch):iT fr cs1:=fun c hc ch he=>by
 rcases zbk.1 hc with rfl|hc
 ·exact hm ch he
 ·exact h c (zbc _ hc) ch he
theorem rI.todo(h:rI T fr out)(t:List Item):rI T {fr with todo:=t} out:=⟨h.round,h.EF,h.kind,h.j8,h.Xi⟩
theorem iL(hf:rI T fr out)(hr:m9 T d fr out)(hw:Wt T fr.kind out cs1)(hm:fr.mode=.run){s:Nat}(h1:s % 2=d)(h2:s / 2=oT T fr){k:List Item}{X:List (Nat×Nat)}(hk:oR T fr.fn out k s X)
 (hs:∀cs,stepG P true (G fr (cs1++cs)) w=.go (G {fr with todo:=k} (cs1++cs)) w #[]):kF P T d fr cs1 w:=by refine⟨{fr with todo:=k},cs1,w,#[],d,hs,⟨out,⟨hf.todo k,?_⟩,hw⟩,fun h=>⟨h.top (fun ch he=>by rw[hm]at he;cases he),rfl⟩⟩;unfold gQ;simp only[hm];exact⟨hr.vY,s,X,h1,h2,hk⟩
theorem wV(hf:rI T fr out)(hw:Wt T fr.kind out cs1)(hm:fr.mode=.run)(hd:d=out+oT T fr)
 (hs:∀cs,stepG P true (G fr (cs1++cs)) w=.go (G {fr with mode:=.returning} (cs1++cs)) w #[]):kF P T d fr cs1 w:=by refine⟨{fr with mode:=.returning},cs1,w,#[],d,hs,⟨out,⟨⟨hf.round,hf.EF,hf.kind,hf.j8,hf.Xi⟩,?_⟩,hw⟩,fun h=>⟨h.top (fun ch he=>by rw[hm]at he;cases he),rfl⟩⟩;unfold gQ;exact hd
def WQ(fr:Frame):Prop:=∃ops i is k,fr.todo=.inRegion ops (i :: is):: k
theorem QE(hf:rI T fr out)(hr:m9 T d fr out)(hw:Wt T fr.kind out cs1)(hm:fr.mode=.run)(w:World):kF P T d fr cs1 w\/zX P fr cs1 w\/QD T fr\/WQ fr:=by
 obtain⟨s,X,qT,tN,hk⟩:=hr.ok;obtain⟨fn,tmps,todo,defers,mode,kind,ro⟩:=fr;obtain rfl:ro=none:=hf.round;obtain rfl:mode=.run:=hm;simp only at hk hf hr hw tN;cases todo with
 |nil=>exact .inl (wV hf hw rfl (by rw[<-qT,<-tN];exact TL hk) fun cs=>rfl)
 |cons i k=>
  cases i with
  |inBlock id=>obtain⟨X',h⟩:=GN hk;exact .inl (iL hf hr hw rfl qT tN h fun cs=>rfl)
  |inLoop a=>exact .inl (iL hf hr hw rfl qT tN (Al hk) fun cs=>rfl)
  |inRegion ops is=>
   cases is with
   |nil=>exact .inl (iL hf hr hw rfl qT tN (Q0 hk) fun cs=>rfl)
   |cons j is=>exact .inr (.inr (.inr ⟨ops,j,is,k,rfl⟩))
  |code c=>
   cases c with
   |skip=>exact .inl (iL hf hr hw rfl qT tN (QW hk) fun cs=>rfl)
   |ret=>exact .inl (wV hf hw rfl (by rw[<-qT,<-tN];exact TM hk) fun cs=>rfl)
   |seq a b=>
    cases ht:T.tgt fn (.seq a b)with
    |true=>exact .inr (.inr (.inl ⟨rfl,_,_,rfl,ht⟩))
    |false=>exact .inl (iL hf hr hw rfl qT tN (TN hk ht) fun cs=>rfl)
   |cond c a b=>
    by_cases hc:∃q,(Frame.mk fn tmps (.code (.cond c a b):: k) defers .run kind none).eval c=.bool q
    ·obtain⟨q,hq⟩:=hc;refine .inl (iL hf hr hw rfl qT tN (QX (q:=q) hk fun q' e=>?_) fun cs=>?_)
     ·subst e;simp only[Frame.eval,Value.bool.injEq]at hq;exact hq.symm
     ·simp only[stepG,G,stepG.exec,hq]
    ·refine .inr (.inl fun cs=>.inl ⟨.stuck "cond: bool expected" ((Frame.mk fn tmps (.code (.cond c a b):: k) defers .run kind none).pos P),w,#[],?_⟩);simp only[stepG,G,stepG.exec];split
     ·rename_i q hq;exact absurd ⟨q,hq⟩ hc
     ·rfl
   |block id a=>obtain⟨X',h⟩:=M5 hk;exact .inl (iL hf hr hw rfl qT tN h fun cs=>rfl)
   |loop a=>exact .inl (iL hf hr hw rfl qT tN (QY hk) fun cs=>rfl)
   |exit id=>
    cases he:exitTo id k with
    |some k'=>
     obtain⟨X',h⟩:=QZ hk he;refine .inl (iL hf hr hw rfl qT tN h fun cs=>?_);simp only[stepG,G,stepG.exec,he,Option.elim]
    |none=>
     refine .inr (.inl fun cs=>.inl ⟨.stuck "exit, goto: no such block or label" ((Frame.mk fn tmps (.code (.exit id):: k) defers .run kind none).pos P),w,#[],?_⟩);simp only[stepG,G,stepG.exec,he,Option.elim];rfl
   |region id ops draw=>
    cases draw with
    |false=>exact .inl (iL hf hr hw rfl qT tN ((Am hk).1 rfl) fun cs=>rfl)
    |true=>
     have hx:(choose (.order fn id)).run P w=.ok (Question.cut (.order fn id) (w.tape w.drawn (.order fn id))) {w with drawn:=w.drawn+1}:=by simp[choose,Sem.run,Question.forced]
     refine .inl ⟨⟨fn,tmps,.inRegion ops (Region.schedule (P.follows .mixedOrders) ops (Question.cut (.order fn id) (w.tape w.drawn (.order fn id)))):: k,defers,.run,kind,none⟩,cs1,{w with drawn:=w.drawn+1},#[],d,fun cs=>?_,⟨out,⟨hf.todo _,?_⟩,hw⟩,fun h=>⟨h.top (fun ch he=>by cases he),rfl⟩⟩
     ·simp only[stepG,G,stepG.exec,hx,Bool.not_true,Bool.false_eq_true,if_false]
     ·exact⟨hr.vY,s,X,qT,tN,(Am hk).2 rfl _⟩
   |_=>obtain⟨r,h1,_⟩:=hk;simp[gI.ck]at h1
  |_=>exact hk.elim
end
end
section
open Go Go.Conc
theorem F8{e:Event}(h:e∈seen P f es):e∈es:=by
 unfold seen at h;dsimp only at h;rw[<-zbf]at h;have key:∀(l:List Event) (q:Bool) (kept:Array Event) (e:Event),e∈(l.foldl (fun(x:Bool×Array Event) e=>match x with
  |(q,kept)=>match e.loc with
   |.mark (.extern f)=>((P.funcs[f]?).any (·.norace),kept)
   |_=>(q,if q && !e.sync then kept else kept.push e)) (q,kept)).2->e∈kept\/e∈l:=by
  intro l
  induction l with
  |nil=>intro q kept e h;exact .inl h
  |cons x l ih=>
   intro q kept e h;simp only[List.foldl_cons]at h;split at h
   ·exact(ih _ _ _ h).imp id (zbc _)
   ·rcases ih _ _ _ h with h1|h1
    ·split at h1
     ·exact .inl h1
     ·rcases Array.mem_push.1 h1 with h2|rfl
      ·exact .inl h2
      ·exact .inr (zbl ..)
    ·exact .inr (zbc _ h1)
 rcases key _ _ _ _ h with h1|h1
 ·simp at h1
 ·exact zbh.1 h1
theorem TP(h:∀e∈es,e.loc≠.mark .disable/\e.loc≠.mark .enable)(d:Nat):deafBehind d es=d:=by
 unfold deafBehind;rw[<-zbf];have key:∀(l:List Event) (d:Nat),(∀e∈l,e.loc≠.mark .disable/\e.loc≠.mark .enable)->l.foldl (fun d e=>match e.loc with|.mark .disable=>d+1|.mark .enable=>d-1|_=>d) d=d:=by
  intro l;induction l with
  |nil=>intro d _;rfl
  |cons x l ih=>
   intro d hl;simp only[List.foldl_cons];have hx:=hl x (zbl ..);split
   ·rename_i hh;exact absurd hh hx.1
   ·rename_i hh;exact absurd hh hx.2
   ·exact ih d fun e he=>hl e (zbc _ he)
 exact key _ d fun e he=>h e (zbh.1 he)
theorem M6(h:∀e∈es,e.loc≠.mark .disable/\e.loc≠.mark .enable)(d:Nat):deafBehind d (seen P f es)=d:=TP (fun e he=>h e (F8 he)) d
section
variable {P:Program}{fr:Frame}{w:World}{s:Sem Next}
def ryd(w:World)(g:Nat):World:={w with heap:=match w.heap[g]? with|some (.pending c e)=>w.heap.setIfInBounds g (.cells c e)|_=>w.heap}
theorem JL(hst:∀g,P.stepOf g=none)(g:Nat)(w:World):(∀cs,∃o w' es,early P fr cs none g w=.ended o w' es)\/∀cs,early P fr cs none g w=.go (G fr cs) (ryd w g) #[]:=by
 unfold early;simp only[hst];split
 ·split
  ·rename_i c e he;exact .inr fun cs=>by simp[G,ryd,he]
  ·exact .inl fun cs=>⟨_,_,_,rfl⟩
 ·exact .inl fun cs=>⟨_,_,_,rfl⟩
def uj(s:GStep):Prop:=(∃o w' es,s=.ended o w' es)\/(∃g' w' es,s=.go g' w' es/\Cj g')\/∃g' g2 w' es,s=.spawn g' g2 w' es
theorem uj.after{s:GStep}(h:uj s)(es:Array Event):uj (s.after es):=by
 rcases h with⟨o,w',es',rfl⟩|⟨g',w',es',rfl,h⟩|⟨g',g2,w',es',rfl⟩
 ·exact .inl ⟨_,_,_,rfl⟩
 ·exact .inr (.inl ⟨_,_,_,rfl,h⟩)
 ·exact .inr (.inr ⟨_,_,_,_,rfl⟩)
theorem ox(fr:Frame)(l:List ByteArray)(m:String)(b:Bool)(w:World):uj (dieOf fr l m b w):=.inr (.inl ⟨_,_,_,rfl,.inr (.inr ⟨rfl,_,_,rfl,rfl,rfl⟩)⟩)
theorem zM(fr:Frame)(cs:List Frame)(m:String)(w:World):uj (endFatal P fr cs none m w):=by
 unfold endFatal;simp only;split
 ·exact ox ..
 ·exact .inl ⟨_,_,_,rfl⟩
 ·exact .inl ⟨_,_,_,rfl⟩
theorem zL(hst:∀g,P.stepOf g=none)(hk:fr.kind=.normal\/fr.kind=.deferred)(hr:s.runT P w #[]=(.halt h w',es)):
 (∃e es',e.recovered=false/\∀cs,stepG.apply P true fr cs none s w=.go (G (fr.raise [e]) cs) w' es')\/(∃w2,∀cs,stepG.apply P true fr cs none s w=.go (G fr cs) w2 #[])\/∀cs,uj (stepG.apply P true fr cs none s w):=by
 have WO:(fr.kind == CallKind.early)=false:=by rcases hk with h|h<;>rw[h]<;>rfl
 cases h with
 |panic v=>exact .inl ⟨{v,recovered:=false},_,rfl,fun cs=>by simp only[stepG.apply,if_true,hr];rfl⟩
 |goexit=>exact .inl ⟨goexitEntry,_,rfl,fun cs=>by simp only[stepG.apply,if_true,hr];rfl⟩
 |unsupported u=>
  by_cases hu:∃g,u=.initOrder g
  ·obtain⟨g,rfl⟩:=hu;have e0:seen P fr.fn #[]=#[]:=rfl;rcases JL (fr:=fr) hst g w' with he|he
   ·refine .inr (.inr fun cs=>?_);simp only[stepG.apply,if_true,hr,WO,Bool.false_eq_true,if_false];obtain⟨o,w2,xK,he⟩:=he cs;rw[he];exact .inl ⟨_,_,_,rfl⟩
   ·refine .inr (.inl ⟨ryd w' g,fun cs=>?_⟩);simp only[stepG.apply,if_true,hr,WO,Bool.false_eq_true,if_false];rw[he cs,e0];rfl
  ·refine .inr (.inr fun cs=>?_);simp only[stepG.apply,if_true,hr];cases u with
   |initOrder g=>exact absurd ⟨g,rfl⟩ hu
   |_=>exact .inl ⟨_,_,_,rfl⟩
 |fatal m=>exact .inr (.inr fun cs=>(by simp only[stepG.apply,if_true,hr];exact(zM fr cs m w').after _))
 |throw m=>exact .inr (.inr fun cs=>(by simp only[stepG.apply,if_true,hr];exact(ox fr [] m false w').after _))
 |blocked=>exact .inr (.inr fun cs=>(by simp only[stepG.apply,if_true,hr];exact .inr (.inl ⟨_,_,_,rfl,.inl rfl⟩)))
 |waiting=>exact .inr (.inr fun cs=>(by simp only[stepG.apply,if_true,hr];exact .inr (.inl ⟨_,_,_,rfl,.inr (.inl rfl)⟩)))
 |_=>exact .inr (.inr fun cs=>(by simp only[stepG.apply,if_true,hr];exact .inl ⟨_,_,_,rfl⟩))
end
end
section
open Go
theorem Gq{info:TypeId->Option TypeInfo}{fs:Array Field}{i:TypeInfo}(h:Made.reckonStruct info fs=some i):i.methods=#[]:=by unfold Made.reckonStruct at h;simp only[Option.bind_eq_bind,Option.pure_def]at h;obtain⟨st,_,h⟩:=zbd.1 h;split at h<;>(cases h;rfl)
theorem Gr{info:TypeId->Option TypeInfo}{d:TypeDesc}{i:TypeInfo}(h:Made.reckon info d=some i):i.methods=#[]:=by
 unfold Made.reckon at h;simp only[Option.bind_eq_bind,Option.pure_def]at h;split at h
 ·obtain⟨j,_,h⟩:=zbd.1 h;split at h
  ·cases h
  ·split at h
   ·cases h
   ·obtain⟨s,_,h⟩:=zbd.1 h;cases h;rfl
  ·obtain⟨s,_,h⟩:=zbd.1 h;cases h;rfl
 ·obtain⟨s,_,h⟩:=zbd.1 h;obtain⟨s,_,h⟩:=zbd.1 h;cases h;rfl
 ·obtain⟨s,_,h⟩:=zbd.1 h;obtain⟨s,_,h⟩:=zbd.1 h;obtain⟨s,_,h⟩:=zbd.1 h;obtain⟨s,_,h⟩:=zbd.1 h;cases h;rfl
 ·obtain⟨s,_,h⟩:=zbd.1 h;obtain⟨s,_,h⟩:=zbd.1 h;cases h;rfl
 ·obtain⟨s,_,h⟩:=zbd.1 h;cases h;rfl
 ·obtain⟨s,_,h⟩:=zbd.1 h;obtain⟨s,_,h⟩:=zbd.1 h;cases h;rfl
 ·exact Gq h
 ·cases h
theorem DY{t:TypeId}{i:TypeInfo}(h:P.info? t=some i):P.types[t]?=some i\/i.methods=#[]:=by
 unfold Tables.info? at h;split at h
 ·exact .inl h
 ·right;have key:∀n,Made.infoAt P.toTables n t=some i->i.methods=#[]:=by
   intro n hn;cases n with
   |zero=>cases hn
   |succ n=>
    unfold Made.infoAt at hn;split at hn
    ·contradiction
    ·obtain⟨d,_,hn⟩:=zbd.1 hn;exact Gr hn
  exact key _ h
def QL(P:Program)(s:String)(f:FuncId):Prop:=∃(t:TypeId) (i:TypeInfo) (m:Method) (b:Bool),P.types[t]?=some i/\m∈i.methods/\m.name=s/\m.func=some (f,b)
theorem oy{P:Program}{s:String}:∀(n:Nat) {t:TypeId} {v:Value} {w:World} {es:Array Event} {f:FuncId} {x:Value} {w':World} {es':Array Event},(method n t v s).runT P w es=(.ok (f,x) w',es')->QL P s f
 | 0,t,v,w,es,f,x,w',es',h=>by cases h
 |n+1,t,v,w,es,f,x,w',es',h=>by
  unfold method at h;have SH:(typeInfo t).runT P w es=(match P.info? t with|some i=>(.ok i w,es)|none=>(.halt (.stuck "no such type") w,es)):=by show (match P.info? t with|some i=>(pure i:Sem TypeInfo)|none=>stuck "no such type").runT P w es=_;cases P.info? t<;>rfl
  rw[fS,SH]at h;cases hi:P.info? t with
  |none=>rw[hi]at h;cases h
  |some i=>
   rw[hi]at h;simp only at h;cases hm:i.methods.find? (·.name == s)with
   |none=>rw[hm]at h;cases h
   |some m=>
    rw[hm]at h;simp only at h;rw[fS]at h;have hmem:=Array.mem_of_find?_eq_some hm;have hname:m.name=s:=by simpa using Array.find?_some hm
    have hty:P.types[t]?=some i:=by
     rcases DY hi with h1|h1
     ·exact h1
     ·rw[h1]at hmem;simp at hmem
    obtain⟨r,xN,hr⟩:∃r xN,(follow m.path.toList t (.val v)).runT P w es=(r,xN):=⟨_,_,rfl⟩
    rw[hr]at h;cases r with
    |halt hh w1=>cases h
    |ok xx w1=>
     obtain⟨xt,pl⟩:=xx;simp only at h;cases hf:m.func with
     |none=>
      rw[hf]at h;simp only at h;rw[fS]at h;obtain⟨r3,S4,hr3⟩:∃r e,(pl.get xt).runT P w1 xN=(r,e):=⟨_,_,rfl⟩
      rw[hr3]at h;cases r3 with
      |halt hh w3=>cases h
      |ok y w3=>
       simp only at h;cases y with
       |iface t' v'=>exact oy n h
       |nilIface=>
        have:=(iW (Q:=fun _=>False) program (f:=fun p=>(goPanic (.iface p.rt.errorString (strVal "invalid memory address or nil pointer dereference")):Sem (FuncId×Value))) fun _=>.halt).out h;exact this.elim
       |_=>cases h
     |some fb=>
      obtain⟨g,b⟩:=fb;rw[hf]at h;simp only at h;rw[fS]at h;obtain⟨r3,S4,hr3⟩:∃r e,(receiverAt xt pl b (if m.path.isEmpty=true then some ((s.splitOn ".").getLastD s)else none)).runT P w1 xN=(r,e):=⟨_,_,rfl⟩
      rw[hr3]at h;cases r3 with
      |halt hh w3=>cases h
      |ok y w3=>
       cases h;exact⟨t,i,m,b,hty,hmem,hname,hf⟩
end
section
open Go Go.Conc
structure gY(P:Program)(T:gI):Prop where
 nG:∀g,P.stepOf g=none
 two:∀f a b,T.j8 f a=some b->a<2
 j8:∀f a b,T.j8 f a=some b->∃fn c,P.funcs[f]?=some fn/\(fn.name == "runtime.NumGoroutine")=false/\fn.body=some c/\∃r,T.ck f b c a []=some r/\∀e,r=some e->e % 2=b+e / 2
 Cb:T.j8 T.Cb 0=some 0/\T.vY T.Cb= []
 cf:T.j8 T.cf 0=some 0/\T.vY T.cf= []
 ext:∀f,T.ext f=true->∀args w n w' es,(callFunc f args).runT P w #[]=(.ok n w',es)->(∃v,n=.value v)/\∀g d,deafBehind d (seen P g es)=d
 Nk:∀args w n w' es,(callFunc T.Nk args).runT P w #[]=(.ok n w',es)->(∃v,n=.value v)/\∀g d,deafBehind d (seen P g es)=d+1
 en:∀args w,∃v es,(callFunc T.en args).runT P w #[]=(.ok (.value v) w,es)/\∀g d,deafBehind d (seen P g es)=d-1
 Ja:∀s f,T.Ja s=true->QL P s f->T.j8 f 0=some 0/\T.vY f= []
section
variable {P:Program}{T:gI}{d d1 s1 out:Nat}{fr:Frame}{cs1:List Frame}{w:World}{ops:Array Oper}{i:Nat}{is:List Nat}{k:List Item}{o:Oper}{X:List (Nat×Nat)}
theorem qH(ht:fr.todo=.inRegion ops (i :: is):: k)(v:Value):fr.finish v={fr with tmps:=(match (ops[i]?).bind (·.dst)with|some t=>fr.tmps.setIfInBounds t v|none=>fr.tmps),todo:=.inRegion ops is :: k}:=by unfold Frame.finish;rw[ht];rfl
theorem rI.finish(h:rI T fr out)(ht:fr.todo=.inRegion ops (i :: is):: k)(v:Value):rI T (fr.finish v) out:=by rw[qH ht];exact⟨h.round,h.EF,h.kind,h.j8,h.Xi⟩
theorem fj:vD T undef:=fun fn a c h=>by cases h
theorem zZ(h:∀n∈T.vY fr.fn,vD T (fr.tmps.getD n undef))(v:Value)(hv:(∀o,ops[i]?=some o->T.wr fr.fn o=true->vD T v))(n:Nat)(hn:n∈T.vY fr.fn):vD T (Array.getD (match (ops[i]?).bind (·.dst)with|some t=>fr.tmps.setIfInBounds t v|none=>fr.tmps) n undef):=by
 cases ho:ops[i]? with
 |none=>simp only[Option.bind_none];exact h n hn
 |some o=>
  simp only[Option.bind_some];cases hd:o.dst with
  |none=>simp only;exact h n hn
  |some t=>
   simp only;by_cases e:t=n
   ·subst e;have hw:T.wr fr.fn o=true:=by unfold gI.wr;rw[hd];simpa using hn
    by_cases hl:t<fr.tmps.size
    ·rw[zbg,Array.getElem?_setIfInBounds_self_of_lt hl];exact hv o ho hw
    ·rw[zbg,Array.getElem?_eq_none (by simpa using Nat.le_of_not_lt hl)];exact fj
   ·have:=h n hn;rw[zbg,zbb e,<-zbg];exact this
theorem m9.finish(h:m9 T d fr out)(ht:fr.todo=.inRegion ops (i :: is):: k)(e1:s1 % 2=d1)(e2:s1 / 2=oT T fr)(hk:oR T fr.fn out (.inRegion ops is :: k) s1 X)(v:Value)(hv:(∀o,ops[i]?=some o->T.wr fr.fn o=true->vD T v)):m9 T d1 (fr.finish v) out:=by rw[qH ht];exact⟨zZ h.vY v hv,s1,X,e1,e2,hk⟩
theorem wO(ht:fr.todo=.inRegion ops (i :: is):: k)(v:Value):(fr.finish v).mode=fr.mode/\(fr.finish v).kind=fr.kind:=by rw[qH ht];exact⟨rfl,rfl⟩
theorem kO(hf:rI T fr out)(hr:m9 T d fr out)(hw:Wt T fr.kind out cs1)(hm:fr.mode=.run)(ht:fr.todo=.inRegion ops (i :: is):: k)(e1:s1 % 2=d1)(e2:s1 / 2=oT T fr)(hk:oR T fr.fn out (.inRegion ops is :: k) s1 X)(v:Value)(hv:(∀o,ops[i]?=some o->T.wr fr.fn o=true->vD T v))
 (hs:∀cs,stepG P true (G fr (cs1++cs)) w=.go (G (fr.finish v) (cs1++cs)) w' es) (hd:deafBehind d es=d1):kF P T d fr cs1 w:=by obtain⟨m1,m2⟩:=wO ht v;refine⟨fr.finish v,cs1,w',es,d1,hs,⟨out,⟨hf.finish ht v,?_⟩,by rw[m2];exact hw⟩,fun h=>⟨h.top (fun ch he=>by rw[hm]at he;cases he),hd⟩⟩;unfold gQ;rw[m1,hm];exact hr.finish ht e1 e2 hk v hv
theorem Gj(hf:rI T fr out)(hw:Wt T fr.kind out cs1)(hm:fr.mode=.run){e:PanicEntry}(he:e.recovered=false)
 (hs:∀cs,stepG P true (G fr (cs1++cs)) w=.go (G (fr.raise [e]) (cs1++cs)) w' es):kF P T d fr cs1 w:=by
 have e0:fr.raise [e]={fr with mode:=.panicking [e]}:=by unfold Frame.raise;rw[hm]
 rw[e0]at hs;refine⟨_,cs1,w',es,d,hs,⟨out,⟨⟨hf.round,hf.EF,hf.kind,hf.j8,hf.Xi⟩,?_⟩,hw⟩,fun h=>absurd rfl (h _ (zbl ..) [e])⟩;unfold gQ;simpa using he
theorem fP{c:Code}(h1:P.funcs[f]?=some fn)(h2:(fn.name == "runtime.NumGoroutine")=false)(h3:fn.body=some c)(args:Array Value)(w:World)(es:Array Event):(callFunc f args).runT P w es=(.ok (.enter f args) w,es):=by show Sem.runT P (Sem.program fun p=>_) w es=_;simp only[Sem.runT];show Sem.runT P (match P.funcs[f]? with|none=>_|some fn=>_) w es=_;rw[h1];simp only[h2,h3,Option.isNone_some,Bool.false_eq_true,if_false];rfl
theorem MO(hT:gY P T)(hf:rI T fr out)(hr:m9 T d fr out)(hw:Wt T fr.kind out cs1)(hm:fr.mode=.run)(ht:fr.todo=.inRegion ops (i :: is):: k)(ho:ops[i]?=some o)(zY:T.wr fr.fn o=false){b:Nat}(hi:T.j8 f d=some b)(e1:s1 % 2=b)(e2:s1 / 2=oT T fr)(hk:oR T fr.fn out (.inRegion ops is :: k) s1 X)(args:Array Value)(ha:∀n∈T.vY f,vD T (args.getD n undef)):
 AG T d (Frame.enter P f args .normal) (fr :: cs1):=by
 obtain⟨fn,c,h1,h2,h3,r,h4,h5⟩:=hT.j8 f d b hi;refine⟨b,⟨⟨rfl,(fun x hx=>by simp[Frame.enter]at hx),.inl rfl,⟨d,hi⟩,.inr (.inl rfl)⟩,?_⟩,out,hf,hw,.inl ⟨rfl,hm,fun v=>?_⟩⟩
 ·show m9 T d _ b;have hd2:d<2:=by obtain⟨s,X,hs,_⟩:=hr.ok;omega
  refine⟨fun n hn=>?_,d, [],Nat.mod_eq_of_lt hd2,?_,?_⟩
  ·simp only[Frame.enter]at hn⊢;have:=ha n hn;rw[zbg]at this⊢;rw[Array.getElem?_append];split
   ·exact this
   ·cases hx:(Array.replicate ((P.funcs[f]?.map (·.ntmps)).getD 0-args.size) undef)[n-args.size]? with
    |none=>exact fj
    |some y=>
     rw[Array.getElem?_replicate]at hx;split at hx
     ·cases hx;exact fj
     ·cases hx
  ·rw[Nat.div_eq_of_lt hd2];unfold oT;split<;>rfl
  ·show oR T f b [.code _] d [];rw[h1];simp only[Option.bind_some,h3,Option.getD_some];exact⟨r,h4,rfl,fun e he=>⟨h5 e he,rfl⟩⟩
 ·exact hr.finish ht e1 e2 hk v fun o' ho' hw'=>by rw[ho]at ho';cases ho';rw[zY]at hw';cases hw'
end
end
section
open Go Go.Conc
variable {P:Program}{Sb:Nat->Prop}{qt:Prop}
theorem I8(t:TypeId)(x:Place):af P Sb qt (x.get t):=by unfold Place.get;(repeat' (first|(with_reducible first|exact af.pure' _|exact oq ..)|dsimp only|split|intro _))
theorem B6:∀(l:List FieldStep) (t:TypeId) (x:Place),af P Sb qt (follow l t x)
 | [],t,x=>af.pure
 |s :: l,t,x=>by have ih:=B6 l;unfold follow;repeat' (first|exact I8 ..|(repeat' (first|(with_reducible first|exact af.pure|exact aG ..|exact aF ..|exact Ks ..|exact iC ..|exact Bb ..|exact ih ..|refine af.bind ?_ (fun _=>?_)|refine bn ?_ ?_)|dsimp only|split|intro _)))
theorem S3(a:Array TypeId)(t:TypeId)(p:Value)(x y:ByteArray):af P Sb qt (Builtin.ssaWrapNilChk_ a t #[p,.string x,.string y]):=by
 cases p with
 |pointer o=>
  cases o with
  |some ad=>exact af.pure
  |none=>
   refine af.bind (cX _) fun n=>?_;(repeat' (first|(with_reducible first|exact af.pure|exact af.halt|exact cX ..|exact aG ..|exact eG ..|exact fY ..|exact aF ..|exact bN ..|refine af.bind ?_ (fun _=>?_)|refine bn ?_ ?_)|dsimp only|split|intro _))
 |_=>exact af.halt
theorem Bl(t:TypeId)(x:Place)(b:Bool)(s:Option String):af P Sb qt (receiverAt t x b s):=by unfold receiverAt;repeat' (first|exact I8 ..|exact S3 ..|(repeat' (first|(with_reducible first|exact af.pure' _|exact aG ..|exact aF ..|exact oq ..|exact iC ..|refine cM ?_|refine af.bind ?_ (fun _=>?_))|dsimp only|split|intro _)))
theorem B7:∀(n:Nat) (t:TypeId) (v:Value) (s:String),af P Sb qt (method n t v s)
 | 0,t,v,s=>af.halt
 |n+1,t,v,s=>by have ih:=B7 n;unfold method;repeat' (first|exact B6 ..|exact Bl ..|exact I8 ..|(repeat' (first|(with_reducible first|exact af.pure' _|exact af.halt|exact aG ..|exact fY ..|exact bN ..|exact ih ..|refine af.bind ?_ (fun _=>?_))|dsimp only|split|intro _)))
theorem I9(fn:Func)(tmps:Array Value):af P Sb qt (results fn tmps):=by
 unfold results;refine af.bind (FM fun r=>?_) fun _=>af.pure;cases r with
 |tmp t=>exact af.pure
 |cell a t=>exact af.bind (iC _) fun _=>oq ..
theorem deaf_good{α:Type}{s:Sem α}{x:α}(h:af P (fun _=>False) True s)(hr:s.runT P w #[]=(.ok x w',es))(d:Nat):deafBehind d (seen P f es)=d:=by
 refine M6 (fun e he=>?_) d;obtain⟨w1,xN,h1,-,-,-,h5⟩:=h.Ar (v:=w) (w:=w) ⟨rfl,fun _ _=>rfl,fun _ h=>h.elim,rfl,rfl⟩ (by rw[<-Sem.runT_fst P s w #[],hr]) (fun _ _ _=>rfl) #[];rw[hr]at h1;cases h1;rcases h5 e he with h6|h6
 ·simp at h6
 ·exact h6.2 trivial
end
section
open Go Go.Conc
section
variable {P:Program}{T:gI}{d d1 out:Nat}{fr:Frame}{cs1:List Frame}{w:World}{ops:Array Oper}{i:Nat}{is:List Nat}{k:List Item}{o:Oper}{X:List (Nat×Nat)}
theorem Ca(hf:rI T fr out)(hm:fr.mode=.run)(ht:fr.todo=.inRegion ops (i :: is):: k)(ho:ops[i]?=some o)(Kw:Region.wanted o (yielded ops fr.tmps)=true)(cs:List Frame):stepG P true (G fr cs) w=stepG.apply P true fr cs none (execOp fr.eval o) w:=by obtain⟨fn,tmps,todo,defers,mode,kind,ro⟩:=fr;obtain rfl:ro=none:=hf.round;obtain rfl:mode=.run:=hm;obtain rfl:todo=.inRegion ops (i :: is):: k:=ht;simp only[stepG,G,stepG.exec,ho,Option.map_some,Option.getD_some];simp only at Kw;rw[Kw];simp only[if_true,stepG.oper,Frame.oper?,ho]
theorem jM(hf:rI T fr out)(hm:fr.mode=.run)(ht:fr.todo=.inRegion ops (i :: is):: k)(Kw:((ops[i]?).map (Region.wanted · (yielded ops fr.tmps))).getD false=false)(cs:List Frame):stepG P true (G fr cs) w=.go (G (fr.finish undef) cs) w #[]:=by
 obtain⟨fn,tmps,todo,defers,mode,kind,ro⟩:=fr;obtain rfl:ro=none:=hf.round;obtain rfl:mode=.run:=hm;obtain rfl:todo=.inRegion ops (i :: is):: k:=ht;have h:¬(((ops[i]?).map (Region.wanted · (yielded ops tmps))).getD false=true):=by simp only at Kw;rw[Kw];simp
 exact if_neg h
theorem Ty(hf:rI T fr out):(fr.kind == CallKind.early)=false:=by rcases hf.kind with h|h<;>rw[h]<;>rfl
theorem uq(hf:rI T fr out)(ht:fr.todo=.inRegion ops (i :: is):: k)(cs:List Frame):
 (∀v,s.runT P w #[]=(.ok (.value v) w',es)->stepG.apply P true fr cs none s w=.go (G (fr.finish v) cs) w' (seen P fr.fn es))/\
 (s.runT P w #[]=(.ok .skip w',es)->stepG.apply P true fr cs none s w=.go (G (fr.finish undef) cs) w' (seen P fr.fn es))/\
 (∀x,s.runT P w #[]=(.ok (.defer x) w',es)->stepG.apply P true fr cs none s w=.go (G ({fr with defers:=x :: fr.defers}.finish undef) cs) w' (seen P fr.fn es))/\
 (∀f args,s.runT P w #[]=(.ok (.enter f args) w',es)->stepG.apply P true fr cs none s w=.go (G (Frame.enter P f args .normal) (fr :: cs)) w' (seen P fr.fn es)):=by
 have hk:=Ty hf;refine⟨fun v h=>?_,fun h=>?_,fun x h=>?_,fun f args h=>?_⟩
 ·simp only[stepG.apply,if_true,h,hk,Bool.false_eq_true,if_false,GStep.after,Array.append_empty];rfl
 ·simp only[stepG.apply,if_true,h,hk,Bool.false_eq_true,if_false,GStep.after,Array.append_empty];rfl
 ·simp only[stepG.apply,if_true,h,hk,Bool.false_eq_true,if_false,GStep.after,Array.append_empty];rfl
 ·simp only[stepG.apply,if_true,h,hk,Bool.false_eq_true,if_false,GStep.after,Array.append_empty,ht];rfl
theorem B9(h1:o.op=.call c)(h2:c.callee=.value (.func f)):execOp fr.eval o=callFunc f (c.args.map fr.eval):=by unfold execOp;rw[h1];simp only[resolve,h2,Frame.eval,Deferred.ofValue];show invoke (.fn (.func f) #[]) (#[]++c.args.map fr.eval)=_;simp[invoke]
theorem uk{b:Builtin}(h1:o.op=.call c)(h2:c.callee=.builtin b):execOp fr.eval o=builtin b c.argTypes o.type (c.args.map fun|.const _=>true|_=>false) (c.args.map fr.eval):=by unfold execOp;rw[h1];simp only[resolve,h2];rfl
theorem F6(h1:o.op=.call c)(h2:c.callee=.value (.tmp n)){fn:Fn}{a b:Array Value}(h3:fr.tmps.getD n undef=.func fn a b)(hf:fn=.func T.cf):execOp fr.eval o=callFunc T.cf (a++c.args.map fr.eval++b):=by unfold execOp;rw[h1];simp only[resolve,h2,Frame.eval,h3,Deferred.ofValue];subst hf;rfl
theorem wJ(h1:o.op=.call c)(h2:c.callee=.value (.tmp n))(h3:∀fn a b,fr.tmps.getD n undef≠.func fn a b){nx:Next}:(execOp fr.eval o).runT P w #[]≠(.ok nx w',es):=by
 intro h;unfold execOp at h;rw[h1]at h;simp only[resolve,h2,Frame.eval]at h;have key:∀v:Value,(∀fn a b,v≠.func fn a b)->¬Sem.runT P (do let d <-Deferred.ofValue v (c.args.map fr.eval);invoke d.target d.args) w #[]=(.ok nx w',es):=by
  intro v hv h;cases v with
  |func fn a b=>exact hv fn a b rfl
  |nilFunc=>
   have e:(do let d <-Deferred.ofValue .nilFunc (c.args.map fr.eval);invoke d.target d.args)=(runtimePanic .nilDeref:Sem Next):=rfl;rw[e]at h;have:=(zW (Q:=fun _=>False)).out h;exact this
  |_=>cases h
 exact key _ h3 h
theorem zO(h1:o.op=.defer c)(h2:c.callee=.value (.func f))(es:Array Event):(execOp fr.eval o).runT P w es=(.ok (.defer {target:=.fn (.func f) #[],args:=#[]++c.args.map fr.eval}) w,es):=by unfold execOp;rw[h1];simp only[resolve,h2,Frame.eval,Deferred.ofValue];rfl
theorem wK{x:Deferred}(h:s.runT P w #[]=(.ok (.spawn x) w',es))(cs:List Frame):uj (stepG.apply P true fr cs none s w):=by simp only[stepG.apply,if_true,h];refine uj.after ?_ _;repeat' (first|exact ox ..|exact .inr (.inr ⟨_,_,_,_,rfl⟩)|split)
theorem Tz(h1:o.op=.go c):gG (fun n=>∃x,n=Next.spawn x) (execOp fr.eval o):=by unfold execOp;rw[h1];exact iW _ fun _=>.pure ⟨_,rfl⟩
theorem wI{r:Operand}{s:String}(h1:o.op=.call c)(h2:c.callee=.invoke r s):execOp fr.eval o=callMethod (fr.eval r) s (c.args.map fr.eval):=by
 unfold execOp;rw[h1];simp only[resolve,h2];have key:∀(v:Value) (asq:Array Value),invoke (.fn (.method s) #[]) (#[v]++asq)=callMethod v s asq:=by
  intro v asq;have e1:(#[v]++asq)[0]?=some v:=by simp[Array.getElem?_append]
  have e2:(#[v]++asq).extract 1 (#[v]++asq).size=asq:=by
   apply Array.ext
   ·simp
   ·intro j h1 h2;simp
  simp only[invoke,e1,e2]
 exact key _ _
theorem DL(hT:gY P T){s:String}(hs:T.Ja s=true){args:Array Value}{n:Next}(h:(callMethod v s args).runT P w #[]=(.ok n w',es)):
 ∃f args',n=.enter f args'/\T.j8 f 0=some 0/\T.vY f= []/\∀g d,deafBehind d (seen P g es)=d:=by
 cases v with
 |iface t x=>
  have e0:callMethod (.iface t x) s args=(do let (f,receiver)<-method ((<-program).types.size+Made.depth) t x s;callFunc f (#[receiver]++args)):=rfl;rw[e0,fS]at h;have e1:program.runT P w #[]=(.ok P w,#[]):=rfl;rw[e1]at h;simp only at h;rw[fS]at h;obtain⟨r,xN,hr⟩:∃r e,(method (P.types.size+Made.depth) t x s).runT P w #[]=(r,e):=⟨_,_,rfl⟩
  rw[hr]at h;cases r with
  |halt hh w1=>cases h
  |ok fx w1=>
   obtain⟨f,rc⟩:=fx;simp only at h;obtain⟨g1,g2⟩:=hT.Ja s f hs (oy _ hr);obtain⟨fn,c,q1,q2,q3,_⟩:=hT.j8 f 0 0 g1;rw[fP q1 q2 q3]at h;cases h;exact⟨f,_,rfl,g1,g2,fun g d=>deaf_good (B7 ..) hr d⟩
 |nilIface=>
  have:=(zW (Q:=fun _=>False)).out h;exact this.elim
 |_=>cases h
end
end
section
open Go Go.Conc
section
variable {P:Program}{T:gI}{d out:Nat}{fr:Frame}{cs1:List Frame}{w:World}
theorem Jx(hT:gY P T)(hf:rI T fr out)(hr:m9 T d fr out)(hw:Wt T fr.kind out cs1)(hm:fr.mode=.run)(hs:∀cs,stepG P true (G fr cs) w=stepG.apply P true fr cs none s w)(hh:s.runT P w #[]=(.halt h w',es)):kF P T d fr cs1 w\/zX P fr cs1 w:=by
 rcases zL (fr:=fr) hT.nG hf.kind hh with⟨e,es',he,hg⟩|⟨w2,hg⟩|hg
 ·exact .inl (Gj hf hw hm he fun cs=>(hs _).trans (hg _))
 ·refine .inl ⟨fr,cs1,w2,#[],d,fun cs=>(hs _).trans (hg _),⟨out,⟨hf,?_⟩,hw⟩,fun h=>⟨h,rfl⟩⟩;unfold gQ;rw[hm];exact hr
 ·refine .inr fun cs=>?_;rw[hs];exact hg _
theorem TA(hT:gY P T)(hf:rI T fr out)(hr:m9 T d fr out)(hw:Wt T fr.kind out cs1)(hm:fr.mode=.run)(hop:WQ fr)(w:World):kF P T d fr cs1 w\/zX P fr cs1 w:=by
 obtain⟨ops,i,is,k,ht⟩:=hop;obtain⟨s,X,qT,tN,hk⟩:=hr.ok;rw[ht]at hk;cases ho:ops[i]? with
 |none=>
  refine .inl (kO hf hr hw hm ht qT tN (Xh hk ho) undef (fun _ _ _=>fj) (fun cs=>jM hf hm ht (by rw[ho];rfl) _) rfl)
 |some o=>
  obtain⟨s1,h1,h2,h3⟩:=Qd hk ho;cases Kw:Region.wanted o (yielded ops fr.tmps)with
  |false=>
   have e:s1=s:=by
    rcases h2 with h2|h2
    ·unfold Region.wanted at Kw;rw[h2]at Kw;cases Kw
    ·exact h2
   subst e;exact .inl (kO hf hr hw hm ht qT tN h3 undef (fun _ _ _=>fj) (fun cs=>jM hf hm ht (by rw[ho];exact Kw) _) rfl)
  |true=>
   have hs:∀cs,stepG P true (G fr cs) w=stepG.apply P true fr cs none (execOp fr.eval o) w:=fun cs=>Ca hf hm ht ho Kw cs;have e:∃r es,(execOp fr.eval o).runT P w #[]=(r,es):=⟨_,_,rfl⟩
   obtain⟨r,es,hrun⟩:=e;cases r with
   |halt h w'=>exact Jx hT hf hr hw hm hs hrun
   |ok n w'=>
    have val:∀v,n=.value v->s1 / 2=s / 2->deafBehind d (seen P fr.fn es)=s1 % 2->(T.wr fr.fn o=true->vD T v)->kF P T d fr cs1 w\/zX P fr cs1 w:=fun v hn e2 hd hc=>by subst hn;left;exact kO hf hr hw hm ht rfl (e2.trans tN) h3 v (fun o' ho' hw'=>by rw[ho]at ho';cases ho';exact hc hw') (fun cs=>(hs _).trans ((uq hf ht _).1 v hrun)) hd
    have skp:n=.skip->s1 / 2=s / 2->deafBehind d (seen P fr.fn es)=s1 % 2->kF P T d fr cs1 w\/zX P fr cs1 w:=fun hn e2 hd=>by subst hn;left;exact kO hf hr hw hm ht rfl (e2.trans tN) h3 undef (fun _ _ _=>fj) (fun cs=>(hs _).trans ((uq hf ht _).2.1 hrun)) hd
    have plain:qE o.op=true->s1=s->(∀v,n=.value v->T.wr fr.fn o=true->vD T v)->kF P T d fr cs1 w\/zX P fr cs1 w:=fun hp e hc=>by
     have hd:=deaf_good (f:=fr.fn) (xP (ρ:=fr.eval) hp) hrun d;rcases(MN (ρ:=fr.eval) hp).out hrun with⟨v,hv⟩|hv
     ·exact val v hv (by rw[e]) (by rw[hd,e,qT]) (hc v hv)
     ·exact skp hv (by rw[e]) (by rw[hd,e,qT])
    have ent:∀f b args,n=.enter f args->deafBehind d (seen P fr.fn es)=d->T.j8 f d=some b->s1 % 2=b->s1 / 2=s / 2->T.wr fr.fn o=false->(∀m∈T.vY f,vD T (args.getD m undef))->kF P T d fr cs1 w\/zX P fr cs1 w:=fun f b args hn UJ hi hb e2 zY ha=>by subst hn;exact .inl ⟨Frame.enter P f args .normal,fr :: cs1,w',seen P fr.fn es,d,fun cs=>(hs _).trans ((uq hf ht _).2.2.2 f args hrun),MO hT hf hr hw hm ht ho zY hi hb (e2.trans tN) h3 args ha,fun h=>⟨fun c hc=>h c (zbc _ hc),UJ⟩⟩
    have aby:∀f b args,T.j8 f d=some b->s1 % 2=b->s1 / 2=s / 2->T.wr fr.fn o=false->(∀m∈T.vY f,vD T (args.getD m undef))->execOp fr.eval o=callFunc f args->kF P T d fr cs1 w\/zX P fr cs1 w:=fun f b args hi hb e2 zY ha he=>by obtain⟨fn,c,g1,g2,g3,_⟩:=hT.j8 f d b hi;have jo:=hrun;rw[he,fP g1 g2 g3]at jo;cases jo;exact ent f b args rfl rfl hi hb e2 zY ha
    unfold gI.S5 at h1;cases hop:o.op with
    |call c=>
     rw[hop]at h1;simp only at h1;split at h1
     ·cases h1
     ·rename_i zY;have zY:T.wr fr.fn o=false:=by simpa using zY
      have vx:∀v,n=.value v->s1 / 2=s / 2->deafBehind d (seen P fr.fn es)=s1 % 2->kF P T d fr cs1 w\/zX P fr cs1 w:=fun v hn e2 hd=>val v hn e2 hd fun hh=>by rw[zY]at hh;cases hh
      cases hc:c.callee with
      |invoke r nm=>
       rw[hc]at h1;simp only at h1;split at h1
       ·rename_i hh;obtain⟨hme,rfl⟩:=hh;cases h1;have jo:=hrun;rw[wI hop hc]at jo;obtain⟨f,args,hn,hi,uH,hd⟩:=DL hT hme jo;have hd0:d=0:=qT.symm;subst hd0;exact ent f 0 args hn (hd _ _) hi rfl rfl zY (by rw[uH];intro m hm;cases hm)
       ·cases h1
      |builtin b=>
       rw[hc]at h1;simp only at h1;split at h1
       ·rename_i hb;cases h1;have jo:=hrun;rw[uk hop hc]at jo;have hd:=deaf_good (f:=fr.fn) (I7 hb ..) jo d;rcases(DN hb ..).out jo with⟨v,hv⟩|hv
        ·exact vx v hv rfl (hd.trans qT.symm)
        ·exact skp hv rfl (hd.trans qT.symm)
       ·cases h1
      |value x=>
       cases x with
       |tmp m=>
        rw[hc]at h1;simp only at h1;split at h1
        ·rename_i hh;obtain⟨hm1,rfl⟩:=hh;cases h1;have hd0:d=0:=qT.symm;subst hd0;have uH:=hr.vY m (by simpa using hm1);cases hv:fr.tmps.getD m undef with
         |func fn a b=>
          have hfn:=uH fn a b hv;exact aby T.cf 0 _ hT.cf.1 rfl rfl zY (by rw[hT.cf.2];intro m hm;cases hm) (F6 hop hc hv hfn)
         |_=>exact absurd hrun (wJ hop hc (fun fn a b=>by rw[hv];intro h;cases h))
        ·cases h1
       |func f=>
        rw[hc]at h1;simp only at h1;split at h1
        ·rename_i agh;have hex:=B9 (fr:=fr) (o:=o) hop hc;have jo:=hrun;rw[hex]at jo;obtain⟨e,yM,h1⟩:=zbd.1 h1;have he2:e<2:=by
          by_cases hx:e<2
          ·exact hx
          ·rw[if_neg hx]at h1;cases h1
         rw[if_pos he2]at h1;cases h1;have q1:(e+2*(s / 2))% 2=e:=by omega
         have q2:(e+2*(s / 2))/ 2=s / 2:=by omega
         rw[qT]at yM;unfold gI.fD at yM;split at yM
         ·rename_i Qb;subst Qb;obtain⟨⟨v,hv⟩,hd⟩:=hT.Nk _ _ _ _ _ jo;exact vx v hv q2 (by rw[hd,q1];cases yM;rfl)
         ·split at yM
          ·rename_i _ Qb;subst Qb;obtain⟨v,xK,hx,hd⟩:=hT.en (c.args.map fr.eval) w;rw[hx]at jo;cases jo;split at yM
           ·cases yM
           ·exact vx v rfl q2 (by rw[hd,q1];cases yM;rfl)
          ·split at yM
           ·rename_i hx;obtain⟨⟨v,hv⟩,hd⟩:=hT.ext f hx _ _ _ _ _ jo;exact vx v hv q2 (by rw[hd,q1];cases yM;rfl)
           ·refine aby f e _ yM q1 q2 zY (fun m hm=>?_) hex;have:=List.all_eq_true.1 agh m hm;rw[zbg,Array.getElem?_map];cases hq:c.args[m]? with
            |none=>exact fj
            |some x=>
             rw[hq]at this;simp only[Option.map_some,Option.getD_some]at this⊢;cases x with
             |tmp t=>exact hr.vY t (by simpa[gI.kG]using this)
             |func g=>
              intro fn a' c' he;simp only[Frame.eval,Value.func.injEq]at he;have hg:g=T.cf:=by simpa[gI.kG]using this
              rw[<-he.1,hg]
             |_=>simp[gI.kG]at this
        ·cases h1
       |_=>rw[hc]at h1;cases h1
    |go c=>
     obtain⟨x,rfl⟩:=(Tz (fr:=fr) hop).out hrun;refine .inr fun cs=>?_;rw[hs];exact wK hrun _
    |defer c=>
     rw[hop]at h1;simp only at h1;cases hc:c.callee with
     |value x=>
      cases x with
      |func f=>
       rw[hc]at h1;simp only at h1;split at h1
       ·cases h1
       rename_i zY;have jo:=zO (fr:=fr) (P:=P) (w:=w) hop hc #[];have more:∀(ds:List Deferred),ds={target:=.fn (.func f) #[],args:=#[]++c.args.map fr.eval}:: fr.defers->rI T {fr with defers:=ds} out->s1 % 2=d->s1 / 2=oT T {fr with defers:=ds}->kF P T d fr cs1 w:=by intro ds hds hf' e1 e2;obtain⟨m1,m2⟩:=wO (fr:={fr with defers:=ds}) ht undef;refine⟨({fr with defers:=ds}:Frame).finish undef,cs1,w,seen P fr.fn #[],d,fun cs=>(hs _).trans (by rw[hds];exact(uq hf ht _).2.2.1 _ jo),⟨out,⟨hf'.finish ht undef,?_⟩,by rw[m2];exact hw⟩,fun h=>⟨h.top (fun ch he=>by rw[hm]at he;cases he),rfl⟩⟩;have m3:=m1.trans hm;unfold gQ;rw[m3];rw[qH (fr:={fr with defers:=ds}) ht];exact⟨zZ hr.vY undef (fun _ _ _=>fj),s1,X,e1,e2,h3⟩
       split at h1
       ·rename_i mI;split at h1
        ·rename_i Qb;cases h1;left;refine more _ rfl ⟨hf.round,fun x hx=>?_,hf.kind,hf.j8,.inl mI⟩ (by omega) ?_
         ·rcases zbk.1 hx with rfl|hx
          ·exact⟨#[],by simp only[mI,if_true,Qb]⟩
          ·exact hf.EF x hx
         ·have:oT T fr=fr.defers.length:=by unfold oT;rw[if_pos mI]
          rw[this]at tN;unfold oT;simp only[mI,if_true,List.length_cons];omega
        ·cases h1
       ·rename_i mI;split at h1
        ·rename_i hh;obtain⟨Qb,hz⟩:=hh;cases h1;have hout:out=0:=by
          obtain⟨a,ha⟩:=hf.j8;have h2:=hT.two _ _ _ ha;rcases Nat.lt_or_ge a 1 with h3|h3
          ·obtain rfl:a=0:=by omega
           rw[hz.1]at ha;cases ha;rfl
          ·obtain rfl:a=1:=by omega
           rw[hz.2]at ha;cases ha
         left;refine more _ rfl ⟨hf.round,fun x hx=>?_,hf.kind,hf.j8,.inr (.inr hout)⟩ qT ?_
         ·rcases zbk.1 hx with rfl|hx
          ·exact⟨#[],by simp only[mI,Bool.false_eq_true,if_false,Qb]⟩
          ·exact hf.EF x hx
         ·unfold oT at tN⊢;rw[if_neg mI]at tN;simp only[mI,Bool.false_eq_true,if_false];exact tN
        ·cases h1
      |_=>rw[hc]at h1;cases h1
     |_=>rw[hc]at h1;cases h1
    |move x=>
     rw[hop]at h1;simp only at h1;split at h1
     ·cases h1
     ·rename_i hh;refine plain (by rw[hop];rfl) (by cases h1;rfl) fun v hv zY=>?_;have hx:T.kG fr.fn x=true:=by
       cases hq:T.kG fr.fn x with
       |true=>rfl
       |false=>exact absurd ⟨zY,hq⟩ hh
      have he:v=fr.eval x:=by unfold execOp at hrun;rw[hop]at hrun;cases hrun;cases hv;rfl
      subst he;cases x with
      |tmp t=>exact hr.vY t (by simpa[gI.kG]using hx)
      |func g=>
       intro fn a' c' he;simp only[Frame.eval,Value.func.injEq]at he;have hg:g=T.cf:=by simpa[gI.kG]using hx
       rw[<-he.1,hg]
      |_=>simp[gI.kG]at hx
    |assign x=>
     rw[hop]at h1;simp only at h1;split at h1
     ·cases h1
     ·rename_i hh;refine plain (by rw[hop];rfl) (by cases h1;rfl) fun v hv zY=>?_;have hx:T.kG fr.fn x=true:=by
       cases hq:T.kG fr.fn x with
       |true=>rfl
       |false=>exact absurd ⟨zY,hq⟩ hh
      have he:v=fr.eval x:=by unfold execOp at hrun;rw[hop]at hrun;cases hrun;cases hv;rfl
      subst he;cases x with
      |tmp t=>exact hr.vY t (by simpa[gI.kG]using hx)
      |func g=>
       intro fn a' c' he;simp only[Frame.eval,Value.func.injEq]at he;have hg:g=T.cf:=by simpa[gI.kG]using hx
       rw[<-he.1,hg]
      |_=>simp[gI.kG]at hx
    |makeFunc fn a b=>
     rw[hop]at h1;simp only at h1;split at h1
     ·cases h1
     ·rename_i hh;refine plain (by rw[hop];rfl) (by cases h1;rfl) fun v hv zY=>?_;have he:v=.func fn (a.map fr.eval) (b.map fr.eval):=by unfold execOp at hrun;rw[hop]at hrun;cases hrun;cases hv;rfl
      subst he;intro fn' a' c' he;cases he;cases fn with
      |func f=>
       have:f=T.cf:=by
        cases hq:f == T.cf with
        |true=>simpa using hq
        |false=>exact absurd ⟨zY,hq⟩ hh
       rw[this]
      |_=>exact absurd ⟨zY,rfl⟩ hh
    |_=>
     rw[hop]at h1;simp only at h1;split at h1
     ·rename_i hh;exact plain (by rw[hop];exact hh.1) (by cases h1;rfl) fun v hv zY=>by rw[hh.2]at zY;cases zY
     ·cases h1
end
end
section
open Go Go.Conc
section
variable {P:Program}{T:gI}{d out:Nat}{fr:Frame}{cs1:List Frame}{w:World}
theorem z4(c:Frame)(v:Value):(c.finish v).fn=c.fn/\(c.finish v).defers=c.defers/\(c.finish v).mode=c.mode/\(c.finish v).kind=c.kind/\(c.finish v).roundOf=c.roundOf:=by unfold Frame.finish;split<;>exact⟨rfl,rfl,rfl,rfl,rfl⟩
theorem rI.fin{c:Frame}(h:rI T c out)(v:Value):rI T (c.finish v) out:=by obtain⟨e1,e2,e3,e4,e5⟩:=z4 c v;exact⟨by rw[e5];exact h.round,by rw[e2,e1];exact h.EF,by rw[e4];exact h.kind,by rw[e1];exact h.j8,by rw[e2,e1];exact h.Xi⟩
theorem rI.rai{c:Frame}(h:rI T c out)(ch:List PanicEntry):rI T (c.raise ch) out:=by unfold Frame.raise;split<;>exact⟨h.round,h.EF,h.kind,h.j8,h.Xi⟩
def Leave(fr:Frame)(cs1:List Frame):Prop:=cs1= []/\fr.mode≠.run/\fr.defers= []
theorem Gl(hT:gY P T)(hf:rI T fr out)(hmo:gQ T d fr out)(hw:Wt T fr.kind out cs1)(hm:fr.mode≠.run)(w:World):kF P T d fr cs1 w\/zX P fr cs1 w\/Leave fr cs1:=by
 have hu:∀cs,stepG P true (G fr cs) w=unwind P true fr cs none w:=fun cs=>by simp only[stepG,G]
 obtain⟨a0,Qe⟩:=hf.j8;obtain⟨fn0,c0,g1,g2,g3,_⟩:=hT.j8 _ _ _ Qe;cases hd:fr.defers with
 |cons x ds=>
  left;obtain⟨cap,hx⟩:=hf.EF x (by rw[hd];exact zbl ..);by_cases mI:T.den fr.fn=true
  ·rw[if_pos mI]at hx;obtain⟨v,es,q9,UJ⟩:=hT.en (x.args++cap) w;have hstep:∀cs,stepG P true (G fr cs) w=.go (G {fr with defers:=ds} cs) w (seen P fr.fn es):=fun cs=>by rw[hu];unfold unwind;rw[hd];obtain⟨tg,ar⟩:=x;obtain rfl:tg=.fn (.func T.en) cap:=hx;simp only[callDeferred];have e1:(invoke (.fn (.func T.en) cap) ar).runT P w #[]=(.ok (.value v) w,es):=q9;simp only[e1,Bool.false_and,Bool.false_eq_true,if_false,GStep.after,Array.append_empty];rfl
   have Xj:oT T fr=ds.length+1:=by unfold oT;rw[if_pos mI,hd];rfl
   have aiv:oT T {fr with defers:=ds}=ds.length:=by unfold oT;simp only[mI,if_true]
   refine⟨{fr with defers:=ds},cs1,w,seen P fr.fn es,d-1,fun cs=>hstep _,⟨out,⟨⟨hf.round,fun y hy=>hf.EF y (by rw[hd];exact zbc _ hy),hf.kind,hf.j8,.inl mI⟩,?_⟩,hw⟩,fun h=>⟨fun c hc ch he=>?_,UJ _ _⟩⟩
   ·unfold gQ at hmo⊢;simp only;cases um:fr.mode with
    |run=>exact absurd um hm
    |returning=>
     rw[um]at hmo;have JA:d=out+oT T fr:=hmo;show d-1=out+oT T _;rw[Xj]at JA;have e3:∀q:FrameMode,oT T {fr with defers:=ds,mode:=q}=ds.length:=fun q=>by unfold oT;simp only[mI,if_true]
     rw[e3];omega
    |panicking ch=>rw[um]at hmo;exact hmo
   ·rcases zbk.1 hc with rfl|hc
    ·exact h {c with defers:=ds} (zbl ..) ch he
    ·exact h c (zbc _ hc) ch he
  rw[if_neg mI]at hx;have hout:out=0:=by
   rcases hf.Xi with h|h|h
   ·exact absurd h mI
   ·rw[hd]at h;cases h
   ·exact h
  subst hout;have Xj:oT T fr=0:=by unfold oT;rw[if_neg mI]
  obtain⟨fn,c,q1,q2,q3,r,q4,q5⟩:=hT.j8 _ _ _ hT.Cb.1;have hstep:∀cs,stepG P true (G fr cs) w=.go (G (Frame.enter P T.Cb (x.args++cap) .deferred) ({fr with defers:=ds}:: cs)) w #[]:=fun cs=>by rw[hu];unfold unwind;rw[hd];obtain⟨tg,ar⟩:=x;obtain rfl:tg=.fn (.func T.Cb) cap:=hx;simp only[callDeferred];have e1:(invoke (.fn (.func T.Cb) cap) ar).runT P w #[]=(.ok (.enter T.Cb (ar++cap)) w,#[]):=fP q1 q2 q3 _ _ _;simp only[e1,Bool.false_and,Bool.false_eq_true,if_false];rfl
  have hf':rI T {fr with defers:=ds} 0:=⟨hf.round,fun x hx=>hf.EF x (by rw[hd];exact zbc _ hx),hf.kind,hf.j8,.inr (.inr rfl)⟩
  refine⟨_,{fr with defers:=ds}:: cs1,w,#[],0,fun cs=>hstep _,⟨0,⟨⟨rfl,(fun x hx=>by simp[Frame.enter]at hx),.inr rfl,⟨0,hT.Cb.1⟩,.inr (.inl rfl)⟩,?_⟩,0,hf',hw,.inr ⟨rfl,hm,?_⟩⟩,fun h=>⟨fun c hc ch he=>?_,?_⟩⟩
  ·show m9 T 0 _ 0;refine⟨fun n hn=>?_,0, [],rfl,?_,?_⟩
   ·rw[show (Frame.enter P T.Cb (x.args++cap) CallKind.deferred).fn=T.Cb from rfl,hT.Cb.2]at hn;cases hn
   ·unfold oT;split<;>rfl
   ·show oR T T.Cb 0 [.code _] 0 [];rw[q1];simp only[Option.bind_some,q3,Option.getD_some];exact⟨r,q4,rfl,fun e he=>⟨q5 e he,rfl⟩⟩
  ·unfold gQ at hmo⊢;simp only;cases um:fr.mode with
   |run=>exact absurd um hm
   |returning=>
    show (0:Nat)=0+oT T _;have e3:∀q:FrameMode,oT T {fr with defers:=ds,mode:=q}=0:=fun q=>by unfold oT;rw[if_neg mI]
    rw[e3]
   |panicking ch=>rw[um]at hmo;exact hmo
  ·rcases zbk.1 hc with rfl|hc
   ·exact h {c with defers:=ds} (zbc _ (zbl ..)) ch he
   ·exact h c (zbc _ (zbc _ hc)) ch he
  ·unfold gQ at hmo;cases um:fr.mode with
   |run=>exact absurd um hm
   |returning=>
    rw[um]at hmo;have JA:d=0+oT T fr:=hmo;rw[Xj]at JA;exact JA
   |panicking ch=>exact absurd um (h {fr with defers:=ds} (zbc _ (zbl ..)) ch)
 |nil=>
  cases cs1 with
  |nil=>exact .inr (.inr ⟨rfl,hm,hd⟩)
  |cons c rest=>
   obtain⟨out',Ld,Xq,iF⟩:=hw;cases um:fr.mode with
   |run=>exact absurd um hm
   |panicking ch=>
    left;unfold gQ at hmo;rw[um]at hmo;have yA:fr.catches P=false:=by unfold Frame.catches;rw[g1]
    have hk:(c.raise ch).kind=c.kind:=by unfold Frame.raise;split<;>rfl
    have agi:∃ch',(c.raise ch).mode=.panicking ch'/\∀e∈ch',e.recovered=false:=by
     unfold Frame.raise;split
     ·rename_i ch' Ay;refine⟨_,rfl,fun e he=>?_⟩;rcases List.mem_append.1 he with he|he
      ·exact hmo e he
      ·rcases iF with⟨_,h2,_⟩|⟨_,_,h3⟩
       ·rw[Ay]at h2;cases h2
       ·unfold gQ at h3;rw[Ay]at h3;exact h3 e he
     ·exact⟨_,rfl,hmo⟩
    obtain⟨ch',hp1,Rp⟩:=agi;refine⟨c.raise ch,rest,w,#[],d,fun cs=>?_,⟨out',⟨Ld.rai ch,?_⟩,by rw[hk];exact Xq⟩,fun h=>absurd hp1 (h _ (zbl ..) ch')⟩
    ·rw[hu];unfold unwind;rw[hd];simp only[um,yA,Bool.false_eq_true,if_false,List.cons_append];rfl
    ·unfold gQ;rw[hp1];exact Rp
   |returning=>
    unfold gQ at hmo;rw[um]at hmo;have abz:oT T fr=0:=by unfold oT;rw[hd];split<;>rfl
    obtain rfl:d=out:=by have JA:d=out+oT T fr:=hmo;rw[abz]at JA;exact JA
    have e0:∃r es,(results fn0 fr.tmps).runT P w #[]=(r,es):=⟨_,_,rfl⟩
    obtain⟨r,es,hrun⟩:=e0;cases r with
    |halt h w'=>
     refine .inr (.inl fun cs=>.inl ?_);rw[hu];unfold unwind;rw[hd];simp only[um,g1,hrun];cases h<;>exact⟨_,_,_,rfl⟩
    |ok v w'=>
     left;have UJ:=deaf_good (f:=fr.fn) (I9 fn0 fr.tmps) hrun d;have Qf:∀cs,stepG P true (G fr cs) w=(doReturn P true fr cs none v w').after (seen P fr.fn es):=fun cs=>by rw[hu];unfold unwind;rw[hd];simp only[um,g1,hrun]
     rcases iF with⟨hk,hcm,hrv⟩|⟨hk,hcm,F7⟩
     ·obtain⟨e1,e2,e3,e4,e5⟩:=z4 c v;refine⟨c.finish v,rest,w',seen P fr.fn es,d,fun cs=>?_,⟨out',⟨Ld.fin v,?_⟩,by rw[e4];exact Xq⟩,fun h=>⟨fun c' Ay ch he=>?_,UJ⟩⟩
      ·rw[Qf];simp only[List.cons_append,doReturn,hk,GStep.after,Array.append_empty];rfl
      ·unfold gQ;rw[e3,hcm];exact hrv v
      ·rcases zbk.1 Ay with rfl|Ay
       ·rw[um]at he;cases he
       ·rcases zbk.1 Ay with rfl|Ay
        ·rw[hcm]at he;cases he
        ·exact h c' (zbc _ Ay) ch he
     ·refine⟨c,rest,w',seen P fr.fn es,d,fun cs=>?_,⟨out',⟨Ld,F7⟩,Xq⟩,fun h=>⟨fun c' Ay ch he=>?_,UJ⟩⟩
      ·rw[Qf];simp only[List.cons_append,doReturn,hk];split
       ·rename_i v' g' older GU;unfold gQ at F7;rw[GU]at F7;have:=F7 _ (zbl ..);simp at this
       ·simp only[GStep.after,Array.append_empty];rfl
      ·rcases zbk.1 Ay with rfl|Ay
       ·rw[um]at he;cases he
       ·exact h c' Ay ch he
theorem zn(hT:gY P T)(h:AG T d fr cs1)(w:World):kF P T d fr cs1 w\/zX P fr cs1 w\/QD T fr\/Leave fr cs1:=by
 obtain⟨out,⟨hf,hmo⟩,hw⟩:=h;by_cases hm:fr.mode=.run
 ·have hr:m9 T d fr out:=by unfold gQ at hmo;rw[hm]at hmo;exact hmo
  rcases QE (P:=P) hf hr hw hm w with h|h|h|h
  ·exact .inl h
  ·exact .inr (.inl h)
  ·exact .inr (.inr (.inl h))
  ·exact(TA hT hf hr hw hm h w).imp id .inl
 ·exact(Gl hT hf hmo hw hm w).imp id (Or.imp id .inr)
end
end
section
open Go Go.Conc
section
variable {P:Program}{T:gI}
theorem xp{a:Goroutine}{o:Outcome}(h:stepG P true a w=.ended o w' es):(runT P (solo a w) 0).1=.ended o w':=by simp[runT,solo,Array.swapAt!,Array.swapAt,h,GStep.es]
theorem gA{a:Goroutine}{o:Outcome}(hs:a.status=.running)(h:stepG P true a w=.ended o w' es):step P (solo a w)=.ended o w':=by rw[step,stepT_solo hs,xp h]
theorem endWith_ended(w:World)(n:Nat)(b:ByteArray)(o:Outcome):∃o' w' es,endWith w n b o=.ended o' w' es:=by unfold endWith;dsimp only;repeat' (first|exact⟨_,_,_,rfl⟩|split)
theorem DO{a:Goroutine}(hs:a.status=.blocked):∃o w',step P (solo a w)=.ended o w':=by
 have h1:runnable (solo a w).gs (solo a w).world.os.mono= []:=by simp[solo,runnable_eq,Goroutine.canRun,List.range_succ,hs]
 unfold step stepT move;simp only[solo]at h1⊢;simp[ask,askOn,h1,due,ahead,pure,hs];obtain⟨o,w',es,he⟩:=endWith_ended w 2 (bytes ("fatal error: all goroutines are asleep - deadlock!\n")) (.fatal "all goroutines are asleep - deadlock!");rw[he];exact⟨_,_,rfl⟩
theorem DQ{a:Goroutine}(hs:a.status=.waiting):step P (solo a w)=.next (solo a w):=by
 have h1:runnable (solo a w).gs (solo a w).world.os.mono= []:=by simp[solo,runnable_eq,Goroutine.canRun,List.range_succ,hs]
 unfold step stepT move;simp only[solo]at h1⊢;simp[ask,askOn,h1,due,ahead,pure,hs]
theorem DR(fr:Frame)(d:Dying)(f:Fatal)(w:World)(hc:d.calling=false):(∃o w' es,writeOn P fr d f w=.ended o w' es)\/∃g' w' es,writeOn P fr d f w=.go g' w' es/\Cj g':=by
 unfold writeOn;dsimp only;split
 ·exact .inl ⟨_,_,_,rfl⟩
 ·split
  ·exact .inr ⟨_,_,_,rfl,.inr (.inr ⟨rfl,_,_,rfl,hc,rfl⟩)⟩
  ·exact .inr ⟨_,_,_,rfl,.inl rfl⟩
  ·exact .inl ⟨_,_,_,rfl⟩
  ·exact .inl ⟨_,_,_,rfl⟩
theorem MP{m:Machine}(h:Cj g)(hs:step P (solo g w)=.next m):∃g' w',m=solo g' w'/\Cj g':=by
 rcases h with h|h|⟨h,d,f,h1,h2,h3⟩
 ·obtain⟨o,w',he⟩:=DO (P:=P) (w:=w) h;rw[he]at hs;cases hs
 ·rw[DQ h]at hs;cases hs;exact⟨g,w,rfl,.inr (.inl h)⟩
 ·have e:stepG P true g w=writeOn P g.frame d f w:=by obtain⟨fr,cs,st,dy,off⟩:=g;obtain⟨todo,texts,calling,pending,re,hand,fatal⟩:=d;simp only at h1 h2 h3;subst h1 h2 h3;rfl
  rcases DR (P:=P) g.frame d f w h2 with⟨o,w',es,he⟩|⟨g',w',es,he,hd⟩
  ·rw[gA h (e.trans he)]at hs;cases hs
  ·rw[step_solo_go h (e.trans he)]at hs;cases hs;exact⟨g',w',rfl,hd⟩
theorem sI:∀(n:Nat) {g:Goroutine} {w:World} {fr:Frame} {cs:List Frame} {w':World},Cj g->runN P n (solo g w)≠.next (lone fr cs w')
 | 0,g,w,fr,cs,w',h,hr=>by
   rw[lone_eq_solo]at hr;simp only[runN,Stepped.next.injEq,solo,Machine.mk.injEq,Array.mk.injEq,List.cons.injEq,and_true]at hr;obtain⟨_,rfl⟩:=hr;rcases h with h|h|⟨_,d,f,h1,_⟩
   ·cases h
   ·cases h
   ·cases h1
 |n+1,g,w,fr,cs,w',h,hr=>by
  unfold runN at hr;cases hs:step P (solo g w)with
  |ended o w2=>rw[hs]at hr;cases hr
  |next m=>
   rw[hs]at hr;obtain⟨g',w2,rfl,hd⟩:=MP h hs;exact sI n hd hr
theorem sJ:∀(n:Nat) {m:Machine} {fr:Frame} {cs:List Frame} {w':World},1<m.gs.size->runN P n m≠.next (lone fr cs w')
 | 0,m,fr,cs,w',h,hr=>by simp only[runN,Stepped.next.injEq]at hr;subst hr;simp[lone]at h
 |n+1,m,fr,cs,w',h,hr=>by
  unfold runN at hr;cases hs:step P m with
  |ended o w2=>rw[hs]at hr;cases hr
  |next m2=>
   rw[hs]at hr;exact sJ n (Nat.lt_of_lt_of_le h (stepT_size P m m2 true hs)) hr
inductive LR(P:Program):Frame->List Frame->World->List (FuncId×String×Array Event)->Frame->List Frame->World->Prop
 |refl {fr:Frame} {c:List Frame} {w:World}:LR P fr c w [] fr c w
 |step {fr gC fr':Frame} {c c1 c':List Frame} {w w1 w':World} {es:Array Event} {l:List (FuncId×String×Array Event)}:(∀cs,stepG P true (G fr (c++cs)) w=.go (G gC (c1++cs)) w1 es)->LR P gC c1 w1 l fr' c' w'->LR P fr c w ((fr.fn,fr.place,es):: l) fr' c' w'
def abA(d:Nat)(l:List (FuncId×String×Array Event)):Nat:=l.foldl (fun d x=>deafBehind d x.2.2) d
def cQ(P:Program):Frame:={fn:=P.funcs.size,tmps:=#[undef],todo:= [.call {target:=.nil,args:=#[]} false "fmt's door: nowhere" #[]],defers:= [],mode:=.run,kind:=.normal}
theorem MQ:Extern.next "fmt's door: nowhere" =none:=by kernel_rfl
theorem lH{cs':List Frame}(h:lone fr cs w=lone fr' cs' w'):fr=fr'/\cs=cs'/\w=w':=by simp only[lone,Machine.mk.injEq,Array.mk.injEq,List.cons.injEq,Goroutine.mk.injEq]at h;obtain⟨h1,⟨⟨h2,h3,_⟩,_⟩,_⟩:=h;exact⟨h2,h3,h1⟩
theorem wL(hT:gY P T)(hS:AG T d fr [])(hl:Leave fr []):runN P (n+1) (lone fr [cQ P] w)≠.next (lone fr' (c'++ [cQ P]) w'):=by
 obtain⟨out,⟨hf,hmo⟩,hw⟩:=hS;obtain⟨_,hm,hd⟩:=hl;have hk:fr.kind=.normal:=hw;obtain⟨a0,Qe⟩:=hf.j8;obtain⟨fn0,c0,g1,g2,g3,_⟩:=hT.j8 _ _ _ Qe;intro hr;have over:∀(x:Frame) (w1:World),(∀w,∃o w2 es,stepG P true (G x []) w=.ended o w2 es)->step P (lone fr [cQ P] w)=.next (lone x [] w1)->False:=by
  intro x w1 hx hs;unfold runN at hr;rw[hs]at hr;simp only at hr;cases n with
  |zero=>
   simp only[runN,Stepped.next.injEq]at hr;have:=(lH hr).2.1;simp at this
  |succ n=>
   unfold runN at hr;obtain⟨o,w2,es,he⟩:=hx w1;rw[lone_eq_solo,gA rfl he]at hr;cases hr
 cases um:fr.mode with
 |run=>exact hm um
 |panicking ch=>
  refine over ((cQ P).raise ch) w (fun w=>?_) (by
   rw[lone_eq_solo];refine step_solo_go (es:=#[]) rfl ?_;have yA:fr.catches P=false:=by unfold Frame.catches;rw[g1]
   simp only[stepG,G,um,unwind,hd,yA,Bool.false_eq_true,if_false])
  have yA:((cQ P).raise ch).catches P=true:=by
   have e1:P.funcs[((cQ P).raise ch).fn]?=none:=by show P.funcs[P.funcs.size]?=none;simp
   have e2: "fmt's door: nowhere".startsWith "fmt's door" =true:=by kernel_rfl
   have e3:((cQ P).raise ch).todo= [.call {target:=.nil,args:=#[]} false "fmt's door: nowhere" #[]]:=rfl;unfold Frame.catches;rw[e1,e3];simp only[e2]
  have hx:∃o w2 es,unwind P true ((cQ P).raise ch) [] none w=.ended o w2 es:=by unfold unwind;rw[show ((cQ P).raise ch).defers= []from rfl,show ((cQ P).raise ch).mode=.panicking ch from rfl];simp only[yA,if_true];exact⟨_,_,_,rfl⟩
  exact hx
 |returning=>
  have e0:∃r es,(results fn0 fr.tmps).runT P w #[]=(r,es):=⟨_,_,rfl⟩
  obtain⟨r,es,hrun⟩:=e0;cases r with
  |halt h w1=>
   have he:∃o w2 es,stepG P true (G fr [cQ P]) w=.ended o w2 es:=by simp only[stepG,G,um,unwind,hd,g1,hrun];cases h<;>exact⟨_,_,_,rfl⟩
   obtain⟨o,w2,es,he⟩:=he;unfold runN at hr;rw[lone_eq_solo,gA rfl he]at hr;cases hr
  |ok v w1=>
   refine over ((cQ P).finish v) w1 (fun w=>?_) (by rw[lone_eq_solo];refine step_solo_go (es:=seen P fr.fn es) rfl ?_;simp only[stepG,G,um,unwind,hd,g1,hrun,doReturn,hk,GStep.after,Array.append_empty])
   have hx:∃o w2 es,stepG.exec P true true ((cQ P).finish v) [] none w=.ended o w2 es:=by simp only[cQ,Frame.finish,stepG.exec,MQ,Option.elim];exact⟨_,_,_,rfl⟩
   exact hx
theorem Cd(hT:gY P T){fr':Frame}{c':List Frame}{w':World}(hp:iT fr' c'):∀(n:Nat) {d:Nat} {fr:Frame} {c:List Frame} {w:World},AG T d fr c->
 runN P n (lone fr (c++ [cQ P]) w)=.next (lone fr' (c'++ [cQ P]) w')->
 (∀(k:Nat) (f:Frame) (q:List Frame) (u:World),k<n->runN P k (lone fr (c++ [cQ P]) w)=.next (lone f q u)->¬QD T f)->
 iT fr c/\∃l d',LR P fr c w l fr' c' w'/\AG T d' fr' c'/\abA d l=d'
 | 0,d,fr,c,w,hS,hr,_=>by simp only[runN,Stepped.next.injEq]at hr;obtain⟨rfl,h2,rfl⟩:=lH hr;obtain rfl:c=c':=zbi h2;exact⟨hp, [],d,.refl,hS,rfl⟩
 |n+1,d,fr,c,w,hS,hr,hn=>by
  rcases zn hT hS w with h|h|h|h
  ·obtain⟨gC,c1,w1,es,d1,hs,oN,hd⟩:=h;have hst:step P (lone fr (c++ [cQ P]) w)=.next (lone gC (c1++ [cQ P]) w1):=step_solo_go (a:=G fr (c++ [cQ P])) rfl (hs _)
   have hr':=hr;unfold runN at hr';rw[hst]at hr';obtain⟨hp1,l,d',hl,YJ,hd'⟩:=Cd hT hp n oN hr' (fun k f q u hk hk'=>hn (k+1) f q u (by omega) (by unfold runN;rw[hst];exact hk'));obtain⟨hp0,he⟩:=hd hp1;refine⟨hp0,_,d',.step hs hl,YJ,?_⟩;rw[<-hd',<-he];rfl
  ·exfalso;rcases h [cQ P]with⟨o,w1,es,he⟩|⟨g1,w1,es,he,hg⟩|⟨g1,g2,w1,es,he⟩
   ·unfold runN at hr;rw[lone_eq_solo,gA rfl he]at hr;cases hr
   ·unfold runN at hr;rw[lone_eq_solo,step_solo_go rfl he]at hr;exact sI n hg hr
   ·unfold runN at hr;have e2:step P (lone fr (c++ [cQ P]) w)=.next (duo g1 g2 w1 none):=by rw[lone_eq_solo,step,stepT_solo rfl,runT_solo_spawn he]
    rw[e2]at hr;exact sJ n (by simp[duo]) hr
  ·exact absurd h (hn 0 fr _ w (by omega) rfl)
  ·exfalso;have hc:=h.1;subst hc;exact wL hT hS h hr
end
end
section
open Go Go.Conc
def dE(d:Nat)(e:Event):Nat:=match e.loc with|.mark .disable=>d+1|.mark .enable=>d-1|_=>d
theorem deaf_push(d:Nat)(es:Array Event)(e:Event):deafBehind d (es.push e)=dE (deafBehind d es) e:=by unfold deafBehind;rw[Array.foldl_push];rfl
theorem z5(d:Nat)(es:Array Event)(l:List Addr)(wr sy:Bool):deafBehind d (es++l.toArray.map fun a=>(⟨.cell a,wr,sy⟩:Event))=deafBehind d es:=by
 unfold deafBehind;rw[Array.foldl_append];generalize Array.foldl _ d es=x;rw[<-zbf,List.map_toArray];show List.foldl _ x (l.map fun a=>(⟨.cell a,wr,sy⟩:Event))=x;induction l with
 |nil=>rfl
 |cons a l ih=>simpa using ih
inductive BT{α:Type}:Bool->Sem α->Prop
 |pure {a:α}:BT false (.pure a)
 |load {b:Bool} {m:Mode} {a:Addr} {k:Value->Sem α}:(∀v,BT b (k v))->BT b (.load m a k)
 |store {b:Bool} {m:Mode} {a:Addr} {v:Value} {k:Sem α}:BT b k->BT b (.store m a v k)
 |new {b:Bool} {o:Obj} {k:Nat->Sem α}:(∀r,BT b (k r))->BT b (.new o k)
 |shape {b:Bool} {r:Nat} {k:Option (TypeId×Nat)->Sem α}:(∀s,BT b (k s))->BT b (.shape r k)
 |freeze {b:Bool} {a:Addr} {n:Nat} {k:Sem α}:BT b k->BT b (.freeze a n k)
 |frozen {b:Bool} {a:Addr} {k:Bool->Sem α}:(∀q,BT b (k q))->BT b (.frozen a k)
 |getObj {b:Bool} {r:Nat} {k:Obj->Sem α}:(∀o,BT b (k o))->BT b (.getObj r k)
 |setObj {b:Bool} {r:Nat} {o:Obj} {k:Sem α}:BT b k->BT b (.setObj r o k)
 |choose {b:Bool} {q:Question} {k:Nat->Sem α}:(∀n,BT b (k n))->BT b (.choose q k)
 |sys {b:Bool} {c:Sys} {k:SysRet->Sem α}:(∀r,BT b (k r))->BT b (.sys c k)
 |program {b:Bool} {k:Program->Sem α}:(∀p,BT b (k p))->BT b (.program k)
 |mark {b:Bool} {m:Mark} {k:Sem α}:m≠.disable->m≠.enable->BT b k->BT b (.mark m k)
 |Nk {k:Sem α}:BT true k->BT false (.mark .disable k)
 |en {k:Sem α}:BT false k->BT true (.mark .enable k)
 |halt {b:Bool} {h:Halt}:BT b (.halt h)
theorem NM.bt{α β:Type}{s:Sem α}{f:α->Sem β}(h:NM s)(hf:∀a,BT b (f a)):BT b (s >>= f):=by
 show BT b (s.bind f);induction h with
 |pure=>exact hf _
 |load _ ih=>exact .load fun v=>ih v
 |store _ ih=>exact .store ih
 |new _ ih=>exact .new fun r=>ih r
 |shape _ ih=>exact .shape fun s=>ih s
 |freeze _ ih=>exact .freeze ih
 |frozen _ ih=>exact .frozen fun b=>ih b
 |getObj _ ih=>exact .getObj fun o=>ih o
 |setObj _ ih=>exact .setObj ih
 |choose _ ih=>exact .choose fun n=>ih n
 |sys _ ih=>exact .sys fun n=>ih n
 |program _ ih=>exact .program fun p=>ih p
 |mark h1 h2 _ ih=>exact .mark h1 h2 ih
 |halt=>exact .halt
theorem BT.deaf{α:Type}{s:Sem α}(h:BT b s)(d:Nat):∀{w:World} {es:Array Event} {a:α} {w':World} {es':Array Event},s.runT P w es=(.ok a w',es')->deafBehind d es'=if b then deafBehind d es-1 else deafBehind d es:=by
 have push:∀{es:Array Event} {e:Event},e.loc≠.mark .disable->e.loc≠.mark .enable->deafBehind d (es.push e)=deafBehind d es:=fun h1 h2=>by
  rw[deaf_push];unfold dE;split
  ·rename_i hh;exact absurd hh h1
  ·rename_i hh;exact absurd hh h2
  ·rfl
 induction h with
 |pure=>intro w es a w' es' hr;cases hr;rfl
 |load _ ih=>
  intro w es a w' es' hr;simp only[Sem.runT]at hr;split at hr
  ·rw[ih _ hr,push (by simp) (by simp)]
  ·split at hr
   ·rw[ih _ hr,z5]
   ·cases hr
 |store _ ih=>
  intro w es a w' es' hr;rename_i m c v k _;cases v<;>simp only[Sem.runT]at hr<;>first|(cases hr;done)|(split at hr<;>split at hr<;>first|(cases hr;done)|(rw[ih hr,push (by simp) (by simp)])|(rw[ih hr,z5]))
 |new _ ih=>intro w es a w' es' hr;exact ih _ hr
 |shape _ ih=>intro w es a w' es' hr;exact ih _ hr
 |freeze _ ih=>intro w es a w' es' hr;exact ih hr
 |frozen _ ih=>intro w es a w' es' hr;exact ih _ hr
 |getObj _ ih=>
  intro w es a w' es' hr;simp only[Sem.runT]at hr;split at hr
  ·cases hr
  ·rw[ih _ hr,push (by simp) (by simp)]
  ·cases hr
 |setObj _ ih=>
  intro w es a w' es' hr;simp only[Sem.runT]at hr;split at hr
  ·cases hr
  ·rw[ih hr,push (by simp) (by simp)]
  ·cases hr
 |choose _ ih=>intro w es a w' es' hr;simp only[Sem.runT]at hr;split at hr<;>exact ih _ hr
 |sys _ ih=>intro w es a w' es' hr;rw[ih _ hr,push (by simp) (by simp)]
 |program _ ih=>intro w es a w' es' hr;exact ih _ hr
 |mark h1 h2 _ ih=>intro w es a w' es' hr;rw[ih hr,push (by simpa using h1) (by simpa using h2)]
 |Nk _ ih=>
  intro w es a w' es' hr;rw[ih hr,deaf_push];simp[dE]
 |en _ ih=>
  intro w es a w' es' hr;rw[ih hr,deaf_push];simp[dE]
 |halt=>intro w es a w' es' hr;cases hr
theorem uw(h:∀e∈es,∀m,e.loc=.mark m->e.sync=true)(d:Nat):deafBehind d (seen P f es)=deafBehind d es:=by
 unfold seen;dsimp only;have key:∀(l:List Event) (q:Bool) (kept:Array Event),(∀e∈l,∀m,e.loc=.mark m->e.sync=true)->deafBehind d (l.foldl (fun(x:Bool×Array Event) e=>match x with
  |(q,kept)=>match e.loc with
   |.mark (.extern f)=>((P.funcs[f]?).any (·.norace),kept)
   |_=>(q,if q && !e.sync then kept else kept.push e)) (q,kept)).2=l.foldl dE (deafBehind d kept):=by
  intro l
  induction l with
  |nil=>intro q kept _;rfl
  |cons x l ih=>
   intro q kept hl;have hl':=fun e he=>hl e (zbc _ he);simp only[List.foldl_cons];split
   ·rename_i hh;rw[ih _ _ hl'];congr 1;unfold dE;rw[hh]
   ·rename_i hh;rw[ih _ _ hl'];congr 1;split
    ·rename_i hq;unfold dE;split
     ·rename_i h1;have:=hl x (zbl ..) _ h1;simp[this]at hq
     ·rename_i h1;have:=hl x (zbl ..) _ h1;simp[this]at hq
     ·rfl
    ·rw[deaf_push]
 rw[<-zbf];refine Eq.trans (key es.toList ((P.funcs[f]?).any (·.norace)) #[] (fun e he=>h e (zbh.1 he))) ?_;show List.foldl dE d es.toList=Array.foldl _ d es;rw[zbf];rfl
theorem JB{α:Type}(s:Sem α):∀{w:World} {es:Array Event},(∀e∈es,∀m,e.loc=.mark m->e.sync=true)->∀e∈(s.runT P w es).2,∀m,e.loc=.mark m->e.sync=true:=by
 have push:∀{es:Array Event} {e0:Event},(∀e∈es,∀m,e.loc=.mark m->e.sync=true)->(∀m,e0.loc=.mark m->e0.sync=true)->∀e∈es.push e0,∀m,e.loc=.mark m->e.sync=true:=fun h h1 e he=>(Array.mem_push.1 he).elim (h e) fun x=>x▸h1;have app:∀{es:Array Event} (l:List Addr) (wr sy:Bool),(∀e∈es,∀m,e.loc=.mark m->e.sync=true)->∀e∈es++l.toArray.map (fun a=>(⟨.cell a,wr,sy⟩:Event)),∀m,e.loc=.mark m->e.sync=true:=fun l wr sy h e he=>by
  rcases Array.mem_append.1 he with h1|h1
  ·exact h e h1
  ·obtain⟨a,_,rfl⟩:=Array.mem_map.1 h1;intro m hm;cases hm
 induction s with
 |pure _=>intro w es h;exact h
 |load _ _ _ ih=>
  intro w es h;simp only[Sem.runT];split
  ·exact ih _ (push h (fun m hm=>by cases hm))
  ·split
   ·exact ih _ (app _ _ _ h)
   ·exact h
 |store m a v k ih=>
  intro w es h;cases v<;>simp only[Sem.runT]<;>first|exact h|(split<;>first|(split<;>first|exact h|exact ih (push h (fun m hm=>by cases hm))|exact ih (app _ _ _ h)))
 |new _ _ ih=>intro w es h;exact ih _ h
 |shape _ _ ih=>intro w es h;exact ih _ h
 |freeze _ _ _ ih=>intro w es h;exact ih h
 |frozen _ _ ih=>intro w es h;exact ih _ h
 |getObj _ _ ih=>
  intro w es h;simp only[Sem.runT];split
  ·exact h
  ·exact ih _ (push h (fun m hm=>by cases hm))
  ·exact h
 |setObj _ _ _ ih=>
  intro w es h;simp only[Sem.runT];split
  ·exact h
  ·exact ih (push h (fun m hm=>by cases hm))
  ·exact h
 |choose _ _ ih=>intro w es h;simp only[Sem.runT];split<;>exact ih _ h
 |sys _ _ ih=>intro w es h;exact ih _ (push h (fun m hm=>by cases hm))
 |program _ ih=>intro w es h;exact ih _ h
 |mark _ _ ih=>intro w es h;exact ih (push h (fun m hm=>rfl))
 |halt _=>intro w es h;exact h
theorem oB(hf:P.funcs[f]?=some fn)(hname:(fn.name == "runtime.NumGoroutine")=false)(hb:fn.body.isNone=true)(hn:Extern.findNext fn=none)(he:Extern.find fn=some e)(args:Array Value)(w:World):
 (callFunc f args).runT P w #[]=(do pure (Next.value (<-e args)):Sem Next).runT P w #[⟨.mark (.extern f),false,true⟩]:=by show Sem.runT P (Sem.program fun p=>_) w #[]=_;simp only[Sem.runT];show Sem.runT P (match P.funcs[f]? with|none=>_|some fn=>_) w #[]=_;rw[hf];simp only[hname,hb,hn,he,Bool.false_eq_true,if_false,if_true];rfl
theorem dQ(hf:P.funcs[f]?=some fn)(hname:(fn.name == "runtime.NumGoroutine")=false)(hb:fn.body.isNone=true)(hn:Extern.findNext fn=none)(he:Extern.find fn=some e)
 (xG:∀args,BT false (do pure (Next.value (<-e args)):Sem Next)) (args:Array Value) (w:World) (n:Next) (w':World) (es:Array Event) (hr:(callFunc f args).runT P w #[]=(.ok n w',es)):(∃v,n=.value v)/\∀g d,deafBehind d (seen P g es)=d:=by
 rw[oB hf hname hb hn he]at hr;have h0:∀e∈(#[⟨.mark (.extern f),false,true⟩]:Array Event),∀m,e.loc=.mark m->e.sync=true:=fun e he m _=>by simp at he;rw[he]
 refine⟨?_,fun g d=>?_⟩
 ·rcases(z6 (e args)).out hr with h|h
  ·exact h
  ·subst h;have:=(iW (Q:=fun n=>∃v,n=Next.value v) (e args) (f:=fun v=>Pure.pure (Next.value v)) fun _=>.pure ⟨_,rfl⟩).out hr;exact this
 ·have h1:=JB (P:=P) (do pure (Next.value (<-e args)):Sem Next) (w:=w) h0;rw[hr]at h1;rw[uw h1,(xG args).deaf d hr];rfl
end
section
open Go Go.Conc
theorem BT.then{α β:Type}{s:Sem α}{f:α->Sem β}(h:BT b s)(hf:∀a,BT false (f a)):BT b (s >>= f):=by
 show BT b (s.bind f);induction h with
 |pure=>exact hf _
 |load _ ih=>exact .load fun v=>ih v
 |store _ ih=>exact .store ih
 |new _ ih=>exact .new fun r=>ih r
 |shape _ ih=>exact .shape fun s=>ih s
 |freeze _ ih=>exact .freeze ih
 |frozen _ ih=>exact .frozen fun b=>ih b
 |getObj _ ih=>exact .getObj fun o=>ih o
 |setObj _ ih=>exact .setObj ih
 |choose _ ih=>exact .choose fun n=>ih n
 |sys _ ih=>exact .sys fun n=>ih n
 |program _ ih=>exact .program fun p=>ih p
 |mark h1 h2 _ ih=>exact .mark h1 h2 ih
 |Nk _ ih=>exact .Nk ih
 |en _ ih=>exact .en ih
 |halt=>exact .halt
theorem DS{s:Sem Value}(h:BT false s):BT false (do pure (Next.value (<-s)):Sem Next):=h.then fun _=>.pure
theorem fo{s:Sem Value}(h:NM s):BT false (do pure (Next.value (<-s)):Sem Next):=h.bt fun _=>.pure
theorem QF{β:Type}{f:Unit->Sem β}(h:BT true (f ())):BT false (mark .disable >>= f):=.Nk h
theorem QG{β:Type}{f:Unit->Sem β}(h:BT false (f ())):BT true (mark .enable >>= f):=.en h
theorem DT(t:Extern.Atomic.T)(a:Addr):NM (Extern.Atomic.read t a):=by unfold Extern.Atomic.read;(repeat' (first|(with_reducible first|exact NM.pure' _|exact xR ..|exact cJ ..|refine NM.bind ?_ (fun _=>?_)|refine bg ?_ ?_)|dsimp only|split|intro _))
theorem KI{α:Type}{f:α->Sem Bool}(h:∀a,NM (f a)):∀(l:List α),NM (l.anyM f)
 | []=>.pure
 |a :: l=>by
  unfold List.anyM;refine NM.bind (h a) fun b=>?_;cases b
  ·exact KI h l
  ·exact .pure
theorem vE(a:Addr):NM (Extern.Atomic.touchesFrozen a):=by unfold Extern.Atomic.touchesFrozen;repeat' (first|exact KI (fun _=>nA _) _|(repeat' (first|(with_reducible first|exact nA ..|exact cJ ..|exact qI ..|exact fZ ..|refine NM.bind ?_ (fun _=>?_)|refine bg ?_ ?_)|dsimp only|split|intro _)))
theorem KJ(t:Extern.Atomic.T)(args:Array Value):NM (Extern.Atomic.casT t args):=by
 rcases args with⟨_|⟨a0,_|⟨a1,_|⟨a2,_|⟨a3,l⟩⟩⟩⟩⟩ <;>first|exact NM.halt|skip
 refine NM.bind (iD a0) fun a=>?_;repeat' (first|exact vE _|exact DT ..|(repeat' (first|(with_reducible first|exact NM.pure' _|exact NM.halt|exact lO ..|exact aB ..|exact cJ ..|exact z7 ..|exact iD ..|refine NM.bind ?_ (fun _=>?_)|refine bg ?_ ?_)|dsimp only|split|intro _)))
theorem vF(op:IntKind->Int->Int->Sem Value)(hop:∀k x y,NM (op k x y))(k:IntKind)(b:Bool)(args:Array Value):NM (Extern.Atomic.update op k b args):=by
 rcases args with⟨_|⟨a0,_|⟨a1,_|⟨a2,l⟩⟩⟩⟩ <;>first|exact NM.halt|skip
 refine NM.bind (iD a0) fun a=>?_;repeat' (first|exact hop ..|exact DT ..|(repeat' (first|(with_reducible first|exact NM.pure' _|exact NM.halt|exact lO ..|exact j3 ..|exact iD ..|refine NM.bind ?_ (fun _=>?_))|dsimp only|split|intro _)))
theorem abB(args:Array Value):NM (Extern.Race.at_ args):=by unfold Extern.Race.at_;(repeat' (first|(with_reducible first|exact NM.pure' _|exact aB ..)|dsimp only|split|intro _))
theorem qJ(m:Addr->Mark)(h1:∀a,m a≠.disable)(h2:∀a,m a≠.enable)(args:Array Value):NM (Extern.Race.marked m args):=NM.bind (abB args) fun a=>.mark (h1 a) (h2 a) .pure
theorem JC(args:Array Value):NM (Extern.Sync.canSpin args):=by
 rcases args with⟨_|⟨a0,_|⟨a1,l⟩⟩⟩ <;>first|exact NM.halt|skip
 cases a0<;>first|exact NM.halt|skip
 show NM (if _ then _ else _);(repeat' (first|(with_reducible first|exact NM.pure' _|exact NM.halt|exact dD ..|refine NM.bind ?_ (fun _=>?_)|refine bg ?_ ?_)|dsimp only|split|intro _))
theorem JD(args:Array Value):NM (Extern.Sync.nothing args):=.pure
theorem JE(h:String->Halt)(args:Array Value):NM (Extern.Sync.die h args):=by
 rcases args with⟨_|⟨a0,_|⟨a1,l⟩⟩⟩ <;>first|exact NM.halt|skip
 cases a0<;>first|exact NM.halt|skip
 rename_i s;show NM (match String.fromUTF8? s with|some m=>_|none=>_);(repeat' (first|(with_reducible first|exact NM.halt|exact cJ ..)|dsimp only|split|intro _))
theorem TC(args:Array Value):NM (Extern.OsHooks.nano args):=by unfold Extern.OsHooks.nano Extern.OsHooks.clock;(repeat' (first|(with_reducible first|exact NM.pure' _|exact QH ..|exact aB ..|refine NM.bind ?_ (fun _=>?_))|dsimp only|split|intro _))
theorem Gm(args:Array Value):NM (Extern.Sync.count args):=by unfold Extern.Sync.count;(repeat' (first|(with_reducible first|exact NM.pure' _|exact xR ..|exact aB ..|exact cJ ..|refine NM.bind ?_ (fun _=>?_))|dsimp only|split|intro _))
theorem rK(args:Array Value):BT false (Extern.Sync.semacquire args):=by
 unfold Extern.Sync.semacquire;refine QF ((Gm args).bt fun x=>?_);obtain⟨a,n⟩:=x;dsimp only;split
 ·exact NM.bt .halt fun _=>NM.bt (lO ..) fun _=>QG .pure
 ·exact NM.bt (lO ..) fun _=>QG .pure
theorem rL(args:Array Value):BT false (Extern.Sync.semrelease args):=by unfold Extern.Sync.semrelease;refine QF ((Gm args).bt fun x=>?_);obtain⟨a,n⟩:=x;exact NM.bt (j4 ..) fun _=>NM.bt (lO ..) fun _=>QG .pure
theorem Gn(hf:P.funcs[f]?=some fn)(hname:(fn.name == "runtime.NumGoroutine")=false)(hb:fn.body.isNone=true)(hn:Extern.findNext fn=none)(he:Extern.find fn=some (fun _=>do mark m;pure Extern.Race.none_))
 (hδ:∀d,dE d ⟨.mark m,false,true⟩=δ d) (args:Array Value) (w:World) (n:Next) (w':World) (es:Array Event) (hr:(callFunc f args).runT P w #[]=(.ok n w',es)):(∃v,n=.value v)/\∀g d,deafBehind d (seen P g es)=δ d:=by rw[oB hf hname hb hn he]at hr;have e:(do pure (Next.value (<-(do mark m;pure Extern.Race.none_:Sem Value))):Sem Next).runT P w #[⟨.mark (.extern f),false,true⟩]=(.ok (.value Extern.Race.none_) w,#[⟨.mark (.extern f),false,true⟩,⟨.mark m,false,true⟩]):=rfl;rw[e]at hr;cases hr;refine⟨⟨_,rfl⟩,fun g d=>?_⟩;rw[uw (fun e he m _=>by simp at he;rcases he with rfl|rfl<;>rfl),<-hδ];rfl
theorem TD(hf:P.funcs[f]?=some fn)(hname:(fn.name == "runtime.NumGoroutine")=false)(hb:fn.body.isNone=true)(hn:Extern.findNext fn=none)(he:Extern.find fn=some (fun _=>do mark m;pure Extern.Race.none_))
 (hδ:∀d,dE d ⟨.mark m,false,true⟩=δ d) (args:Array Value) (w:World):∃v es,(callFunc f args).runT P w #[]=(.ok (.value v) w,es)/\∀g d,deafBehind d (seen P g es)=δ d:=by
 have e:(callFunc f args).runT P w #[]=(.ok (.value Extern.Race.none_) w,#[⟨.mark (.extern f),false,true⟩,⟨.mark m,false,true⟩]):=by rw[oB hf hname hb hn he];rfl
 exact⟨_,_,e,(Gn hf hname hb hn he hδ args w _ _ _ e).2⟩
theorem QI(t:Extern.Atomic.T)(args:Array Value):NM (Extern.Atomic.loadT t args):=by
 rcases args with⟨_|⟨a0,_|⟨a1,l⟩⟩⟩ <;>first|exact NM.halt|skip
 exact NM.bind (iD a0) fun a=>DT ..
theorem MT(args:Array Value):NM (Extern.Atomic.storeT args):=by
 rcases args with⟨_|⟨a0,_|⟨a1,_|⟨a2,l⟩⟩⟩⟩ <;>first|exact NM.halt|skip
 exact NM.bind (iD a0) fun a=>NM.bind (lO ..) fun _=>.pure
end
section
open Go Go.Conc
def DU:List FuncId:= [34,27,26,29,28,30,21,22,
 66,67,49,68,36,47,83,69,106,
 84,128,50,48,39,51,40,55,43,
 86,88,89,52,53,54,87,72,73,41,42,76,
 90,91,92,74,75,115,130,150,85,129,
 37,38,70,71]
def DV:List FuncId:= [8,11,7,6,31,24,45,35,16,15,46,14,9,10,12,23,44,82,17,18,19,20,25,
 77,78,116,172,169,170,171,79,117]
def DW:List FuncId:= [121,123,144,143,146]
def heard:List FuncId:= [108,110,112,113,134,135,136,137,138,139,140,
 145,125,126,127,147,142,148,149,152,151,153,
 122,124,141]
def QJ(fs:List FuncId)(f:FuncId)(d:Nat):Option Nat:=if f=111 then(if d=1 then some 0 else none)else if f=114 then(if d=1 then some 1 else none)else if fs.contains f=true then(if d=0 then some 0 else none)else if DW.contains f=true then(if d<2 then some d else none)else none
def abC(f:FuncId):List Nat:=if f=47 then [27,5,31]else if f=84 then [1,6]else if f=128 then [1,11]else []
def UL(fs:List FuncId):gI:=⟨fun f=>heard.contains f,QJ fs,107,109,abC,83,38,fun _ _=>false,fun f=>f == 117,fun s=>s == "MayWrite"⟩
def w7:gI:=UL (DU++DV)
noncomputable def okF(T:gI)(f:FuncId)(a:Nat):Bool:=
 match T.j8 f a,Tryz.prog.funcs[f]? with
 |some b,some fn=>match fn.body with
  |some c=>!(fn.name == "runtime.NumGoroutine")&&(match T.ck f b c a []with|some none=>true|some (some e)=>e % 2 == b+e / 2|none=>false)
  |none=>false
 |none,_=>true
 |_,_=>false
theorem TE{T:gI}{a b:Nat}(h:okF T f a=true)(hi:T.j8 f a=some b):∃fn c,Tryz.prog.funcs[f]?=some fn/\(fn.name == "runtime.NumGoroutine")=false/\fn.body=some c/\∃r,T.ck f b c a []=some r/\∀e,r=some e->e % 2=b+e / 2:=by
 unfold okF at h;rw[hi]at h;split at h
 ·rename_i b' fn h1 h2;cases h1;split at h
  ·rename_i c hc;simp only[Bool.and_eq_true]at h;obtain⟨h3,h4⟩:=h;refine⟨fn,c,h2,by simpa using h3,hc,?_⟩;cases hk:T.ck f b c a []with
   |none=>rw[hk]at h4;cases h4
   |some r=>
    refine⟨r,rfl,fun e he=>?_⟩;subst he;rw[hk]at h4;simpa using h4
  ·cases h
 ·rename_i h1;cases h1
 ·cases h
theorem QK:∀g,Tryz.prog.stepOf g=none:=by
 have h:(Tryz.prog.funcs.all fun f=>match f.body with|some c=>(readies c).isEmpty|none=>true)=true:=by kernel_rfl
 intro g;unfold Program.stepOf;rw[Array.findIdx?_eq_none_iff];intro f hf;have h1:=zbe.1 h f hf;cases hb:f.body with
 |none=>rfl
 |some c=>
  rw[hb]at h1;have:readies c= []:=by simpa using h1
  simp[this]
theorem MU(h:QL Tryz.prog "MayWrite" f):f=116\/f=172\/f=169:=by
 obtain⟨t,i,m,b,h1,h2,h3,h4⟩:=h;have hall:(Tryz.prog.types.all fun i=>i.methods.all fun m=>!(m.name == "MayWrite")||(match m.func with|some (f,_)=>f == 116 || f == 172 || f == 169|none=>true))=true:=by kernel_rfl
 have g1:=zbe.1 hall i (Array.mem_of_getElem? h1);have g2:=zbe.1 g1 m h2;rw[h4,h3]at g2;simpa[or_assoc]using g2
theorem CR:gY Tryz.prog w7:=by
 have h:((111 :: 114 ::(DU++DV++DW)).all fun f=>okF w7 f 0 && okF w7 f 1)=true:=by kernel_rfl
 have two:∀f a b,QJ (DU++DV) f a=some b->a<2/\f∈(111 :: 114 ::(DU++DV++DW)):=by
  intro f a b hi;unfold QJ at hi;split at hi
  ·rename_i e;split at hi
   ·rename_i e2;exact⟨by omega,by rw[e];exact zbl ..⟩
   ·cases hi
  ·split at hi
   ·rename_i e;split at hi
    ·rename_i e2;exact⟨by omega,by rw[e];exact zbc _ (zbl ..)⟩
    ·cases hi
   ·split at hi
    ·rename_i e;split at hi
     ·rename_i e2;exact⟨by omega,zbc _ (zbc _ (List.mem_append_left _ (zbj.1 e)))⟩
     ·cases hi
    ·split at hi
     ·rename_i e;split at hi
      ·rename_i e2;exact⟨e2,zbc _ (zbc _ (List.mem_append_right _ (zbj.1 e)))⟩
      ·cases hi
     ·cases hi
 refine⟨QK,fun f a b hi=>(two f a b hi).1,fun f a b hi=>?_,⟨by kernel_rfl,rfl⟩,⟨by kernel_rfl,rfl⟩,fun f hf=>?_,?_,?_,fun s f hs hn=>?_⟩
 ·obtain⟨h1,h2⟩:=two f a b hi;have h3:=List.all_eq_true.1 h f h2;simp only[Bool.and_eq_true]at h3;refine TE ?_ hi;rcases Nat.lt_or_ge a 1 with h4|h4
  ·obtain rfl:a=0:=by omega
   exact h3.1
  ·obtain rfl:a=1:=by omega
   exact h3.2
 ·have hm:f∈heard:=zbj.1 hf;simp only[heard,List.mem_cons,List.not_mem_nil,or_false]at hm;rcases hm with rfl|rfl|rfl|rfl|rfl|rfl|rfl|rfl|rfl|rfl|rfl|rfl|rfl|rfl|rfl|rfl|rfl|rfl|rfl|rfl|rfl|rfl|rfl|rfl|rfl
  ·exact dQ (e:=Extern.Atomic.casT (.int .i32)) Tryz.func108 (by kernel_rfl) (by kernel_rfl) (by kernel_rfl) (by kernel_rfl) fun args=>fo (KJ ..)
  ·exact dQ (e:=Extern.Race.marked .acquire) Tryz.func110 (by kernel_rfl) (by kernel_rfl) (by kernel_rfl) (by kernel_rfl) fun args=>fo (qJ _ (fun _=>by simp) (fun _=>by simp) _)
  ·exact dQ (e:=Extern.Race.marked .releaseMerge) Tryz.func112 (by kernel_rfl) (by kernel_rfl) (by kernel_rfl) (by kernel_rfl) fun args=>fo (qJ _ (fun _=>by simp) (fun _=>by simp) _)
  ·exact dQ (e:=Extern.Atomic.update (Op.intArith .add) .i32 true) Tryz.func113 (by kernel_rfl) (by kernel_rfl) (by kernel_rfl) (by kernel_rfl) fun args=>fo (vF _ (fun _ _ _=>j4 ..) ..)
  ·exact dQ (e:=Extern.Sync.canSpin) Tryz.func134 (by kernel_rfl) (by kernel_rfl) (by kernel_rfl) (by kernel_rfl) fun args=>fo (JC _)
  ·exact dQ (e:=Extern.Sync.nothing) Tryz.func135 (by kernel_rfl) (by kernel_rfl) (by kernel_rfl) (by kernel_rfl) fun args=>fo (JD _)
  ·exact dQ (e:=Extern.Sync.die .throw) Tryz.func136 (by kernel_rfl) (by kernel_rfl) (by kernel_rfl) (by kernel_rfl) fun args=>fo (JE _ _)
  ·exact dQ (e:=Extern.OsHooks.nano) Tryz.func137 (by kernel_rfl) (by kernel_rfl) (by kernel_rfl) (by kernel_rfl) fun args=>fo (TC _)
  ·exact dQ (e:=Extern.Sync.semacquire) Tryz.func138 (by kernel_rfl) (by kernel_rfl) (by kernel_rfl) (by kernel_rfl) fun args=>DS (rK _)
  ·exact dQ (e:=Extern.Sync.die .fatal) Tryz.func139 (by kernel_rfl) (by kernel_rfl) (by kernel_rfl) (by kernel_rfl) fun args=>fo (JE _ _)
  ·exact dQ (e:=Extern.Sync.semrelease) Tryz.func140 (by kernel_rfl) (by kernel_rfl) (by kernel_rfl) (by kernel_rfl) fun args=>DS (rL _)
  ·exact dQ (e:=Extern.Race.marked .read) Tryz.func145 (by kernel_rfl) (by kernel_rfl) (by kernel_rfl) (by kernel_rfl) fun args=>fo (qJ _ (fun _=>by simp) (fun _=>by simp) _)
  ·exact dQ (e:=Extern.Race.marked .write) Tryz.func125 (by kernel_rfl) (by kernel_rfl) (by kernel_rfl) (by kernel_rfl) fun args=>fo (qJ _ (fun _=>by simp) (fun _=>by simp) _)
  ·exact dQ (e:=fun _=>pure (.bool false)) Tryz.func126 (by kernel_rfl) (by kernel_rfl) (by kernel_rfl) (by kernel_rfl) fun args=>fo (.pure)
  ·exact dQ (e:=Extern.Sync.semacquire) Tryz.func127 (by kernel_rfl) (by kernel_rfl) (by kernel_rfl) (by kernel_rfl) fun args=>DS (rK _)
  ·exact dQ (e:=Extern.Sync.semrelease) Tryz.func147 (by kernel_rfl) (by kernel_rfl) (by kernel_rfl) (by kernel_rfl) fun args=>DS (rL _)
  ·exact dQ (e:=Extern.Sync.die .fatal) Tryz.func142 (by kernel_rfl) (by kernel_rfl) (by kernel_rfl) (by kernel_rfl) fun args=>fo (JE _ _)
  ·exact dQ (e:=Extern.Atomic.loadT (.int .u64)) Tryz.func148 (by kernel_rfl) (by kernel_rfl) (by kernel_rfl) (by kernel_rfl) fun args=>fo (QI ..)
  ·exact dQ (e:=Extern.Atomic.casT (.int .u64)) Tryz.func149 (by kernel_rfl) (by kernel_rfl) (by kernel_rfl) (by kernel_rfl) fun args=>fo (KJ ..)
  ·exact dQ (e:=Extern.Atomic.update (Op.intArith .add) .u64 true) Tryz.func152 (by kernel_rfl) (by kernel_rfl) (by kernel_rfl) (by kernel_rfl) fun args=>fo (vF _ (fun _ _ _=>j4 ..) ..)
  ·exact dQ (e:=Extern.Atomic.update (Op.intBits .or) .u64 false) Tryz.func151 (by kernel_rfl) (by kernel_rfl) (by kernel_rfl) (by kernel_rfl) fun args=>fo (vF _ (fun _ _ _=>sM ..) ..)
  ·exact dQ (e:=Extern.Atomic.storeT) Tryz.func153 (by kernel_rfl) (by kernel_rfl) (by kernel_rfl) (by kernel_rfl) fun args=>fo (MT _)
  ·exact dQ (e:=Extern.Synctest.none_) Tryz.func122 (by kernel_rfl) (by kernel_rfl) (by kernel_rfl) (by kernel_rfl) fun args=>fo .halt
  ·exact dQ (e:=Extern.Synctest.none_) Tryz.func124 (by kernel_rfl) (by kernel_rfl) (by kernel_rfl) (by kernel_rfl) fun args=>fo .halt
  ·exact dQ (e:=Extern.Synctest.none_) Tryz.func141 (by kernel_rfl) (by kernel_rfl) (by kernel_rfl) (by kernel_rfl) fun args=>fo .halt
 ·exact Gn (m:=.disable) (δ:=fun d=>d+1) Tryz.func107 (by kernel_rfl) (by kernel_rfl) (by kernel_rfl) (by kernel_rfl) fun d=>rfl
 ·exact TD (m:=.enable) (δ:=fun d=>d-1) Tryz.func109 (by kernel_rfl) (by kernel_rfl) (by kernel_rfl) (by kernel_rfl) fun d=>rfl
 ·have e:s= "MayWrite" :=by simpa[w7,UL]using hs
  subst e;rcases MU hn with rfl|rfl|rfl<;>exact⟨by kernel_rfl,rfl⟩
end
section
open Go Go.Conc
section
variable {P:Program}{T:gI}
theorem Ii(hT:gY P T){a b:Nat}(hi:T.j8 f a=some b)(h2:a<2)(args:Array Value)(ha:∀n∈T.vY f,vD T (args.getD n undef)):AG T a (Frame.enter P f args .normal) []:=by
 obtain⟨fn,c,h1,_,h3,r,h4,h5⟩:=hT.j8 f a b hi;refine⟨b,⟨⟨rfl,(fun x hx=>by simp[Frame.enter]at hx),.inl rfl,⟨a,hi⟩,.inr (.inl rfl)⟩,?_⟩,rfl⟩;show m9 T a _ b;refine⟨fun n hn=>?_,a, [],Nat.mod_eq_of_lt h2,?_,?_⟩
 ·simp only[Frame.enter]at hn⊢;have:=ha n hn;rw[zbg]at this⊢;rw[Array.getElem?_append];split
  ·exact this
  ·cases hx:(Array.replicate ((P.funcs[f]?.map (·.ntmps)).getD 0-args.size) undef)[n-args.size]? with
   |none=>exact fj
   |some y=>
    rw[Array.getElem?_replicate]at hx;split at hx
    ·cases hx;exact fj
    ·cases hx
 ·rw[Nat.div_eq_of_lt h2];unfold oT;split<;>rfl
 ·show oR T f b [.code _] a [];rw[h1];simp only[Option.bind_some,h3,Option.getD_some];exact⟨r,h4,rfl,fun e he=>⟨h5 e he,rfl⟩⟩
end
end
section
open Go Go.Conc
variable {P:Program}{Sb:Nat->Prop}{qt:Prop}
theorem F3{α:Type}{s:Sem α}{x:α}(h:∀(w:World) (es:Array Event),s.runT P w es=(.ok x w,es)):af P Sb qt s:=by constructor;intro v w y v' hs hr hg es;rw[<-Sem.runT_fst P s v #[],h]at hr;cases hr;exact⟨w,es,h w es,hs,rfl,by omega,fun e he=>.inl he⟩
theorem F4{c:Code}(h1:P.funcs[f]?=some fn)(h2:(fn.name == "runtime.NumGoroutine")=false)(h3:fn.body=some c)(args:Array Value):af P Sb qt (callFunc f args):=F3 (fP h1 h2 h3 args)
theorem rH(hf:P.funcs[f]?=some fn)(hname:(fn.name == "runtime.NumGoroutine")=false)(hb:fn.body.isNone=true)(hn:Extern.findNext fn=none)(he:Extern.find fn=some e)(args:Array Value)(w:World)(es:Array Event):
 (callFunc f args).runT P w es=(do pure (Next.value (<-e args)):Sem Next).runT P w (es.push ⟨.mark (.extern f),false,true⟩):=by show Sem.runT P (Sem.program fun p=>_) w es=_;simp only[Sem.runT];show Sem.runT P (match P.funcs[f]? with|none=>_|some fn=>_) w es=_;rw[hf];simp only[hname,hb,hn,he,Bool.false_eq_true,if_false,if_true];rfl
theorem dA(hf:P.funcs[f]?=some fn)(hname:(fn.name == "runtime.NumGoroutine")=false)(hb:fn.body.isNone=true)(hn:Extern.findNext fn=none)(he:Extern.find fn=some e)(h:∀args,af P Sb False (e args))(args:Array Value):af P Sb False (callFunc f args):=by constructor;intro v w y v' hs hr hg es;rw[<-Sem.runT_fst P _ v #[],rH hf hname hb hn he,Sem.runT_fst]at hr;obtain⟨w',es',h1,h2,h3,h4,h5⟩:=(cR (h args)).Ar hs hr hg (es.push ⟨.mark (.extern f),false,true⟩);exact⟨w',es',by rw[rH hf hname hb hn he];exact h1,h2,h3,h4,me (FJ _ _ _ (fun h=>h.elim)) h5⟩
theorem ou(m:Mark):af P Sb False (mark m):=wA (fun h=>h.elim) .pure
theorem Dw(t:Extern.Atomic.T)(a:Addr):af P Sb qt (Extern.Atomic.read t a):=by unfold Extern.Atomic.read;(repeat' (first|(with_reducible first|exact af.pure' _|exact xO ..|exact eG ..|refine af.bind ?_ (fun _=>?_)|refine bn ?_ ?_)|dsimp only|split|intro _))
theorem Kv{α:Type}{f:α->Sem Bool}(h:∀a,af P Sb qt (f a)):∀(l:List α),af P Sb qt (l.anyM f)
 | []=>af.pure
 |a :: l=>by
  unfold List.anyM;refine af.bind (h a) fun b=>?_;cases b
  ·exact Kv h l
  ·exact af.pure
theorem vA(a:Addr):af P Sb qt (Extern.Atomic.touchesFrozen a):=by unfold Extern.Atomic.touchesFrozen;repeat' (first|exact Kv (fun _=>qB _) _|(repeat' (first|(with_reducible first|exact qB ..|exact qC ..|exact fY ..|exact bT|refine af.bind ?_ (fun _=>?_)|refine bn ?_ ?_)|dsimp only|split|intro _)))
theorem Kn(t:Extern.Atomic.T)(args:Array Value):af P Sb qt (Extern.Atomic.casT t args):=by
 rcases args with⟨_|⟨a0,_|⟨a1,_|⟨a2,_|⟨a3,l⟩⟩⟩⟩⟩ <;>first|exact af.halt|skip
 refine af.bind (iC a0) fun a=>?_;repeat' (first|exact vA _|exact Dw ..|(repeat' (first|(with_reducible first|exact af.pure' _|exact af.halt|exact lF ..|exact zz ..|exact iC ..|refine cM ?_|exact cg|exact bT|refine af.bind ?_ (fun _=>?_)|refine bn ?_ ?_)|dsimp only|split|intro _)))
theorem vg(op:IntKind->Int->Int->Sem Value)(hop:∀k x y,af P Sb qt (op k x y))(k:IntKind)(b:Bool)(args:Array Value):af P Sb qt (Extern.Atomic.update op k b args):=by
 rcases args with⟨_|⟨a0,_|⟨a1,_|⟨a2,l⟩⟩⟩⟩ <;>first|exact af.halt|skip
 refine af.bind (iC a0) fun a=>?_;repeat' (first|exact hop ..|exact Dw ..|(repeat' (first|(with_reducible first|exact af.pure' _|exact af.halt|exact lF ..|exact jY ..|exact iC ..|refine af.bind ?_ (fun _=>?_))|dsimp only|split|intro _)))
theorem aaU(args:Array Value):af P Sb qt (Extern.Race.at_ args):=by unfold Extern.Race.at_;(repeat' (first|(with_reducible first|exact af.pure' _|exact aG ..)|dsimp only|split|intro _))
theorem qA(m:Addr->Mark)(args:Array Value):af P Sb False (Extern.Race.marked m args):=af.bind (aaU args) fun a=>af.bind (ou _) fun _=>af.pure
theorem IZ(args:Array Value):af P Sb qt (Extern.Sync.canSpin args):=by
 rcases args with⟨_|⟨a0,_|⟨a1,l⟩⟩⟩ <;>first|exact af.halt|skip
 cases a0<;>first|exact af.halt|skip
 show af P Sb qt (if _ then _ else _);(repeat' (first|(with_reducible first|exact af.pure' _|exact af.halt|exact cX ..|refine af.bind ?_ (fun _=>?_)|refine bn ?_ ?_)|dsimp only|split|intro _))
theorem I0(args:Array Value):af P Sb qt (Extern.Sync.nothing args):=af.pure
theorem I1(h:String->Halt)(args:Array Value):af P Sb qt (Extern.Sync.die h args):=by
 rcases args with⟨_|⟨a0,_|⟨a1,l⟩⟩⟩ <;>first|exact af.halt|skip
 cases a0<;>first|exact af.halt|skip
 rename_i s;show af P Sb qt (match String.fromUTF8? s with|some m=>_|none=>_);(repeat' (first|(with_reducible first|exact af.halt|exact eG ..)|dsimp only|split|intro _))
theorem P9:af P Sb qt (sys (.clock 1)):=by
 constructor;intro v w x v' hs hr hg es;have e:∀(w:World) (es:Array Event),(sys (.clock 1)).runT P w es=(.ok (.int ((w.os.mono+w.tick:Nat):Int)) w.later,es.push ⟨.output,true,false⟩):=fun w es=>rfl;rw[<-Sem.runT_fst P _ v #[],e]at hr;simp only[Result.ok.injEq]at hr;obtain⟨rfl,rfl⟩:=hr;have hd:v.later.drawn=v.drawn+1:=rfl;have ht:w.tick=v.tick:=by unfold World.tick;have h0:=hg 0 (by rw[hd];omega) (.extern "clock.advance" 0);simp only[Nat.add_zero]at h0;rw[h0]
 refine⟨w.later,_,by rw[e,ht,hs.os],?_,rfl,by rw[hd];show w.drawn+1=_;omega,me ⟨fun x a hx hl=>?_,fun _=>⟨by simp,by simp⟩⟩ fun e he=>.inl he⟩
 ·refine⟨hs.size,hs.same,hs.gu,?_,hs.out⟩;show ({v.os with wall:=v.os.wall+v.tick,mono:=v.os.mono+v.tick}:Os)={w.os with wall:=w.os.wall+w.tick,mono:=w.os.mono+w.tick};rw[ht,hs.os]
 ·simp[MemAct.ofEvent,MemAct.touch?]at hx;subst hx;cases hl
theorem SW(args:Array Value):af P Sb qt (Extern.OsHooks.nano args):=by unfold Extern.OsHooks.nano Extern.OsHooks.clock;repeat' (first|exact P9|(repeat' (first|(with_reducible first|exact af.pure' _|exact aG ..|refine af.bind ?_ (fun _=>?_))|dsimp only|split|intro _)))
theorem F5(args:Array Value):af P Sb qt (Extern.Sync.count args):=by unfold Extern.Sync.count;(repeat' (first|(with_reducible first|exact af.pure' _|exact xO ..|exact aG ..|exact eG ..|refine af.bind ?_ (fun _=>?_))|dsimp only|split|intro _))
theorem rB(args:Array Value):af P Sb False (Extern.Sync.semacquire args):=by
 unfold Extern.Sync.semacquire;refine af.bind (ou _) fun _=>af.bind (F5 args) fun x=>?_;obtain⟨a,n⟩:=x;dsimp only;split
 ·exact af.bind af.halt fun _=>af.bind (lF ..) fun _=>af.bind (ou _) fun _=>af.pure
 ·exact af.bind (lF ..) fun _=>af.bind (ou _) fun _=>af.pure
theorem rC(args:Array Value):af P Sb False (Extern.Sync.semrelease args):=by unfold Extern.Sync.semrelease;refine af.bind (ou _) fun _=>af.bind (F5 args) fun x=>?_;obtain⟨a,n⟩:=x;exact af.bind (jX ..) fun _=>af.bind (lF ..) fun _=>af.bind (ou _) fun _=>af.pure
theorem PW(t:Extern.Atomic.T)(args:Array Value):af P Sb qt (Extern.Atomic.loadT t args):=by
 rcases args with⟨_|⟨a0,_|⟨a1,l⟩⟩⟩ <;>first|exact af.halt|skip
 exact af.bind (iC a0) fun a=>Dw ..
theorem Ml(args:Array Value):af P Sb qt (Extern.Atomic.storeT args):=by
 rcases args with⟨_|⟨a0,_|⟨a1,_|⟨a2,l⟩⟩⟩⟩ <;>first|exact af.halt|skip
 exact af.bind (iC a0) fun a=>af.bind (lF ..) fun _=>af.pure
theorem PX(m:Mark)(x:Value):af P Sb False (do mark m;pure x:Sem Value):=af.bind (ou m) fun _=>af.pure
end
section
open Go Go.Conc
section
variable {P:Program}{Sb:Nat->Prop}{α β:Type}
theorem af.UA{s:Sem α}{f:α->Sem β}(h:af P Sb False s)(hf:∀a v v',s.run P v=.ok a v'->af P Sb False (f a)):af P Sb False (s >>= f):=by
 constructor;intro v w x v' hs hr hg es;rw[run_bind]at hr;cases h1:s.run P v with
 |halt _ _=>rw[h1]at hr;cases hr
 |ok a v1=>
  rw[h1]at hr;simp only at hr;obtain⟨t1,d1⟩:=mX s h1;obtain⟨t2,d2⟩:=mX (f a) hr;obtain⟨w1,xN,q1,q2,q3,q4,q5⟩:=h.Ar hs h1 (fun k hk q=>hg k (by omega) q) es;obtain⟨w2,xK,r1,r2,r3,r4,r5⟩:=(hf a v v1 h1).Ar q2 hr (fun k hk q=>by have:=hg (k+(v1.drawn-v.drawn)) (by omega) q;rw[t1,q3,q4,show v1.drawn+k=v.drawn+(k+(v1.drawn-v.drawn)) by omega,show w.drawn+(v1.drawn-v.drawn)+k=w.drawn+(k+(v1.drawn-v.drawn)) by omega];exact this) xN
  refine⟨w2,xK,by rw[fS,q1];exact r1,r2,r3.trans q3,by omega,fun e he=>?_⟩;rcases r5 e he with h3|h3
  ·exact q5 e h3
  ·exact .inr h3
end
structure oJ(P:Program)(T:gI)(Sb:Nat->Prop):Prop where
 sda:P.follows .staticDataAhead=true
 ext:∀f,T.ext f=true->∀args,af P Sb False (callFunc f args)
 Nk:∀args,af P Sb False (callFunc T.Nk args)
 en:∀args,af P Sb False (callFunc T.en args)
def StepT(P:Program)(Sb:Nat->Prop)(fr:Frame)(c:List Frame):Prop:=∃(α:Type) (s:Sem α),af P Sb False s/\∀(cs:List Frame),
 (∀w x w' es,s.runT P w #[]=(.ok x w',es)->∀gC c1 w1 xN,stepG P true (G fr (c++cs)) w=.go (G gC c1) w1 xN->w1=w'/\∀u u' es',s.runT P u #[]=(.ok x u',es')->stepG P true (G fr (c++cs)) u=.go (G gC c1) u' (seen P fr.fn es'))/\
 (∀w h w' es,s.runT P w #[]=(.halt h w',es)->∀gC c1 w1 xN,stepG P true (G fr (c++cs)) w=.go (G gC (c1++cs)) w1 xN->¬iT gC c1)
section
variable {P:Program}{T:gI}{Sb:Nat->Prop}{d out:Nat}{fr:Frame}{c:List Frame}
theorem bU(h:∀cs w,stepG P true (G fr (c++cs)) w=.go (G gC (c1++cs)) w #[]):StepT P Sb fr c:=by refine⟨Unit,.pure (),af.pure,fun cs=>⟨fun w x w' es hr gC c1 w1 xN hs=>?_,fun w h w' es hr=>by cases hr⟩⟩;cases hr;rw[h]at hs;cases hs;refine⟨rfl,fun u u' es' hu=>?_⟩;cases hu;exact h cs u
theorem wH(h:∀cs w,∃o w' es,stepG P true (G fr (c++cs)) w=.ended o w' es):StepT P Sb fr c:=by refine⟨Unit,.pure (),af.pure,fun cs=>⟨fun w x w' es hr gC c1 w1 xN hs=>?_,fun w h w' es hr=>by cases hr⟩⟩;obtain⟨o,w2,xK,he⟩:=h cs w;rw[he]at hs;cases hs
theorem Mt(hst:∀g,P.stepOf g=none)(qT:P.follows .staticDataAhead=true)(g:Nat)(w:World)(cs:List Frame):∃o w' es,early P fr cs none g w=.ended o w' es:=by unfold early;simp only[qT,hst,Bool.not_true,Bool.false_eq_true,if_false];exact⟨_,_,_,rfl⟩
theorem Qa(hst:∀g,P.stepOf g=none)(qT:P.follows .staticDataAhead=true)(hk:fr.kind=.normal\/fr.kind=.deferred)(hr:s.runT P w #[]=(.halt h w',es))(cs:List Frame)(hs:stepG.apply P true fr (c++cs) none s w=.go (G gC (c1++cs)) w1 xN)(hm:fr.mode=.run):¬iT gC c1:=by
 have dead:∀{x:GStep},uj x->x=.go (G gC (c1++cs)) w1 xN->False:=fun hd he=>by
  rcases hd with⟨o,w2,xK,h1⟩|⟨g',w2,xK,h1,h2⟩|⟨g',g2,w2,xK,h1⟩
  ·rw[h1]at he;cases he
  ·rw[h1]at he;cases he;rcases h2 with h2|h2|⟨_,d,f,h2,_⟩ <;>cases h2
  ·rw[h1]at he;cases he
 by_cases hu:∃g,h=.unsupported (.initOrder g)
 ·obtain⟨g,rfl⟩:=hu;exfalso;have WO:(fr.kind == CallKind.early)=false:=by rcases hk with h|h<;>rw[h]<;>rfl
  simp only[stepG.apply,if_true,hr,WO,Bool.false_eq_true,if_false]at hs;obtain⟨o,w2,xK,he⟩:=Mt (fr:=fr) hst qT g w' (c++cs);rw[he]at hs;cases hs
 ·rcases zL (fr:=fr) hst hk hr with⟨e,es',he,hg⟩|⟨w2,hg⟩|hg
  ·rw[hg]at hs;have e0:fr.raise [e]={fr with mode:=.panicking [e]}:=by unfold Frame.raise;rw[hm]
   rw[e0]at hs;simp only[GStep.go.injEq]at hs;have hf:gC={fr with mode:=.panicking [e]}:=by have:=congrArg Goroutine.frame hs.1;exact this.symm
   intro hn;exact hn gC (zbl ..) [e] (by rw[hf])
  ·exfalso;cases h with
   |unsupported u=>
    have kC:=hg (c++cs);simp only[stepG.apply,if_true,hr]at kC;cases u with
    |initOrder g=>exact hu ⟨g,rfl⟩
    |_=>cases kC
   |panic v=>
    have kC:=hg (c++cs);simp only[stepG.apply,if_true,hr,GStep.after]at kC;simp only[GStep.go.injEq]at kC;have e1:=congrArg (fun g=>g.frame.mode) kC.1;simp only[G,Frame.raise,hm]at e1;cases e1
   |goexit=>
    have kC:=hg (c++cs);simp only[stepG.apply,if_true,hr,GStep.after]at kC;simp only[GStep.go.injEq]at kC;have e1:=congrArg (fun g=>g.frame.mode) kC.1;simp only[G,Frame.raise,hm]at e1;cases e1
   |fatal m=>
    have kC:=hg (c++cs);simp only[stepG.apply,if_true,hr]at kC;rcases(zM (P:=P) fr (c++cs) m w').after (seen P fr.fn (if fr.kind == .early then #[]else es))with⟨o,w3,S4,h1⟩|⟨g',w3,S4,h1,h2⟩|⟨g',g2,w3,S4,h1⟩
    ·rw[h1]at kC;cases kC
    ·rw[h1]at kC;cases kC;rcases h2 with h2|h2|⟨_,d,f,h2,_⟩ <;>cases h2
    ·rw[h1]at kC;cases kC
   |throw m=>
    have kC:=hg (c++cs);simp only[stepG.apply,if_true,hr]at kC;rcases(ox fr [] m false w').after (seen P fr.fn (if fr.kind == .early then #[]else es))with⟨o,w3,S4,h1⟩|⟨g',w3,S4,h1,h2⟩|⟨g',g2,w3,S4,h1⟩
    ·exact absurd (h1.symm.trans kC) (by intro h;cases h)
    ·have h3:=h1.symm.trans kC;cases h3;rcases h2 with h2|h2|⟨_,d,f,h2,_⟩ <;>cases h2
    ·exact absurd (h1.symm.trans kC) (by intro h;cases h)
   |blocked=>
    have kC:=hg (c++cs);simp only[stepG.apply,if_true,hr,GStep.after]at kC;cases kC
   |waiting=>
    have kC:=hg (c++cs);simp only[stepG.apply,if_true,hr,GStep.after]at kC;cases kC
   |_=>
    have kC:=hg (c++cs);simp only[stepG.apply,if_true,hr]at kC;cases kC
  ·exact fun _=>dead (hg (c++cs)) hs
theorem B8{n:Next}(Uy:∀d,n≠Next.spawn d)(hk:fr.kind=.normal\/fr.kind=.deferred){v:World}{esv esw:Array Event}(hv:s.runT P v #[]=(.ok n v1,esv))(hw:s.runT P w #[]=(.ok n w1,esw))(h:stepG.apply P true fr cs none s v=.go g1 v2 es):v2=v1/\stepG.apply P true fr cs none s w=.go g1 w1 (seen P fr.fn esw):=by
 have WO:(fr.kind == CallKind.early)=false:=by rcases hk with h|h<;>rw[h]<;>rfl
 simp only[stepG.apply,if_true,hv,WO,Bool.false_eq_true,if_false]at h;simp only[stepG.apply,if_true,hw,WO,Bool.false_eq_true,if_false];cases n<;>simp only at h⊢<;>(repeat' (split at h)) <;>first
  |(simp only[GStep.after,GStep.go.injEq]at h⊢;obtain⟨h1,h2,h3⟩:=h;exact⟨h2.symm,h1,trivial,by simp⟩)
  |(simp[GStep.after]at h;done)
  |exact absurd rfl (Uy _)
end
end
section
open Go Go.Conc
section
variable {P:Program}{T:gI}{Sb:Nat->Prop}{d out:Nat}{fr:Frame}{c:List Frame}
theorem Bm(hT:gY P T){s:String}(hs:T.Ja s=true)(v:Value)(args:Array Value):af P Sb False (callMethod v s args):=by
 cases v with
 |iface t x=>
  have e0:callMethod (.iface t x) s args=(do let (f,receiver)<-method ((<-program).types.size+Made.depth) t x s;callFunc f (#[receiver]++args)):=rfl;rw[e0];refine af.UA dB fun p v v' hp=>?_;refine af.UA (B7 ..) fun fx v1 v2 hr=>?_;obtain⟨f,rc⟩:=fx;obtain⟨r,es,hr'⟩:∃r es,(method (p.types.size+Made.depth) t x s).runT P v1 #[]=(r,es):=⟨_,_,rfl⟩
  have e1:r=.ok (f,rc) v2:=by have:=Sem.runT_fst P (method (p.types.size+Made.depth) t x s) v1 #[];rw[hr',hr]at this;exact this
  subst e1;obtain⟨g1,g2⟩:=hT.Ja s f hs (oy _ hr');obtain⟨fn,c,q1,q2,q3,_⟩:=hT.j8 f 0 0 g1;exact F4 q1 q2 q3 _
 |nilIface=>
  show af P Sb False (runtimePanic RuntimeError.nilDeref);exact bN _
 |_=>exact af.halt
theorem Jb(ρ:Operand->Value)(cl:Call)(t:TypeId):af P Sb False (resolve ρ cl t):=by
 unfold resolve;dsimp only;split
 ·exact af.pure
 ·exact af.pure
 ·unfold Deferred.ofValue;split
  ·exact af.pure
  ·exact af.pure
  ·exact af.halt
theorem aaW(hT:gY P T)(hG:oJ P T Sb)(hr:m9 T d fr out){s s1:Nat}(h1:T.S5 fr.fn o s=some s1):af P Sb False (execOp fr.eval o):=by
 have body:∀f a b args,T.j8 f a=some b->af P Sb False (callFunc f args):=fun f a b args hi=>by obtain⟨fn,cc,g1,g2,g3,_⟩:=hT.j8 f a b hi;exact F4 g1 g2 g3 args
 unfold gI.S5 at h1;cases hop:o.op with
 |call cl=>
  rw[hop]at h1;simp only at h1;split at h1
  ·cases h1
  ·cases hc:cl.callee with
   |invoke r nm=>
    rw[hc]at h1;simp only at h1;split at h1
    ·rename_i hh;rw[wI hop hc];exact Bm hT hh.1 _ _
    ·cases h1
   |builtin b=>
    rw[hc]at h1;simp only at h1;split at h1
    ·rename_i hb;rw[uk hop hc];exact I7 hb ..
    ·cases h1
   |value x=>
    cases x with
    |tmp m=>
     rw[hc]at h1;simp only at h1;split at h1
     ·rename_i hh;have uH:=hr.vY m (by simpa using hh.1);cases hv:fr.tmps.getD m undef with
      |func fn a b=>
       have hfn:=uH fn a b hv;rw[F6 (T:=T) hop hc hv hfn];exact body _ _ _ _ hT.cf.1
      |_=>
       refine .qy ⟨fun v x v' hx=>?_⟩;obtain⟨r,es,hr'⟩:∃r es,(execOp fr.eval o).runT P v #[]=(r,es):=⟨_,_,rfl⟩
       have e1:r=.ok x v':=by have:=Sem.runT_fst P (execOp fr.eval o) v #[];rw[hr',hx]at this;exact this
       subst e1;exact wJ hop hc (fun fn a b=>by rw[hv];intro h;cases h) hr'
     ·cases h1
    |func f=>
     rw[hc]at h1;simp only at h1;split at h1
     ·obtain⟨e,yM,h1⟩:=zbd.1 h1;rw[B9 (fr:=fr) (o:=o) hop hc];unfold gI.fD at yM;split at yM
      ·rename_i Qb;subst Qb;exact hG.Nk _
      ·split at yM
       ·rename_i _ Qb;subst Qb;exact hG.en _
       ·split at yM
        ·rename_i hx;exact hG.ext f hx _
        ·exact body _ _ _ _ yM
     ·cases h1
    |_=>rw[hc]at h1;cases h1
 |go cl=>
  unfold execOp;rw[hop];exact af.bind (Jb ..) fun _=>af.pure
 |defer cl=>
  rw[hop]at h1;simp only at h1;cases hc:cl.callee with
  |value x=>
   cases x with
   |func f=>exact F3 fun w es=>zO hop hc es
   |_=>rw[hc]at h1;cases h1
  |_=>rw[hc]at h1;cases h1
 |move x=>exact xP (by rw[hop];rfl)
 |assign x=>exact xP (by rw[hop];rfl)
 |makeFunc fn a b=>exact xP (by rw[hop];rfl)
 |_=>
  rw[hop]at h1;simp only at h1;split at h1
  ·rename_i hh;exact xP (by rw[hop];exact hh.1)
  ·cases h1
theorem Qc(hT:gY P T)(hG:oJ P T Sb)(hf:rI T fr out)(hr:m9 T d fr out)(hm:fr.mode=.run)(hop:WQ fr):StepT P Sb fr c:=by
 obtain⟨ops,i,is,k,ht⟩:=hop;obtain⟨s,X,qT,tN,hk⟩:=hr.ok;rw[ht]at hk;cases ho:ops[i]? with
 |none=>exact bU (c1:=c) fun cs w=>jM hf hm ht (by rw[ho];rfl) _
 |some o=>
  obtain⟨s1,h1,h2,h3⟩:=Qd hk ho;cases Kw:Region.wanted o (yielded ops fr.tmps)with
  |false=>exact bU (c1:=c) fun cs w=>jM hf hm ht (by rw[ho];exact Kw) _
  |true=>
   have hs:∀cs w,stepG P true (G fr cs) w=stepG.apply P true fr cs none (execOp fr.eval o) w:=fun cs w=>Ca hf hm ht ho Kw cs;refine⟨Next,execOp fr.eval o,aaW hT hG hr h1,fun cs=>⟨fun w x w' es hrun gC c1 w1 xN hst=>?_,fun w h w' es hrun gC c1 w1 xN hst=>?_⟩⟩
   ·rw[hs]at hst;by_cases hsp:∃d,x=Next.spawn d
    ·obtain⟨dd,rfl⟩:=hsp;exfalso;rcases wK (fr:=fr) hrun (c++cs)with⟨o,w2,xK,h1⟩|⟨g',w2,xK,h1,h2⟩|⟨g',g2,w2,xK,h1⟩
     ·rw[h1]at hst;cases hst
     ·rw[h1]at hst;cases hst;rcases h2 with h2|h2|⟨_,d,f,h2,_⟩ <;>cases h2
     ·rw[h1]at hst;cases hst
    ·have Uy:∀d,x≠Next.spawn d:=fun d e=>hsp ⟨d,e⟩;refine⟨(B8 Uy hf.kind hrun hrun hst).1,fun u u' es' hu=>?_⟩;rw[hs];exact(B8 Uy hf.kind hrun hu hst).2
   ·rw[hs]at hst;exact Qa hT.nG hG.sda hf.kind hrun cs hst hm
theorem Mv(hT:gY P T)(hG:oJ P T Sb)(hf:rI T fr out)(hr:m9 T d fr out)(hm:fr.mode=.run):StepT P Sb fr c:=by
 have EJ:=hr;have hf0:=hf;obtain⟨s,X,qT,tN,hk⟩:=hr.ok;obtain⟨fn,tmps,todo,defers,mode,kind,ro⟩:=fr;obtain rfl:ro=none:=hf.round;obtain rfl:mode=.run:=hm;simp only at hk hf hr tN;cases todo with
 |nil=>exact bU (gC:={fn,tmps,todo:= [],defers,mode:=.returning,kind,roundOf:=none}) (c1:=c) fun cs w=>rfl
 |cons i k=>
  cases i with
  |inBlock id=>exact bU (gC:={fn,tmps,todo:=k,defers,mode:=.run,kind,roundOf:=none}) (c1:=c) fun cs w=>rfl
  |inLoop a=>exact bU (gC:={fn,tmps,todo:=.code a :: .inLoop a :: k,defers,mode:=.run,kind,roundOf:=none}) (c1:=c) fun cs w=>rfl
  |inRegion ops is=>
   cases is with
   |nil=>exact bU (gC:={fn,tmps,todo:=k,defers,mode:=.run,kind,roundOf:=none}) (c1:=c) fun cs w=>rfl
   |cons j is=>exact Qc hT hG hf0 EJ rfl ⟨ops,j,is,k,rfl⟩
  |code cd=>
   cases cd with
   |skip=>exact bU (gC:={fn,tmps,todo:=k,defers,mode:=.run,kind,roundOf:=none}) (c1:=c) fun cs w=>rfl
   |ret=>exact bU (gC:={fn,tmps,todo:=.code .ret :: k,defers,mode:=.returning,kind,roundOf:=none}) (c1:=c) fun cs w=>rfl
   |seq a b=>exact bU (gC:={fn,tmps,todo:=.code a :: .code b :: k,defers,mode:=.run,kind,roundOf:=none}) (c1:=c) fun cs w=>rfl
   |cond cd a b=>
    by_cases hc:∃q,(Frame.mk fn tmps (.code (.cond cd a b):: k) defers .run kind none).eval cd=.bool q
    ·obtain⟨q,hq⟩:=hc;exact bU (gC:={fn,tmps,todo:=.code (if q then a else b):: k,defers,mode:=.run,kind,roundOf:=none}) (c1:=c) fun cs w=>by simp only[stepG,G,stepG.exec,hq]
    ·refine wH fun cs w=>⟨.stuck "cond: bool expected" ((Frame.mk fn tmps (.code (.cond cd a b):: k) defers .run kind none).pos P),w,#[],?_⟩
     simp only[stepG,G,stepG.exec];split
     ·rename_i q hq;exact absurd ⟨q,hq⟩ hc
     ·rfl
   |block id a=>exact bU (gC:={fn,tmps,todo:=.code a :: .inBlock id :: k,defers,mode:=.run,kind,roundOf:=none}) (c1:=c) fun cs w=>rfl
   |loop a=>exact bU (gC:={fn,tmps,todo:=.code a :: .inLoop a :: k,defers,mode:=.run,kind,roundOf:=none}) (c1:=c) fun cs w=>rfl
   |exit id=>
    cases he:exitTo id k with
    |some k'=>
     exact bU (gC:={fn,tmps,todo:=k',defers,mode:=.run,kind,roundOf:=none}) (c1:=c) fun cs w=>by simp only[stepG,G,stepG.exec,he,Option.elim]
    |none=>
     refine wH fun cs w=>⟨.stuck "exit, goto: no such block or label" ((Frame.mk fn tmps (.code (.exit id):: k) defers .run kind none).pos P),w,#[],?_⟩
     simp only[stepG,G,stepG.exec,he,Option.elim];rfl
   |region id ops draw=>
    cases draw with
    |false=>exact bU (gC:={fn,tmps,todo:=.inRegion ops (List.range ops.size):: k,defers,mode:=.run,kind,roundOf:=none}) (c1:=c) fun cs w=>rfl
    |true=>
     have hst:∀cs (w:World),stepG P true (G ⟨fn,tmps,.code (.region id ops true):: k,defers,.run,kind,none⟩ (c++cs)) w=.go (G ⟨fn,tmps,.inRegion ops (Region.schedule (P.follows .mixedOrders) ops (Question.cut (.order fn id) (w.tape w.drawn (.order fn id)))):: k,defers,.run,kind,none⟩ (c++cs)) {w with drawn:=w.drawn+1} #[]:=fun cs w=>by
      have hx:(choose (.order fn id)).run P w=.ok (Question.cut (.order fn id) (w.tape w.drawn (.order fn id))) {w with drawn:=w.drawn+1}:=by simp[choose,Sem.run,Question.forced]
      simp only[stepG,G,stepG.exec,hx,Bool.not_true,Bool.false_eq_true,if_false]
     have X6:∀(w:World),(choose (.order fn id)).runT P w #[]=(.ok (Question.cut (.order fn id) (w.tape w.drawn (.order fn id))) {w with drawn:=w.drawn+1},#[]):=fun w=>rfl;refine⟨Nat,choose (.order fn id),cX _,fun cs=>⟨fun w x w' es hrun gC c1 w1 xN hs=>?_,fun w h w' es hrun=>by rw[X6]at hrun;cases hrun⟩⟩;rw[X6]at hrun;cases hrun;rw[hst]at hs;cases hs;refine⟨rfl,fun u u' es' hu=>?_⟩;rw[X6]at hu;simp only[Prod.mk.injEq,Result.ok.injEq]at hu;obtain⟨⟨h1,h2⟩,h3⟩:=hu;subst h2 h3;rw[hst,h1];rfl
   |_=>obtain⟨r,h1,_⟩:=hk;simp[gI.ck]at h1
  |_=>exact hk.elim
theorem Dx(hT:gY P T)(hG:oJ P T Sb)(hf:rI T fr out)(hw:Wt T fr.kind out c)(hm:fr.mode≠.run)(hl:¬Leave fr c):StepT P Sb fr c:=by
 have hu:∀cs w,stepG P true (G fr cs) w=unwind P true fr cs none w:=fun cs w=>by simp only[stepG,G]
 obtain⟨a0,Qe⟩:=hf.j8;obtain⟨fn0,c0,g1,g2,g3,_⟩:=hT.j8 _ _ _ Qe;cases hd:fr.defers with
 |cons x ds=>
  obtain⟨cap,hx⟩:=hf.EF x (by rw[hd];exact zbl ..);by_cases mI:T.den fr.fn=true
  ·rw[if_pos mI]at hx;have hstep:∀cs w v es,(callFunc T.en (x.args++cap)).runT P w #[]=(.ok (.value v) w,es)->stepG P true (G fr cs) w=.go (G {fr with defers:=ds} cs) w (seen P fr.fn es):=fun cs w v es q9=>by rw[hu];unfold unwind;rw[hd];obtain⟨tg,ar⟩:=x;obtain rfl:tg=.fn (.func T.en) cap:=hx;simp only[callDeferred];have e1:(invoke (.fn (.func T.en) cap) ar).runT P w #[]=(.ok (.value v) w,es):=q9;simp only[e1,Bool.false_and,Bool.false_eq_true,if_false,GStep.after,Array.append_empty];rfl
   refine⟨Next,callFunc T.en (x.args++cap),hG.en _,fun cs=>⟨fun w y w' es hrun gC c1 w1 xN hs=>?_,fun w h w' es hrun=>?_⟩⟩
   ·obtain⟨v,xK,q9,_⟩:=hT.en (x.args++cap) w;rw[hstep _ _ _ _ q9]at hs;rw[q9]at hrun;cases hrun;simp only[GStep.go.injEq]at hs;obtain⟨h1,rfl,h3⟩:=hs;refine⟨rfl,fun u u' es' XP=>?_⟩;obtain⟨v',S4,aaX,_⟩:=hT.en (x.args++cap) u;rw[aaX]at XP;have e2:u'=u/\es'=S4:=by simp only[Prod.mk.injEq,Result.ok.injEq]at XP;exact⟨XP.1.2.symm,XP.2.symm⟩
    rw[hstep _ _ _ _ aaX,e2.1,e2.2,h1]
   ·obtain⟨v,xK,q9,_⟩:=hT.en (x.args++cap) w;rw[q9]at hrun;cases hrun
  ·rw[if_neg mI]at hx;obtain⟨fn,cc,q1,q2,q3,_⟩:=hT.j8 _ _ _ hT.Cb.1;refine bU (gC:=Frame.enter P T.Cb (x.args++cap) .deferred) (c1:={fr with defers:=ds}:: c) fun cs w=>?_;rw[hu];unfold unwind;rw[hd];obtain⟨tg,ar⟩:=x;obtain rfl:tg=.fn (.func T.Cb) cap:=hx;simp only[callDeferred];have e1:(invoke (.fn (.func T.Cb) cap) ar).runT P w #[]=(.ok (.enter T.Cb (ar++cap)) w,#[]):=fP q1 q2 q3 _ _ _;simp only[e1,Bool.false_and,Bool.false_eq_true,if_false];rfl
 |nil=>
  cases c with
  |nil=>exact absurd ⟨rfl,hm,hd⟩ hl
  |cons cl rest=>
   obtain⟨out',Ld,Xq,iF⟩:=hw;cases um:fr.mode with
   |run=>exact absurd um hm
   |panicking ch=>
    have yA:fr.catches P=false:=by unfold Frame.catches;rw[g1]
    refine bU (gC:=cl.raise ch) (c1:=rest) fun cs w=>?_;rw[hu];unfold unwind;rw[hd];simp only[um,yA,Bool.false_eq_true,if_false,List.cons_append];rfl
   |returning=>
    have Qf:∀cs w v w' es,(results fn0 fr.tmps).runT P w #[]=(.ok v w',es)->stepG P true (G fr cs) w=(doReturn P true fr cs none v w').after (seen P fr.fn es):=fun cs w v w' es hrun=>by rw[hu];unfold unwind;rw[hd];simp only[um,g1,hrun]
    refine⟨Value,results fn0 fr.tmps,I9 ..,fun cs=>⟨fun w x w' es hrun gC c1 w1 xN hs=>?_,fun w h w' es hrun gC c1 w1 xN hs=>?_⟩⟩
    ·rw[Qf _ _ _ _ _ hrun]at hs;have key:∃XF c2,∀w',doReturn P true fr ((cl :: rest)++cs) none x w'=.go (G XF c2) w' #[]:=by
      rcases iF with⟨hk,hcm,hrv⟩|⟨hk,hcm,F7⟩
      ·exact⟨cl.finish x,rest++cs,fun w'=>by simp only[List.cons_append,doReturn,hk];rfl⟩
      ·refine⟨cl,rest++cs,fun w'=>?_⟩;simp only[List.cons_append,doReturn,hk];split
       ·rename_i v' g' older GU;unfold gQ at F7;rw[GU]at F7;have:=F7 _ (zbl ..);simp at this
       ·rfl
     obtain⟨XF,c2,hk2⟩:=key;rw[hk2]at hs;simp only[GStep.after,GStep.go.injEq]at hs;obtain⟨h1,rfl,h3⟩:=hs;refine⟨rfl,fun u u' es' XP=>?_⟩;rw[Qf _ _ _ _ _ XP,hk2];simp only[GStep.after,Array.append_empty,h1]
    ·exfalso;rw[hu]at hs;unfold unwind at hs;rw[hd]at hs;simp only[um,g1,hrun]at hs;cases h<;>cases hs
theorem Dy(hT:gY P T)(hG:oJ P T Sb)(h:AG T d fr c)(hl:¬Leave fr c):StepT P Sb fr c:=by
 obtain⟨out,⟨hf,hmo⟩,hw⟩:=h;by_cases hm:fr.mode=.run
 ·have hr:m9 T d fr out:=by unfold gQ at hmo;rw[hm]at hmo;exact hmo
  exact Mv hT hG hf hr hm
 ·exact Dx hT hG hf hw hm hl
end
end
section
open Go Go.Conc
section
variable {P:Program}{T:gI}{Sb:Nat->Prop}{d:Nat}{fr gC:Frame}{c c1:List Frame}{v v1 w:World}{es:Array Event}
theorem tR(hT:gY P T)(hG:oJ P T Sb)(hS:AG T d fr c)(hl:¬Leave fr c)(hs:eJ Sb v w)(hv:∀cs,stepG P true (G fr (c++cs)) v=.go (G gC (c1++cs)) v1 es)(hp:iT gC c1)(hag:Km v w (v1.drawn-v.drawn)):
 (v1.tape=v.tape/\v.drawn<=v1.drawn)/\∃w1 es',(∀cs,stepG P true (G fr (c++cs)) w=.go (G gC (c1++cs)) w1 es')/\eJ Sb v1 w1/\w1.tape=w.tape/\w1.drawn=w.drawn+(v1.drawn-v.drawn)/\∀e∈es',Nj Sb e:=by
 obtain⟨α,s,hg,hst⟩:=Dy hT hG hS hl;obtain⟨r,esv,hrun⟩:∃r es,s.runT P v #[]=(r,es):=⟨_,_,rfl⟩
 cases r with
 |halt h v'=>exact absurd hp ((hst []).2 v h v' esv hrun gC c1 v1 es (hv []))
 |ok x v'=>
  obtain⟨rfl,_⟩:=(hst []).1 v x v' esv hrun gC (c1++ []) v1 es (hv []);have hr:s.run P v=.ok x v1:=by rw[<-Sem.runT_fst P s v #[],hrun]
  obtain⟨m1,m2⟩:=mX s hr;obtain⟨w1,es',h1,h2,h3,h4,h5⟩:=hg.Ar hs hr hag #[];refine⟨⟨m1,m2⟩,w1,seen P fr.fn es',fun cs=>?_,h2,h3,h4,fun e he=>?_⟩
  ·exact((hst cs).1 v x v1 esv hrun gC (c1++cs) v1 es (hv cs)).2 w w1 es' h1
  ·rcases h5 e (F8 he)with h6|h6
   ·simp at h6
   ·exact h6.1
def wt(v:World)(tp:Nat->Question->Nat)(n:Nat):World:={v with tape:=tp,drawn:=n}
theorem aaY(v:World)(tp Cc:Nat->Question->Nat)(n n':Nat):wt (wt v tp n) Cc n'=wt v Cc n':=rfl
theorem Jc(v:World)(tp:Nat->Question->Nat)(n:Nat):eJ (fun _=>False) v (wt v tp n):=⟨rfl,fun _ _=>rfl,fun _ h=>h.elim,rfl,rfl⟩
theorem UB{v:World}(h:eJ (fun _=>False) v w):w=wt v w.tape w.drawn:=by
 obtain⟨hh,ht,hd,ho,hu⟩:=v;obtain⟨hh',ht',hd',ho',hu'⟩:=w;have e1:hh=hh':=by apply Array.ext_getElem?;intro i;exact h.same i (fun h=>h)
 have e2:ho=ho':=h.os;have e3:hu=hu':=h.out;subst e1 e2 e3;rfl
theorem sH(hT:gY P T)(G4:∀g c,T.tgt g c=false)(hp:iT fr' c')(hS:AG T d fr c)(hr:runN P (n+1) (lone fr (c++ [cQ P]) v)=.next (lone fr' (c'++ [cQ P]) w')):
 ¬Leave fr c/\∃gC c1 v1 es d1,(∀cs,stepG P true (G fr (c++cs)) v=.go (G gC (c1++cs)) v1 es)/\AG T d1 gC c1/\iT gC c1/\deafBehind d es=d1/\runN P n (lone gC (c1++ [cQ P]) v1)=.next (lone fr' (c'++ [cQ P]) w'):=by
 have PU:¬Leave fr c:=fun h=>by have hc:=h.1;subst hc;exact wL hT hS h hr
 refine⟨PU,?_⟩;rcases zn hT hS v with h|h|h|h
 ·obtain⟨gC,c1,v1,es,d1,hs,oN,hd⟩:=h;have hst:step P (lone fr (c++ [cQ P]) v)=.next (lone gC (c1++ [cQ P]) v1):=step_solo_go (a:=G fr (c++ [cQ P])) rfl (hs _)
  have hr':=hr;unfold runN at hr';rw[hst]at hr';obtain⟨hp1,_⟩:=Cd hT hp n oN hr' (fun k f' q u _ _ ht=>by obtain⟨_,c,k',_,h⟩:=ht;rw[G4]at h;cases h)
  exact⟨gC,c1,v1,es,d1,hs,oN,hp1,(hd hp1).2,hr'⟩
 ·exfalso;rcases h [cQ P]with⟨o,w1,es,he⟩|⟨g1,w1,es,he,hg⟩|⟨g1,g2,w1,es,he⟩
  ·unfold runN at hr;rw[lone_eq_solo,gA rfl he]at hr;cases hr
  ·unfold runN at hr;rw[lone_eq_solo,step_solo_go rfl he]at hr;exact sI n hg hr
  ·unfold runN at hr;have e2:step P (lone fr (c++ [cQ P]) v)=.next (duo g1 g2 w1 none):=by rw[lone_eq_solo,step,stepT_solo rfl,runT_solo_spawn he]
   rw[e2]at hr;exact sJ n (by simp[duo]) hr
 ·obtain⟨_,c,k',_,h⟩:=h;rw[G4]at h;cases h
 ·exact absurd h PU
def Reach(P:Program)(Q:Frame->List Frame->World->Prop)(fr:Frame)(c:List Frame)(v:World):Prop:=∃N fr' c' v',runN P N (lone fr (c++ [cQ P]) v)=.next (lone fr' (c'++ [cQ P]) v')/\Q fr' c' v'/\iT fr' c'
theorem oz(hs:∀cs,stepG P true (G fr (c++cs)) v=.go (G gC (c1++cs)) v1 es):step P (lone fr (c++ [cQ P]) v)=.next (lone gC (c1++ [cQ P]) v1):=step_solo_go (a:=G fr (c++ [cQ P])) rfl (hs _)
theorem wM(hT:gY P T)(hG:oJ P T (fun _=>False))(G4:∀g c,T.tgt g c=false){Q:Frame->List Frame->World->Prop}(hQ:∀fr c v tp n,Q fr c v->Q fr c (wt v tp n)):∀(N:Nat) {d:Nat} {fr:Frame} {c:List Frame} {v:World} {fr':Frame} {c':List Frame} {v':World} (tp:Nat->Question->Nat) (n:Nat),AG T d fr c->iT fr' c'->Q fr' c' v'->
 runN P N (lone fr (c++ [cQ P]) v)=.next (lone fr' (c'++ [cQ P]) v')->(∀m q,v.tape (v.drawn+m) q=tp (n+m) q)->Reach P Q fr c (wt v tp n)
 | 0,d,fr,c,v,fr',c',v',tp,n,hS,hp,hq,hr,ha=>by simp only[runN,Stepped.next.injEq]at hr;obtain⟨rfl,h2,rfl⟩:=lH hr;obtain rfl:c=c':=zbi h2;exact⟨0,fr,c,wt v tp n,rfl,hQ _ _ _ _ _ hq,hp⟩
 |N+1,d,fr,c,v,fr',c',v',tp,n,hS,hp,hq,hr,ha=>by
  obtain⟨PU,gC,c1,v1,es,d1,hs,oN,hp1,_,GR⟩:=sH hT G4 hp hS hr;obtain⟨⟨m1,m2⟩,w1,es',g1,g2,g3,g4,_⟩:=tR hT hG hS PU (Jc v tp n) hs hp1 (fun k _ q=>ha k q);have e1:=UB g2;obtain⟨N',f2,c2,u2,h1,h2,h3⟩:=wM hT hG G4 hQ N (v:=v1) tp (n+(v1.drawn-v.drawn)) oN hp hq GR (fun m q=>by have:=ha (m+(v1.drawn-v.drawn)) q;rw[m1,show v1.drawn+m=v.drawn+(m+(v1.drawn-v.drawn)) by omega,show n+(v1.drawn-v.drawn)+m=n+(m+(v1.drawn-v.drawn)) by omega];exact this)
  have e2:w1=wt v1 tp (n+(v1.drawn-v.drawn)):=by rw[e1,g3,g4];rfl
  refine⟨N'+1,f2,c2,u2,?_,h2,h3⟩;unfold runN;rw[oz g1,e2];exact h1
inductive Ev(P:Program)(Q:Frame->List Frame->World->Prop):Frame->List Frame->World->Prop
 |done {fr:Frame} {c:List Frame} {v:World}:Q fr c v->iT fr c->Ev P Q fr c v
 |step {fr:Frame} {c:List Frame} {v:World} (F:(Nat->Question->Nat)->Nat->Frame) (C:(Nat->Question->Nat)->Nat->List Frame) (W:(Nat->Question->Nat)->Nat->World) (E:(Nat->Question->Nat)->Nat->Array Event):¬Leave fr c->
  (∀tp n cs,stepG P true (G fr (c++cs)) (wt v tp n)=.go (G (F tp n) (C tp n++cs)) (W tp n) (E tp n))->(∀tp n,iT (F tp n) (C tp n))->(∀tp n,Ev P Q (F tp n) (C tp n) (W tp n))->Ev P Q fr c v
def WR(P:Program)(T:gI)(Q:Frame->List Frame->World->Prop)(x:Frame×List Frame×World):Prop:=
 (∃d,AG T d x.1 x.2.1)/\¬Ev P Q x.1 x.2.1 x.2.2/\∀tp n,Reach P Q x.1 x.2.1 (wt x.2.2 tp n)
theorem Qg(hT:gY P T)(hG:oJ P T (fun _=>False))(G4:∀g c,T.tgt g c=false)(hQ:∀fr c v tp n,Q fr c v->Q fr c (wt v tp n))(x:Frame×List Frame×World)(hx:WR P T Q x):
 ∃(y:Frame×List Frame×World) (tp:Nat->Question->Nat) (k:Nat),WR P T Q y/\∀(Cc:Nat->Question->Nat) (n':Nat),(∀m,m<k->∀q,Cc (n'+m) q=tp m q)->∃es,∀cs,stepG P true (G x.1 (x.2.1++cs)) (wt x.2.2 Cc n')=.go (G y.1 (y.2.1++cs)) (wt y.2.2 Cc (n'+k)) es:=by
 obtain⟨fr,c,v⟩:=x;obtain⟨⟨d,hS⟩,hE,hR⟩:=hx;simp only at hS hE hR;have hnq:∀tp n,iT fr c->¬Q fr c (wt v tp n):=fun tp n hp hq=>hE (.done (by have:=hQ _ _ _ v.tape v.drawn hq;exact this) hp);have PU:¬Leave fr c:=fun hl=>by
  obtain⟨N,fr',c',v',h1,h2,h3⟩:=hR (fun _ _=>0) 0;cases N with
  |zero=>
   simp only[runN,Stepped.next.injEq]at h1;obtain⟨rfl,h5,rfl⟩:=lH h1;obtain rfl:c=c':=zbi h5;exact hnq _ _ h3 h2
  |succ N=>exact(sH hT G4 h3 hS h1).1 hl
 have h1:∃tp n,¬∃gC c1 v1 es,(∀cs,stepG P true (G fr (c++cs)) (wt v tp n)=.go (G gC (c1++cs)) v1 es)/\iT gC c1/\Ev P Q gC c1 v1:=by
  apply Classical.byContradiction;intro hno;have ha:=fun tp n=>Classical.byContradiction fun h=>hno ⟨tp,n,h⟩;exact hE (.step (fun tp n=>(ha tp n).choose) (fun tp n=>(ha tp n).choose_spec.choose) (fun tp n=>(ha tp n).choose_spec.choose_spec.choose) (fun tp n=>(ha tp n).choose_spec.choose_spec.choose_spec.choose) PU
   (fun tp n=>(ha tp n).choose_spec.choose_spec.choose_spec.choose_spec.1) (fun tp n=>(ha tp n).choose_spec.choose_spec.choose_spec.choose_spec.2.1) (fun tp n=>(ha tp n).choose_spec.choose_spec.choose_spec.choose_spec.2.2))
 obtain⟨tp,n,h1⟩:=h1;obtain⟨N,fr',c',v',h2,h3,h4⟩:=hR tp n;cases N with
 |zero=>
  exfalso;simp only[runN,Stepped.next.injEq]at h2;obtain⟨rfl,h5,rfl⟩:=lH h2;obtain rfl:c=c':=zbi h5;exact hnq _ _ h4 h3
 |succ N=>
  obtain⟨_,gC,c1,v1,es,d1,hs,oN,hp1,_,GR⟩:=sH hT G4 h4 hS h2;obtain⟨⟨m1,m2⟩,_⟩:=tR hT hG hS PU (Jc (wt v tp n) tp n) hs hp1 (fun k _ q=>rfl);have go:∀(Cc:Nat->Question->Nat) (n':Nat),(∀m,m<v1.drawn-n->∀q,Cc (n'+m) q=tp (n+m) q)->∃es,∀cs,stepG P true (G fr (c++cs)) (wt v Cc n')=.go (G gC (c1++cs)) (wt v1 Cc (n'+(v1.drawn-n))) es:=fun Cc n' ha=>by
   obtain⟨_,w1,es',g1,g2,g3,g4,_⟩:=tR hT hG hS PU (Jc (wt v tp n) Cc n') hs hp1 (fun k hk q=>(ha k hk q).symm);refine⟨es',fun cs=>?_⟩;have e2:w1=wt v1 Cc (n'+(v1.drawn-n)):=by rw[UB g2,g3,g4];rfl
   rw[<-e2];exact g1 cs
  refine⟨(gC,c1,v1),fun m=>tp (n+m),v1.drawn-n,⟨⟨d1,oN⟩,fun he=>h1 ⟨gC,c1,v1,es,hs,hp1,he⟩,fun Cc n'=>?_⟩,go⟩;let tq:Nat->Question->Nat:=fun m=>if m<v1.drawn-n then tp (n+m)else Cc (n'+(m-(v1.drawn-n)))
  obtain⟨xK,Og⟩:=go tq 0 (fun m hm q=>by simp only[tq,Nat.zero_add,hm,if_true]);obtain⟨N2,f2,c2,u2,q1,q2,q3⟩:=hR tq 0;cases N2 with
  |zero=>
   exfalso;simp only[runN,Stepped.next.injEq]at q1;obtain⟨rfl,h5,rfl⟩:=lH q1;obtain rfl:c=c2:=zbi h5;exact hnq _ _ q3 q2
  |succ N2=>
   unfold runN at q1;rw[oz Og]at q1;simp only at q1;have:=wM hT hG G4 hQ N2 Cc n' oN q3 q2 q1 (fun m q=>by show tq (0+(v1.drawn-n)+m) q=_;simp only[tq,Nat.zero_add];rw[if_neg (by omega),show v1.drawn-n+m-(v1.drawn-n)=m by omega])
   rw[aaY]at this;exact this
theorem Mk(hT:gY P T)(hG:oJ P T (fun _=>False))(G4:∀g c,T.tgt g c=false)(hQ:∀fr c v tp n,Q fr c v->Q fr c (wt v tp n))(hS:AG T d fr c)(hR:∀tp n,Reach P Q fr c (wt v tp n)):Ev P Q fr c v:=by
 apply Classical.byContradiction;intro hE;have hx0:WR P T Q (fr,c,v):=⟨⟨d,hS⟩,hE,hR⟩
 have nx:=fun(x:{x // WR P T Q x})=>Qg hT hG G4 hQ x.1 x.2;let f:{x // WR P T Q x}->{x // WR P T Q x}:=fun x=>⟨(nx x).choose,(nx x).choose_spec.choose_spec.choose_spec.1⟩
 let σ:Nat->{x // WR P T Q x}:=fun i=>Nat.rec ⟨(fr,c,v),hx0⟩ (fun _ x=>f x) i;let tps:Nat->Nat->Question->Nat:=fun i=>(nx (σ i)).choose_spec.choose;let k:Nat->Nat:=fun i=>(nx (σ i)).choose_spec.choose_spec.choose;have hgo:∀i (Cc:Nat->Question->Nat) (n':Nat),(∀m,m<k i->∀q,Cc (n'+m) q=tps i m q)->∃es,∀cs,stepG P true (G (σ i).1.1 ((σ i).1.2.1++cs)) (wt (σ i).1.2.2 Cc n')=.go (G (σ (i+1)).1.1 ((σ (i+1)).1.2.1++cs)) (wt (σ (i+1)).1.2.2 Cc (n'+k i)) es:=fun i=>(nx (σ i)).choose_spec.choose_spec.choose_spec.2;let D:Nat->Nat:=fun i=>Nat.rec 0 (fun i s=>s+k i) i;have hD:∀i,D (i+1)=D i+k i:=fun i=>rfl;have hmono:∀i j,i<=j->D i<=D j:=by
  intro i j h;induction j with
  |zero=>obtain rfl:i=0:=by omega
         exact za9 _
  |succ j ih=>
   rcases Nat.lt_or_ge j i with h1|h1
   ·obtain rfl:i=j+1:=by omega
    exact za9 _
   ·have:=ih h1;rw[hD];omega
 let tz:Nat->Question->Nat:=fun m q=>open Classical in if h:∃i,D i<=m/\m<D (i+1)then tps h.choose (m-D h.choose) q else 0
 have htz:∀i m,m<k i->∀q,tz (D i+m) q=tps i m q:=by
  intro i m hm q;have hex:∃j,D j<=D i+m/\D i+m<D (j+1):=⟨i,by omega,by rw[hD];omega⟩
  have hj:=hex.choose_spec;have e:hex.choose=i:=by
   generalize hex.choose=j at hj;rcases Nat.lt_trichotomy j i with h|h|h
   ·have:=hmono (j+1) i h;omega
   ·exact h
   ·have:=hmono (i+1) j h;rw[hD]at this;omega
  have e3:tz (D i+m) q=tps hex.choose (D i+m-D hex.choose) q:=dif_pos hex;rw[e3,e,Nat.add_sub_cancel_left]
 have hrun:∀i,runN P i (lone fr (c++ [cQ P]) (wt v tz 0))=.next (lone (σ i).1.1 ((σ i).1.2.1++ [cQ P]) (wt (σ i).1.2.2 tz (D i))):=by
  intro i;induction i with
  |zero=>rfl
  |succ i ih=>
   obtain⟨es,hs⟩:=hgo i tz (D i) (htz i);rw[runN_add,ih];simp only[runN];rw[oz hs]
 obtain⟨N,fr',c',v',h1,h2,h3⟩:=hR tz 0;rw[hrun N]at h1;simp only[Stepped.next.injEq]at h1;obtain⟨e1,e2,e3⟩:=lH h1;have XN:=zbi e2;rw[<-e1,<-XN,<-e3]at h2;rw[<-e1,<-XN]at h3;have hb:=(σ N).2.2.1;exact hb (.done (by have:=hQ _ _ _ (σ N).1.2.2.tape (σ N).1.2.2.drawn h2;exact this) h3)
end
end
section
open Go Go.Conc Go.ConcN
structure kE(Shun:Loc->Prop)(t:Trace):Prop where
 clean:∀said,¬Race said t
 known:∀i a,touchAt t i=some a->a.loc.isMemory=true->Knows t 0 i\/(Shun a.loc/\a.kind=.atomic)
 over:t.HandedOver
def J8(Sb:Nat->Prop)(l:Loc):Prop:=∃a,l=.cell a/\Sb a.block
section
variable {Shun:Loc->Prop}{t u:Trace}
theorem tE.Z0(h:tE Shun t):kE Shun t:=⟨h.clean,h.known,h.over⟩
theorem kE.ZY(h:kE Shun t)(hd:Deaf t 0=0):tE Shun t:=⟨h.clean,h.known,h.over,hd⟩
theorem kE.app0(h:kE Shun t)(hu:∀op∈u,op.g=0)(hs:∀op∈u,∀b,op.act.touch?=some b->Shun b.loc->b.kind≠.plain):kE Shun (t++u):=by
 refine⟨fun said=>noRace_append (h.clean said) hu fun i a ha op hop b hb hc=>?_,fun i a ha hm=>?_,handedOver_app h.over fun op hop=>.inl (hu op hop)⟩
 ·rcases h.known i a ha hc.2.1 with hk|⟨hsa,hka⟩
  ·exact hk
  ·have hkb:=hs op hop b hb (hc.1▸hsa);obtain⟨_,_,_,iF⟩:=hc;rw[hka]at iF;rcases iF with x|x|⟨_,x,_⟩
   ·cases x
   ·exact absurd x hkb
   ·cases x
 ·obtain⟨x,hx,PR⟩:=touch_of ha;rcases getElem?_append_cases hx with⟨_,hx'⟩|⟨_,WG⟩
  ·exact(h.known i a (by rw[touchAt_of hx'];exact PR) hm).imp (·.app u) id
  ·have:=knows_own hx;rw[hu x WG]at this;exact .inl this
theorem kE.appMute{g:Nat}(h:kE Shun t)(hu:∀op∈u,op.g=g)(hn:∀op∈u,op.act.touch?=none):kE Shun (t++u):=by
 refine⟨fun said=>noRace_append (h.clean said) hu fun i a _ op hop b hb _=>(by rw[hn op hop]at hb;cases hb),fun i a ha hm=>?_,handedOver_app h.over fun op hop=>.inr (hn op hop)⟩;obtain⟨x,hx,PR⟩:=touch_of ha;rcases getElem?_append_cases hx with⟨_,hx'⟩|⟨_,WG⟩
 ·exact(h.known i a (by rw[touchAt_of hx'];exact PR) hm).imp (·.app u) id
 ·rw[hn x WG]at PR;cases PR
theorem kE.own{Sb:Nat->Prop}(h:kE (J8 Sb) t){fn:FuncId}(hes:∀e∈es,Nj Sb e):kE (J8 Sb) (t++MemOp.ofEvents 0 fn pos es):=by refine h.app0 (fun op hop=>by obtain⟨e,_,rfl⟩:=Go.Conc.mem_ofEvents hop;rfl) (fun op hop b hb hs hk=>?_);obtain⟨e,he,rfl⟩:=Go.Conc.mem_ofEvents hop;obtain⟨a,ha,hsb⟩:=hs;exact hes e he b a hb ha hk hsb
theorem kE.mute(h:kE Shun t){g:Nat}{fn:FuncId}{pos:String}{es:Array Event}(hm:∀e∈es,e.mute=true):kE Shun (t++MemOp.ofEvents g fn pos es):=
 h.appMute (g:=g) (fun op hop=>by obtain⟨e,_,rfl⟩:=Go.Conc.mem_ofEvents hop;rfl) (fun op hop=>by obtain⟨e,he,rfl⟩:=Go.Conc.mem_ofEvents hop;exact touch_mute (hm e he))
end
structure Crowd(P:Program)(T:gI)(Sb:Nat->Prop)(d:Nat)(fr:Frame)(c cs:List Frame)(gs:Array Goroutine)(t:Trace)(q:Nat->Nat):Prop where
 at0:gs[0]?=some (G fr (c++cs))
 stk:AG T d fr c
 deaf:Deaf t 0=d
 lv:Leavers P t gs q
 past:kE (J8 Sb) t
 bd:∀(i:Nat) (op:MemOp),t[i]?=some op->op.g<gs.size
theorem IY{g:Nat}{fn:FuncId}(h:∀(i:Nat) (op:MemOp),t[i]?=some op->op.g<n)(hg:g<n)(i:Nat)(op:MemOp)(hi:(t++MemOp.ofEvents g fn pos es)[i]?=some op):op.g<n:=by
 rcases getElem?_append_cases hi with⟨_,h1⟩|⟨_,h1⟩
 ·exact h i op h1
 ·obtain⟨e,_,rfl⟩:=Go.Conc.mem_ofEvents h1;exact hg
section
variable {P:Program}{T:gI}{Sb:Nat->Prop}
theorem AY(h:stepG P true g w=.go (G gC c1) w1 es)(gs0:gs[0]?=some g)(sl:Option (Nat×Nat)):runT P (crowd gs w sl) 0=(.next (crowd ((gs.map (woken P g (G gC c1) w1)).setIfInBounds 0 (G gC c1)) w1 sl),MemOp.ofEvents 0 g.frame.fn g.frame.place es):=runT_crowd_go (P:=P) (sl:=sl) (i:=0) gs0 (show stepG P (0 == 0) g w=_ from h)
theorem Mj(hT:gY P T)(hG:oJ P T Sb)(G4:∀g c,T.tgt g c=false){c:List Frame}{v:World}(hE:Ev P Q fr c v):∀(M d:Nat) (gs:Array Goroutine) (w:World) (sl:Option (Nat×Nat)) (t:Trace) (q:Nat->Nat),sumTo gs.size q=M->eJ Sb v w->Crowd P T Sb d fr c cs gs t q->
 ∃N gs' fr' c' v' w' sl' t' q' d',runNT P N (crowd gs w sl) t=(.next (crowd gs' w' sl'),t')/\gs'.size=gs.size/\Q fr' c' v'/\eJ Sb v' w'/\Crowd P T Sb d' fr' c' cs gs' t' q':=by
 induction hE with
 |done hq hp=>
  intro M d gs w sl t q hM hs hC;exact⟨0,gs,_,_,_,w,sl,t,q,d,rfl,rfl,hq,hs,hC⟩
 |step F C W E PU hstep hnp hev ih=>
  rename_i fr c v;intro M;induction M using Nat.strongRecOn with
  |_ M ihM=>
   intro d gs w sl t q hM hs hC;have h0:=hC.at0;have hL:=hC.lv;have WI:0<gs.size:=(zba.1 h0).1;have TV:∀g∈gs,awake g:=by
    intro g hg;obtain⟨i,hi,rfl⟩:=Array.mem_iff_getElem.1 hg;rcases zbm i with rfl|hpos
    ·have:gs[0]=G fr (c++cs):=by simpa[Array.getElem?_eq_getElem hi]using h0
     rw[this];exact awake_of (.inl rfl)
    ·exact awake_of ((hL.old i _ hpos (Array.getElem?_eq_getElem hi)).status.elim .inl fun x=>.inr (.inr x))
   obtain⟨i,g,n,sl',hi,hg,hst⟩:=crowd_pick (P:=P) (w:=w) (sl:=sl) TV ⟨0,_,h0,rfl⟩;rcases zbm i with rfl|hpos
   ·obtain rfl:g=G fr (c++cs):=by rw[h0]at hi;exact(Option.some.inj hi).symm
    have Og:eJ Sb (wt v w.tape n) (w.at n):=⟨hs.size,hs.same,hs.gu,hs.os,hs.out⟩
    obtain⟨_,w1,es',g1,g2,g3,g4,g5⟩:=tR hT hG hC.stk PU Og (hstep w.tape n) (hnp w.tape n) (fun k _ q=>rfl);have M7:AG T (deafBehind d es') (F w.tape n) (C w.tape n):=by
     rcases zn hT hC.stk (w.at n)with h|h|h|h
     ·obtain⟨gC,c1,w2,xK,d1,hs1,oN,hd⟩:=h;have e0:=(g1 []).symm.trans (hs1 []);simp only[List.append_nil,GStep.go.injEq]at e0;obtain⟨e1,rfl,rfl⟩:=e0;have ef:F w.tape n=gC:=congrArg Goroutine.frame e1;have ec:C w.tape n=c1:=congrArg Goroutine.callers e1;have hp1:=hnp w.tape n;rw[ef,ec]at hp1⊢;rw[(hd hp1).2];exact oN
     ·exfalso;rcases h []with⟨o,w2,xK,he⟩|⟨g2,w2,xK,he,hdg⟩|⟨ga,gb,w2,xK,he⟩
      ·rw[g1]at he;cases he
      ·rw[g1]at he;cases he;rcases hdg with h2|h2|⟨_,dd,f,h2,_⟩ <;>cases h2
      ·rw[g1]at he;cases he
     ·obtain⟨_,cc,k',_,h⟩:=h;rw[G4]at h;cases h
     ·exact absurd h PU
    have zq:=AY (g1 cs) h0 sl';have hsz:((gs.map (woken P (G fr (c++cs)) (G (F w.tape n) (C w.tape n++cs)) w1)).setIfInBounds 0 (G (F w.tape n) (C w.tape n++cs))).size=gs.size:=by simp
    obtain⟨N,gs',fr',c',v',w',VO,t',q',d',r1,r2,r3,r4,r5⟩:=ih w.tape n (sumTo gs.size q) (deafBehind d es') ((gs.map (woken P (G fr (c++cs)) (G (F w.tape n) (C w.tape n++cs)) w1)).setIfInBounds 0 (G (F w.tape n) (C w.tape n++cs))) w1 sl' (t++MemOp.ofEvents 0 fr.fn fr.place es') q (by rw[hsz]) g2
     ⟨by simp[WI],M7,by rw[Deaf_own,hC.deaf],⟨fun j x hj hx=>by
         have hne:0≠j:=by omega
         rw[zbb hne,Array.getElem?_map]at hx;obtain⟨y,hy,rfl⟩:=zbn.1 hx;have hq:=hL.old j y hj hy;rw[woken_quitsD hq,Deaf_other t (by omega) _ (fun op hop=>by obtain⟨e,_,rfl⟩:=Go.Conc.mem_ofEvents hop;rfl)];exact hq,fun j hj=>by rw[Deaf_other t (g':=0) (by simp at hj;omega) _ (fun op hop=>by obtain⟨e,_,rfl⟩:=Go.Conc.mem_ofEvents hop;rfl)];exact hL.above j (by simpa using hj)⟩,hC.past.own g5,fun j op hj=>by rw[hsz];exact IY hC.bd WI j op hj⟩
    refine⟨N+1,gs',fr',c',v',w',VO,t',q',d',?_,r2.trans hsz,r3,r4,r5⟩;simp only[runNT,hst,zq];exact r1
   ·have hq:=hL.old i g hpos hi;have hi0:(i == 0)=false:=by simp;omega
    have hlt:i<gs.size:=(zba.1 hi).1;cases Kj:q i with
    |zero=>rw[Kj]at hq;rw[hq.1]at hg;cases hg
    |succ k=>
     rw[Kj]at hq;rcases hq with⟨hf,_⟩|⟨_,g',es,hm,PV,fU⟩
     ·rw[hf]at hg;cases hg
     have zq:=runT_crowd_go (P:=P) (sl:=sl') (i:=i) hi (by rw[hi0];exact PV (w.at n));have hsz:((gs.map (woken P g g' (w.at n))).setIfInBounds i g').size=gs.size:=by simp
     have hsum:sumTo gs.size (Go.ConcN.upd q i k)+(k+1)=sumTo gs.size q+k:=by have:=sumTo_upd q k id hlt;simpa[Kj]using this
     obtain⟨N,gs',fr',c',v',w',VO,t',q',d',r1,r2,r3,r4,r5⟩:=ihM (sumTo gs.size (Go.ConcN.upd q i k)) (by omega) d ((gs.map (woken P g g' (w.at n))).setIfInBounds i g') (w.at n) sl' (t++MemOp.ofEvents i g.frame.fn g.frame.place es) (Go.ConcN.upd q i k) (by rw[hsz])
      ⟨hs.size,hs.same,hs.gu,hs.os,hs.out⟩
      ⟨by
        have hne:i≠0:=by omega
        rw[zbb hne,Array.getElem?_map,h0];simp[woken_run (show (G fr (c++cs)).status=.running from rfl)],hC.stk,by rw[Deaf_other t (g':=i) (by omega) _ (fun op hop=>by obtain⟨e,_,rfl⟩:=Go.Conc.mem_ofEvents hop;rfl)];exact hC.deaf,⟨fun j x hj hx=>by
        by_cases hji:i=j
        ·subst hji;rw[Array.getElem?_setIfInBounds_self_of_lt (by simpa using hlt)]at hx;obtain rfl:=Option.some.inj hx;rw[Go.ConcN.upd_same,Deaf_own];exact fU
        ·rw[zbb hji,Array.getElem?_map]at hx;obtain⟨y,hy,rfl⟩:=zbn.1 hx;have hqj:=hL.old j y hj hy;rw[woken_quitsD hqj,Go.ConcN.upd_ne q k (Ne.symm hji),Deaf_other t hji _ (fun op hop=>by obtain⟨e,_,rfl⟩:=Go.Conc.mem_ofEvents hop;rfl)];exact hqj,fun j hj=>by rw[Deaf_other t (g':=i) (by simp at hj;omega) _ (fun op hop=>by obtain⟨e,_,rfl⟩:=Go.Conc.mem_ofEvents hop;rfl)];exact hL.above j (by simpa using hj)⟩,hC.past.mute hm,fun j op hj=>by rw[hsz];exact IY hC.bd hlt j op hj⟩
     refine⟨N+1,gs',fr',c',v',w',VO,t',q',d',?_,r2.trans hsz,r3,r4,r5⟩;simp only[runNT,hst,zq];exact r1
end
end
section
open Go Go.Conc Go.ConcN
noncomputable def gu(Sb:Nat->Prop)(w:World):World:={w with heap:=w.heap.mapIdx fun i o=>open Classical in if Sb i then(match o with|.cells c t _=>.pending c t|o=>o)else o}
def CX(Sb:Nat->Prop)(w:World):Prop:=∀b,Sb b->∃c t,c.size≠0/\w.heap[b]?=some (.cells c t (0,0))
section
variable {P:Program}{T:gI}{Sb:Nat->Prop}
theorem yP(h:CX Sb w):eJ Sb (gu Sb w) w:=by
 refine⟨by simp[gu],fun i hi=>?_,fun i hi=>?_,rfl,rfl⟩
 ·simp only[gu,Array.getElem?_mapIdx,if_neg hi];cases w.heap[i]? <;>rfl
 ·obtain⟨c,t,h0,h1⟩:=h i hi;refine⟨c,t,h0,?_,h1⟩;simp only[gu,Array.getElem?_mapIdx,h1,Option.map_some,if_pos hi]
theorem LB(w:World):gu (fun _=>False) w=w:=by
 have e:(gu (fun _=>False) w).heap=w.heap:=by
  apply Array.ext_getElem?;intro i;simp only[gu,Array.getElem?_mapIdx];cases w.heap[i]? with
  |none=>rfl
  |some o=>simp
 show ({w with heap:=(gu (fun _=>False) w).heap}:World)=w;rw[e]
theorem OA{v:World}(h:eJ (fun _=>False) v w):v.heap=w.heap:=by apply Array.ext_getElem?;intro i;exact h.same i fun h=>h
theorem Dj(hT:gY P T)(hG:∀Sb,oJ P T Sb)(G4:∀g c,T.tgt g c=false)(hQ:∀fr c v tp n,Q fr c v->Q fr c (wt v tp n)){c:List Frame}{q:Nat->Nat}(hC:Crowd P T Sb d fr c cs gs t q)(hw:CX Sb w)(hR:∀tp n,Reach P Q fr c (wt (gu Sb w) tp n))(sl:Option (Nat×Nat)):
 ∃N gs' fr' c' v' w' sl' t' q' d',runNT P N (crowd gs w sl) t=(.next (crowd gs' w' sl'),t')/\gs'.size=gs.size/\Q fr' c' v'/\eJ Sb v' w'/\Crowd P T Sb d' fr' c' cs gs' t' q':=
 Mj hT (hG Sb) G4 (Mk hT (hG _) G4 hQ hC.stk hR) _ d gs w sl t q rfl (yP hw) hC
theorem mS{m1:Machine}{t1:Trace}:∀(a:Nat) {m:Machine} {t:Trace} (b:Nat),runNT P a m t=(.next m1,t1)->runNT P (a+b) m t=runNT P b m1 t1
 | 0,m,t,b,h=>by simp only[runNT,Prod.mk.injEq,Stepped.next.injEq]at h;obtain⟨rfl,rfl⟩:=h;rw[Nat.zero_add]
 |a+1,m,t,b,h=>by
  rw[Nat.add_right_comm];simp only[runNT]at h⊢;cases hs:stepT P m with
  |mk s ops=>
   rw[hs]at h;cases s with
   |next m'=>simp only at h⊢;exact mS a b h
   |ended o w=>simp only at h;cases h
theorem Dk(gs:Array Goroutine)(h:gs.size=1):Leavers P #[] gs (fun _=>0):=⟨fun i g hi hg=>by have:=(zba.1 hg).1;omega,fun j _=>rfl⟩
theorem E9(hS:AG T 0 fr []):Crowd P T (fun _=>False) 0 fr [] [] #[G fr []] #[] (fun _=>0):=by
 refine⟨rfl,hS,rfl,Dk _ rfl,⟨fun said=>?_,fun i a ha=>?_,fun i g hg=>?_⟩,fun i op h=>by simp at h⟩
 ·rintro⟨i,j,_,⟨a,b,ha,_⟩,_⟩;simp[Trace.act?]at ha
 ·obtain⟨x,hx,_⟩:=touch_of ha;simp at hx
 ·simp[Trace.g?]at hg
theorem Ij{Post:Value->World->Prop}:∀(M:Nat) (d:Nat) (gs:Array Goroutine) (w:World) (sl:Option (Nat×Nat)) (t:Trace) (q:Nat->Nat),sumTo gs.size q=M->Crowd P T Sb d fr [] [] gs t q->(∀n,stepG P true (G fr []) (w.at n)=.ended (.done x) (w.at n) #[]/\Post x (w.at n))->
 ∃N last o w' t',runNT P (N+1) (crowd gs w sl) t=(.ended o w',t')/\runN P N (crowd gs w sl)=.next last/\step P last=.ended o w'/\Conc.Good P Post last o w' t':=by
 intro M;induction M using Nat.strongRecOn with
 |_ M ihM=>
  intro d gs w sl t q hM hC hend;have h0:=hC.at0;have hL:=hC.lv;have WI:0<gs.size:=(zba.1 h0).1;have TV:∀g∈gs,awake g:=by
   intro g hg;obtain⟨i,hi,rfl⟩:=Array.mem_iff_getElem.1 hg;rcases zbm i with rfl|hpos
   ·have:gs[0]=G fr ([]++ []):=by simpa[Array.getElem?_eq_getElem hi]using h0
    rw[this];exact awake_of (.inl rfl)
   ·exact awake_of ((hL.old i _ hpos (Array.getElem?_eq_getElem hi)).status.elim .inl fun x=>.inr (.inr x))
  obtain⟨i,g,n,sl',hi,hg,hst⟩:=crowd_pick (P:=P) (w:=w) (sl:=sl) TV ⟨0,_,h0,rfl⟩;rcases zbm i with rfl|hpos
  ·obtain rfl:g=G fr []:=by rw[h0]at hi;exact(Option.some.inj hi).symm
   obtain⟨he,hp⟩:=hend n;have zq:=runT_many_ended (P:=P) (sl:=sl') (i:=0) hi (show stepG P (0 == 0) (G fr []) (w.at n)=_ from he);have hP':=hC.past.own (fn:=fr.fn) (pos:=fr.place) (es:=#[]) (fun e he=>by simp at he);have ht0:stepT P (crowd gs w sl)=(.ended (.done x) (w.at n),MemOp.ofEvents 0 fr.fn fr.place #[]):=hst.trans zq;refine⟨0,crowd gs w sl,.done x,w.at n,t++MemOp.ofEvents 0 fr.fn fr.place #[],by simp only[runNT,ht0],rfl,by rw[step,ht0],x,rfl,hp,hP'.clean,hP'.over,⟨fun y hy=>?_,rfl⟩,fun j y hy hj=>?_⟩
   ·obtain⟨j,hj⟩:=List.mem_iff_getElem?.1 hy;rw[List.getElem?_drop]at hj;exact⟨_,(hL.old (1+j) y (by omega) (by simpa[crowd]using hj)).leaves⟩
   ·have hq:=hL.old j y (by omega) hy;refine⟨q j,?_⟩;have e:(t++MemOp.ofEvents 0 fr.fn fr.place #[]).deaf j (t++MemOp.ofEvents 0 fr.fn fr.place #[]).size=Deaf t j:=
     Deaf_other t (g:=j) (g':=0) (by omega) _ (fun op hop=>by obtain⟨e,_,rfl⟩:=Go.Conc.mem_ofEvents hop;rfl)
    rw[e];exact hq.hears _
  ·have hq:=hL.old i g hpos hi;have hi0:(i == 0)=false:=by simp;omega
   have hlt:i<gs.size:=(zba.1 hi).1;cases Kj:q i with
   |zero=>rw[Kj]at hq;rw[hq.1]at hg;cases hg
   |succ k=>
    rw[Kj]at hq;rcases hq with⟨hf,_⟩|⟨_,g',es,hm,PV,fU⟩
    ·rw[hf]at hg;cases hg
    have zq:=runT_crowd_go (P:=P) (sl:=sl') (i:=i) hi (by rw[hi0];exact PV (w.at n));have hsz:((gs.map (woken P g g' (w.at n))).setIfInBounds i g').size=gs.size:=by simp
    have hsum:sumTo gs.size (Go.ConcN.upd q i k)+(k+1)=sumTo gs.size q+k:=by have:=sumTo_upd q k id hlt;simpa[Kj]using this
    obtain⟨N,last,o,w',t',r1,r2,r3,r4⟩:=ihM (sumTo gs.size (Go.ConcN.upd q i k)) (by omega) d ((gs.map (woken P g g' (w.at n))).setIfInBounds i g') (w.at n) sl' (t++MemOp.ofEvents i g.frame.fn g.frame.place es) (Go.ConcN.upd q i k) (by rw[hsz])
     ⟨by
       have hne:i≠0:=by omega
       rw[zbb hne,Array.getElem?_map,h0];simp[woken_run (show (G fr []).status=.running from rfl)],hC.stk,by rw[Deaf_other t (g':=i) (by omega) _ (fun op hop=>by obtain⟨e,_,rfl⟩:=Go.Conc.mem_ofEvents hop;rfl)];exact hC.deaf,⟨fun j x hj hx=>by
       by_cases hji:i=j
       ·subst hji;rw[Array.getElem?_setIfInBounds_self_of_lt (by simpa using hlt)]at hx;obtain rfl:=Option.some.inj hx;rw[Go.ConcN.upd_same,Deaf_own];exact fU
       ·rw[zbb hji,Array.getElem?_map]at hx;obtain⟨y,hy,rfl⟩:=zbn.1 hx;have hqj:=hL.old j y hj hy;rw[woken_quitsD hqj,Go.ConcN.upd_ne q k (Ne.symm hji),Deaf_other t hji _ (fun op hop=>by obtain⟨e,_,rfl⟩:=Go.Conc.mem_ofEvents hop;rfl)];exact hqj,fun j hj=>by rw[Deaf_other t (g':=i) (by simp at hj;omega) _ (fun op hop=>by obtain⟨e,_,rfl⟩:=Go.Conc.mem_ofEvents hop;rfl)];exact hL.above j (by simpa using hj)⟩,hC.past.mute hm,fun j op hj=>by rw[hsz];exact IY hC.bd hlt j op hj⟩ (fun n'=>hend n')
    have aaT:stepT P (crowd gs w sl)=(.next (crowd ((gs.map (woken P g g' (w.at n))).setIfInBounds i g') (w.at n) sl'),MemOp.ofEvents i g.frame.fn g.frame.place es):=hst.trans zq;refine⟨N+1,last,o,w',t',?_,?_,r3,r4⟩
    ·rw[show N+1+1=(N+1)+1 from rfl];simp only[runNT,aaT]at r1⊢;exact r1
    ·rw[runN_succ_next aaT];exact r2
end
end
section
open Go Go.Conc
def To(P:Program)(Q:Frame->List Frame->World->Prop)(fr:Frame)(c:List Frame)(w:World):Prop:=∀cs,∃fr' c' w',Q fr' c' w'/\Steps P (lone fr (c++cs) w) (lone fr' (c'++cs) w')
section
variable {P:Program}{Q Q':Frame->List Frame->World->Prop}{fr gC b:Frame}{c c1:List Frame}{w w1:World}{a:Act}{k:List Item}{x rest:Code}
theorem To.done(h:Q fr c w):To P Q fr c w:=fun _=>⟨fr,c,w,h,.refl P _⟩
theorem To.then(h:To P Q fr c w)(hq:∀fr c w,Q fr c w->To P Q' fr c w):To P Q' fr c w:=fun cs=>by obtain⟨f1,c1,w1,h1,s1⟩:=h cs;obtain⟨f2,c2,w2,h2,s2⟩:=hq f1 c1 w1 h1 cs;exact⟨f2,c2,w2,h2,s1.trans s2⟩
theorem To.step(hs:∀cs,step P (lone fr (c++cs) w)=.next (lone gC (c1++cs) w1))(h:To P Q gC c1 w1):To P Q fr c w:=fun cs=>by obtain⟨f2,c2,w2,h2,s2⟩:=h cs;exact⟨f2,c2,w2,h2,.head (hs cs) s2⟩
theorem To.code{R:Act->World->Prop}(hx:x.wp P (Exit.then R fun _ _ _=>False) a w)(h:∀a' w',R a' w'->To P Q (b.at a' k) c w'):To P Q (b.at a (.code x :: k)) c w:=fun cs=>by
 obtain⟨e,a',w',hq,Lt⟩:=hx b k (c++cs);cases e with
 |normal=>
  obtain⟨f2,c2,w2,h2,s2⟩:=h a' w' hq cs;exact⟨f2,c2,w2,h2,Steps.trans Lt s2⟩
 |_=>exact hq.elim
theorem To.gP(h:∀K:Act->World->Prop,(∀a w,To P Q (b.at a (.code rest :: k)) c w->K a w)->x.wp P (Exit.then K fun _ _ _=>False) a w):To P Q (b.at a (.code (x.seq rest):: k)) c w:=
 .step (fun _=>step_seq) (.code (h _ fun _ _ h=>h) fun _ _ h=>h)
theorem To.last{R:Act->World->Prop}(hx:x.wp P (fun e a w=>(e=.normal\/e=.ret)/\R a w) a w)(hk:k= [])(h:∀a' todo w',R a' w'->To P Q {b.at a' todo with mode:=.returning} c w'):To P Q (b.at a (.code x :: k)) c w:=fun cs=>by
 subst hk;obtain⟨e,a',w',⟨he,hq⟩,Lt⟩:=hx b [] (c++cs);rcases he with rfl|rfl
 ·obtain⟨f2,c2,w2,h2,s2⟩:=h a' [] w' hq cs;exact⟨f2,c2,w2,h2,Steps.trans Lt (.head step_end s2)⟩
 ·obtain⟨todo,hst⟩:=Lt;obtain⟨f2,c2,w2,h2,s2⟩:=h a' todo w' hq cs;exact⟨f2,c2,w2,h2,Steps.trans hst s2⟩
theorem To.region{id:Nat}{ops:Array Oper}(h:To P Q (b.at a (.inRegion ops (List.range ops.size):: k)) c w):To P Q (b.at a (.code (.region id ops false):: k)) c w:=.step (fun _=>step_region) h
theorem To.ops{ops:Array Oper}{is:List Nat}{R:Act->World->Prop}(hx:wpOps P ops (Exit.then R fun _ _ _=>False) is a w)(h:∀a' w',R a' w'->To P Q (b.at a' k) c w'):To P Q (b.at a (.inRegion ops is :: k)) c w:=fun cs=>by
 obtain⟨e,a',w',hq,Lt⟩:=wp_ops is a w hx b k (c++cs);cases e with
 |normal=>
  obtain⟨f2,c2,w2,h2,s2⟩:=h a' w' hq cs;exact⟨f2,c2,w2,h2,Steps.trans Lt s2⟩
 |_=>exact hq.elim
theorem mR(h:o.guard=none)(f:Nat->Option Bool):Region.wanted o f=true:=by unfold Region.wanted;rw[h]
theorem yF{ops:Array Oper}{E:Exit->Act->World->Prop}(j:Nat):wpOps P ops E (List.range' j (ops.toList.drop j).length)=wpList P ops E (ops.toList.drop j):=wpOps_eq_wpList _ j fun i=>by rw[List.getElem?_drop];simp
theorem To.T9{ops:Array Oper}(h:∀K:Act->World->Prop,(∀a w,To P Q (b.at a k) c w->K a w)->wpOps P ops (Exit.then K fun _ _ _=>False) is a w):To P Q (b.at a (.inRegion ops is :: k)) c w:=.ops (h _ fun _ _ h=>h) fun _ _ h=>h
theorem To.op{ops:Array Oper}(ho:ops[i]?=some o)(hw:Region.wanted o (yielded ops a.tmps)=true)(hr:(execOp a.eval o).run P w=.ok (.value v) w1)(h:To P Q (b.at (a.put o.dst v) (.inRegion ops is :: k)) c w1):To P Q (b.at a (.inRegion ops (i :: is):: k)) c w:=by refine .step (fun cs=>step_lone_go ?_) h;rw[stepG_op ho hw];simp only[stepG.apply,Sem.runT_eq,if_true,hr];rw[Frame.finish_at,ho];rfl
theorem To.enter{ops:Array Oper}{i:Nat}{is:List Nat}{o:Oper}{f:FuncId}{args:Array Value}(ho:ops[i]?=some o)(hw:Region.wanted o (yielded ops a.tmps)=true)(hr:(execOp a.eval o).run P w=.ok (.enter f args) w1)(h:To P Q (Frame.enter P f args .normal) (b.at a (.inRegion ops (i :: is):: k):: c) w1):To P Q (b.at a (.inRegion ops (i :: is):: k)) c w:=by refine .step (c1:=b.at a (.inRegion ops (i :: is):: k):: c) (fun cs=>step_lone_go ?_) h;rw[stepG_op ho hw];simp only[stepG.apply,Sem.runT_eq,if_true,hr];rfl
theorem To.leave(hl:fr.leaving P w (.returned v))(h:To P Q (cl.finish v) c w):To P Q fr (cl :: c) w:=.step (fun _=>step_leave_returned hl) h
theorem yG{ops:Array Oper}(ho:ops[i]?=some o):(b.at a (.inRegion ops (i :: is):: k)).finish v=b.at (a.put o.dst v) (.inRegion ops is :: k):=by rw[Frame.finish_at,ho];rfl
theorem enter_at{body:Code}(hf:P.funcs[f]?=some fn)(hb:fn.body=some body)(args:Array Value):Frame.enter P f args .normal=({fn:=f,tmps:=#[],todo:= [],defers:= [],mode:=.run,kind:=.normal,roundOf:=none}:Frame).at ⟨args++Array.replicate (fn.ntmps-args.size) undef, []⟩ [.code body]:=by simp[Frame.enter,Frame.at,hf,hb]
theorem To.reach(h:To P Q fr c w)(hn:∀fr c w,Q fr c w->iT fr c):Reach P Q fr c w:=by obtain⟨f2,c2,w2,h2,n,hn2⟩:=h [cQ P];exact⟨n,f2,c2,w2,hn2,h2,hn _ _ _ h2⟩
end
end
end Go.Proofs.YteoahlieielcdaaGreat
