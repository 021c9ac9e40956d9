import Derived.Test.YteoahlieielcdaaGreatBase
import Derived.Conc.Deaf
set_option linter.all false
namespace Go.Proofs.YteoahlieielcdaaGreat
abbrev za5:=@Array.getElem?_setIfInBounds_ne
abbrev za6:=@List.mem_cons_of_mem
abbrev za7:=@Option.bind_eq_some_iff
abbrev za8:=@Array.getD_eq_getD_getElem?
variable{P:Program}{o:Obj}{b sy:Bool}{v v1 w w':World}{at_ k a:Addr}{x y:Value}{l:List Addr}{h:Halt}{r i n id:Nat}{es es':Array Event}{c:Array Value}{f:FuncId}{m:Mode}{ops:Array Oper}{is:List Nat}
section
open Go
theorem j4(op:BinOp)(k:IntKind)(x y:Int):NM (Op.intArith op k x y):=by unfold Op.intArith;(repeat' (first|(with_reducible first|exact NM.pure' _|exact aB ..)|dsimp only|split|intro _))
theorem sM(op:BinOp)(k:IntKind)(x y:Int):NM (Op.intBits op k x y):=by unfold Op.intBits;(repeat' (first|(with_reducible first|exact NM.pure' _|exact aB ..)|dsimp only|split|intro _))
end
section
open Go
def qE:Op->Bool
 |.move _|.assign _|.pick _ _ _|.alloc _|.box _ _|.build _ _|.buildSlice _ _ _|.load _ _|.store _ _ _|.nilCheck _|.binOp _ _ _ _ _|.unOp _ _ _|.makeInterface _ _
 |.makeFunc _ _ _|.makeMap _ _|.makeSlice _ _ _|.slice _ _ _ _ _|.fieldAddr _ _ _|.field _ _ _|.indexAddr _ _ _|.index _ _ _|.lookup _ _ _ _|.mapUpdate _ _ _ _|.range _ _|.next _ _|.entry _|.extract _ _|.panic _=>true
 |.convert s d _=>!(s == d)
 |_=>false
def Dv:Builtin->Bool
 |.len|.append|.copy|.delete|.max|.unsafeString=>true
 |_=>false
inductive gG{α:Type}(Q:α->Prop):Sem α->Prop
 |pure {a:α}:Q a->gG Q (.pure a)
 |load {m:Mode} {a:Addr} {k:Value->Sem α}:(∀v,gG Q (k v))->gG Q (.load m a k)
 |store {m:Mode} {a:Addr} {v:Value} {k:Sem α}:gG Q k->gG Q (.store m a v k)
 |new {o:Obj} {k:Nat->Sem α}:(∀r,gG Q (k r))->gG Q (.new o k)
 |shape {r:Nat} {k:Option (TypeId×Nat)->Sem α}:(∀s,gG Q (k s))->gG Q (.shape r k)
 |freeze {a:Addr} {n:Nat} {k:Sem α}:gG Q k->gG Q (.freeze a n k)
 |frozen {a:Addr} {k:Bool->Sem α}:(∀b,gG Q (k b))->gG Q (.frozen a k)
 |getObj {r:Nat} {k:Obj->Sem α}:(∀o,gG Q (k o))->gG Q (.getObj r k)
 |setObj {r:Nat} {o:Obj} {k:Sem α}:gG Q k->gG Q (.setObj r o k)
 |choose {q:Question} {k:Nat->Sem α}:(∀n,gG Q (k n))->gG Q (.choose q k)
 |sys {c:Sys} {k:SysRet->Sem α}:(∀r,gG Q (k r))->gG Q (.sys c k)
 |program {k:Program->Sem α}:(∀p,gG Q (k p))->gG Q (.program k)
 |mark {m:Mark} {k:Sem α}:gG Q k->gG Q (.mark m k)
 |halt {h:Halt}:gG Q (.halt h)
theorem iW{α β:Type}{Q:β->Prop}(s:Sem α){f:α->Sem β}(hf:∀a,gG Q (f a)):gG Q (s >>= f):=by
 show gG Q (s.bind f);induction s with
 |pure a=>exact hf a
 |load _ _ _ ih=>exact .load fun v=>ih v
 |store _ _ _ _ ih=>exact .store ih
 |new _ _ ih=>exact .new fun r=>ih r
 |shape _ _ ih=>exact .shape fun r=>ih r
 |freeze _ _ _ ih=>exact .freeze ih
 |frozen _ _ ih=>exact .frozen fun r=>ih r
 |getObj _ _ ih=>exact .getObj fun r=>ih r
 |setObj _ _ _ ih=>exact .setObj ih
 |choose _ _ ih=>exact .choose fun r=>ih r
 |sys _ _ ih=>exact .sys fun r=>ih r
 |program _ ih=>exact .program fun r=>ih r
 |mark _ _ ih=>exact .mark ih
 |halt _=>exact .halt
theorem gG.out{α:Type}{Q:α->Prop}{s:Sem α}(h:gG Q s):∀{w:World} {es:Array Event} {a:α} {w':World} {es':Array Event},s.runT P w es=(.ok a w',es')->Q a:=by
 induction h with
 |pure h=>intro w es a w' es' hr;cases hr;exact h
 |load _ ih=>intro w es a w' es' hr;simp only[Sem.runT]at hr;split at hr;exact ih _ hr;split at hr;exact ih _ hr;cases hr
 |store _ ih=>
  intro w es a w' es' hr;rename_i m b v k _;cases v<;>simp only[Sem.runT]at hr<;>first|(cases hr;done)|(split at hr<;>split at hr<;>first|(cases hr;done)|exact ih hr)
 |new _ ih=>intro w es a w' es' hr;exact ih _ hr
 |shape _ ih=>intro w es a w' es' hr;exact ih _ hr
 |freeze _ ih=>intro w es a w' es' hr;exact ih hr
 |frozen _ ih=>intro w es a w' es' hr;exact ih _ hr
 |getObj _ ih=>intro w es a w' es' hr;simp only[Sem.runT]at hr;split at hr;cases hr;exact ih _ hr;cases hr
 |setObj _ ih=>intro w es a w' es' hr;simp only[Sem.runT]at hr;split at hr;cases hr;exact ih hr;cases hr
 |choose _ ih=>intro w es a w' es' hr;simp only[Sem.runT]at hr;split at hr<;>exact ih _ hr
 |sys _ ih=>intro w es a w' es' hr;exact ih _ hr
 |program _ ih=>intro w es a w' es' hr;exact ih _ hr
 |mark _ ih=>intro w es a w' es' hr;exact ih hr
 |halt=>intro w es a w' es' hr;cases hr
def xT(n:Next):Prop:=(∃v,n=.value v)\/n=.skip
theorem z6(s:Sem Value):gG xT (do pure (Next.value (<-s)):Sem Next):=iW s fun _=>.pure (.inl ⟨_,rfl⟩)
theorem M4(s:Sem Unit):gG xT (do s;pure Next.skip:Sem Next):=iW s fun _=>.pure (.inr rfl)
theorem zW{Q:Next->Prop}:gG Q (runtimePanic RuntimeError.nilDeref:Sem Next):=by unfold runtimePanic;exact iW _ fun _=>.halt
theorem MN{ρ:Operand->Value}{o:Oper}(h:qE o.op=true):gG xT (execOp ρ o):=by
 unfold execOp;cases ho:o.op<;>rw[ho]at h<;>first|(cases h;done)|skip
 case nilCheck x=>
  dsimp only;repeat' (first|exact zW|exact .pure (.inl ⟨_,rfl⟩)|exact .halt|with_reducible refine iW _ (fun _=>?_)|split)
 all_goals first
  |exact .pure (.inl ⟨_,rfl⟩)
  |exact z6 _|exact M4 _
  |exact iW _ fun _=>.pure (.inl ⟨_,rfl⟩)
theorem DN{b:Builtin}(h:Dv b=true)(a:Array TypeId)(t:TypeId)(c:Array Bool)(x:Array Value):gG xT (builtin b a t c x):=by unfold builtin;cases b<;>first|(cases h;done)|exact z6 _
end
section
open Go
theorem fS{α β:Type}(s:Sem α)(f:α->Sem β):∀(w:World) (es:Array Event),(s >>= f).runT P w es=match s.runT P w es with|(.ok a w',es')=>(f a).runT P w' es'|(.halt h w',es')=>(.halt h w',es'):=by
 show∀(w:World) (es:Array Event),(s.bind f).runT P w es=_;induction s with
 |pure a=>intro w es;rfl
 |load m a k ih=>
  intro w es;simp only[Sem.bind,Sem.runT];cases w.cell? a with
  |some v=>exact ih _ _ _
  |none=>
   simp only;cases w.farLoad P a (m == .atomic)with
   |ok x=>exact ih _ _ _
   |error h=>rfl
 |store m a v k ih=>
  intro w es;cases v<;>simp only[Sem.bind,Sem.runT]<;>first
   |rfl
   |(cases w.cell? a with
     |some x=>
      simp only
      split
      ·rfl
      ·exact ih _ _
     |none=>
      simp only
      split
      ·exact ih _ _
      ·rfl)
 |new o k ih=>intro w es;exact ih _ _ _
 |shape r k ih=>intro w es;exact ih _ _ _
 |freeze a n k ih=>intro w es;exact ih _ _
 |frozen a k ih=>intro w es;exact ih _ _ _
 |getObj r k ih=>
  intro w es;simp only[Sem.bind,Sem.runT];split
  ·rfl
  ·exact ih _ _ _
  ·rfl
 |setObj r o k ih=>
  intro w es;simp only[Sem.bind,Sem.runT];split
  ·rfl
  ·exact ih _ _
  ·rfl
 |choose q k ih=>
  intro w es;simp only[Sem.bind,Sem.runT];split
  ·exact ih _ _ _
  ·exact ih _ _ _
 |sys c k ih=>intro w es;exact ih _ _ _
 |program k ih=>intro w es;exact ih _ _ _
 |mark m k ih=>intro w es;exact ih _ _
 |halt h=>intro w es;rfl
end
section
open Go
structure eJ(Sb:Nat->Prop)(v w:World):Prop where
 size:v.heap.size=w.heap.size
 same:∀i,¬Sb i->v.heap[i]?=w.heap[i]?
 gu:∀i,Sb i->∃c t,c.size≠0/\v.heap[i]?=some (.pending c t)/\w.heap[i]?=some (.cells c t (0,0))
 os:v.os=w.os
 out:v.output=w.output
def Nj(Sb:Nat->Prop)(e:Event):Prop:=∀x a,(MemAct.ofEvent e).touch?=some x->x.loc=.cell a->x.kind=.plain->¬Sb a.block
def EvQ(Sb:Nat->Prop)(qt:Prop)(e:Event):Prop:=Nj Sb e/\(qt->e.loc≠.mark .disable/\e.loc≠.mark .enable)
structure af(P:Program)(Sb:Nat->Prop)(qt:Prop){α:Type}(s:Sem α):Prop where
 Ar:∀{v w:World} {x:α} {v':World},eJ Sb v w->s.run P v=.ok x v'->Km v w (v'.drawn-v.drawn)->∀es,∃w' es',s.runT P w es=(.ok x w',es')/\eJ Sb v' w'/\w'.tape=w.tape/\w'.drawn=w.drawn+(v'.drawn-v.drawn)/\∀e∈es',e∈es\/EvQ Sb qt e
structure oP(P:Program){α:Type}(s:Sem α):Prop where
 no:∀(v:World) (x:α) (v':World),s.run P v≠.ok x v'
section
variable {P:Program}{Sb:Nat->Prop}{qt:Prop}{α β:Type}
theorem run_bind{s:Sem α}{f:α->Sem β}(w:World):(s >>= f).run P w=match s.run P w with|.ok a w'=>(f a).run P w'|.halt h w'=>.halt h w':=by
 have h:=congrArg Prod.fst (fS (P:=P) s f w #[]);rw[Sem.runT_fst]at h;rw[h,<-Sem.runT_fst P s w #[]];cases hs:s.runT P w #[]with
 |mk r es=>
  cases r with
  |ok a w'=>simp only;rw[Sem.runT_fst]
  |halt h w'=>rfl
theorem zk{α:Type}:∀(k:Ask α) (v:World),(v.ask k).2.tape=v.tape/\v.drawn<=(v.ask k).2.drawn
 |.done a,v=>⟨rfl,Nat.le_refl _⟩
 |.ask what range k,v=>by
  unfold World.ask;dsimp only;split
  ·exact zk (k 0) v
  ·obtain⟨h1,h2⟩:=zk (k ((Question.extern what range).cut (v.tape v.drawn (Question.extern what range)))) {v with drawn:=v.drawn+1};exact⟨h1,by simp only at h2;omega⟩
theorem PS(c:Sys)(v:World):(v.sys c).2.tape=v.tape/\v.drawn<=(v.sys c).2.drawn:=by
 unfold World.sys;have h:=zk (Kernel.perform c v.os) v;split
 ·exact⟨rfl,Nat.le_refl _⟩
 ·rename_i h1;rw[h1]at h;exact h
theorem jk(v:World)(a:Addr)(n:Nat):(v.freeze a n).tape=v.tape/\(v.freeze a n).drawn=v.drawn:=by unfold World.freeze;split<;>exact⟨rfl,rfl⟩
theorem zl{u:TypeId}(h:v.viewStore P at_ u k x b=.ok (v1,l)):v1.tape=v.tape/\v1.drawn=v.drawn:=by
 unfold World.viewStore at h;simp only[bind,Except.bind,pure,Except.pure]at h;repeat' (split at h)
 all_goals first|(cases h;done)|(cases h;exact⟨rfl,rfl⟩)
theorem mX(s:Sem α):∀{v:World} {x:α} {v':World},s.run P v=.ok x v'->v'.tape=v.tape/\v.drawn<=v'.drawn:=by
 induction s with
 |pure _=>intro v x v' hr;cases hr;exact⟨rfl,Nat.le_refl _⟩
 |load _ _ _ ih=>intro v x v' hr;simp only[Sem.run]at hr;split at hr;exact ih _ hr;split at hr;exact ih _ hr;cases hr
 |store m a y k ih=>
  have key:∀{v:World} {x:α} {v':World} {y:Value},((match v.cell? a with
   |some _=>if v.frozen? a then .halt (.unsupported (.unsafePointer "a write to bytes that a string shares")) v else k.run P (v.setCell a y)
   |none=>match v.farStore P a y (m == .atomic)with
    |.ok (w,_)=>k.run P w
    |.error h=>.halt h v):Result α)=.ok x v'->v'.tape=v.tape/\v.drawn<=v'.drawn:=by
   intro v x v' y hr
   split at hr
   ·split at hr
    ·cases hr
    ·have:=ih hr;exact this
   ·split at hr
    ·rename_i w1 l hf
     unfold World.farStore at hf
     split at hf
     ·split at hf
      ·rename_i r hv
       cases hf
       obtain⟨e1,e2⟩:=zl hv
       obtain⟨h1,h2⟩:=ih hr
       exact⟨h1.trans e1,by omega⟩
      ·cases hf
     ·cases hf
    ·cases hr
  intro v x v' hr;cases y<;>simp only[Sem.run]at hr<;>first|(cases hr;done)|exact key hr
 |new _ _ ih=>intro v x v' hr;have:=ih _ hr;exact this
 |shape _ _ ih=>intro v x v' hr;exact ih _ hr
 |freeze a n _ ih=>intro v x v' hr;have:=ih hr;rw[(jk v a n).1,(jk v a n).2]at this;exact this
 |frozen _ _ ih=>intro v x v' hr;exact ih _ hr
 |getObj _ _ ih=>intro v x v' hr;simp only[Sem.run]at hr;split at hr;cases hr;exact ih _ hr;cases hr
 |setObj _ _ _ ih=>intro v x v' hr;simp only[Sem.run]at hr;split at hr;cases hr;(have:=ih hr;exact this);cases hr
 |choose _ _ ih=>
  intro v x v' hr;simp only[Sem.run]at hr;split at hr
  ·exact ih _ hr
  ·obtain⟨h1,h2⟩:=ih _ hr;exact⟨h1,by simp only at h2;omega⟩
 |sys c _ ih=>
  intro v x v' hr;obtain⟨h1,h2⟩:=ih _ hr;obtain⟨h3,h4⟩:=PS c v;exact⟨h1.trans h3,by omega⟩
 |program _ ih=>intro v x v' hr;exact ih _ hr
 |mark _ _ ih=>intro v x v' hr;exact ih hr
 |halt _=>intro v x v' hr;cases hr
theorem af.bind{s:Sem α}{f:α->Sem β}(h:af P Sb qt s)(hf:∀a,af P Sb qt (f a)):af P Sb qt (s >>= f):=by
 constructor;intro v w x v' hs hr hg es;rw[run_bind]at hr;cases h1:s.run P v with
 |halt _ _=>rw[h1]at hr;cases hr
 |ok a v1=>
  rw[h1]at hr;simp only at hr;obtain⟨t1,d1⟩:=mX s h1;obtain⟨t2,d2⟩:=mX (f a) hr;obtain⟨w1,xN,q1,q2,q3,q4,q5⟩:=h.Ar hs h1 (fun k hk q=>hg k (by omega) q) es;obtain⟨w2,xK,r1,r2,r3,r4,r5⟩:=(hf a).Ar q2 hr (fun k hk q=>by have:=hg (k+(v1.drawn-v.drawn)) (by omega) q;rw[t1,q3,q4,show v1.drawn+k=v.drawn+(k+(v1.drawn-v.drawn)) by omega,show w.drawn+(v1.drawn-v.drawn)+k=w.drawn+(k+(v1.drawn-v.drawn)) by omega];exact this) xN
  refine⟨w2,xK,by rw[fS,q1];exact r1,r2,r3.trans q3,by omega,fun e he=>?_⟩;rcases r5 e he with h3|h3
  ·exact q5 e h3
  ·exact .inr h3
theorem af.qy{s:Sem α}(h:oP P s):af P Sb qt s:=⟨fun _ hr _=>absurd hr (h.no _ _ _)⟩
theorem qz:oP P (.halt h:Sem α):=⟨fun _ _ _ h=>by cases h⟩
theorem dz(s:String):oP P (stuck s:Sem α):=qz
theorem gW(u:Unsupported):oP P (unsupported u:Sem α):=qz
theorem om(v:Value):oP P (goPanic v:Sem α):=qz
theorem kT{s:Sem α}{f:α->Sem β}(h:∀a,oP P (f a)):oP P (s >>= f):=⟨fun v x v' hr=>by
 rw[run_bind]at hr;split at hr
 ·exact(h _).no _ _ _ hr
 ·cases hr⟩
theorem gX{s:Sem α}{f:α->Sem β}(h:oP P s):oP P (s >>= f):=⟨fun v x v' hr=>by
 rw[run_bind]at hr;split at hr
 ·rename_i h1;exact h.no _ _ _ h1
 ·cases hr⟩
theorem af.pure{a:α}:af P Sb qt (.pure a:Sem α):=⟨fun hs hr _ es=>by
 cases hr;exact⟨_,es,rfl,hs,rfl,by omega,fun e he=>.inl he⟩⟩
theorem af.pure'(a:α):af P Sb qt (Pure.pure a:Sem α):=af.pure
theorem af.halt{h:Halt}:af P Sb qt (.halt h:Sem α):=.qy qz
theorem zm{wr:Bool}(h:¬Sb a.block):EvQ Sb qt ⟨.cell a,wr,sy⟩:=⟨fun x b hx hl _=>by have e:MemAct.ofEvent ⟨.cell a,wr,sy⟩=.access ⟨.cell a,wr,sy⟩:=rfl;rw[e]at hx;simp only[MemAct.touch?,Option.some.injEq]at hx;subst hx;cases hl;exact h,fun _=>⟨by simp,by simp⟩⟩
theorem Di{wr:Bool}:EvQ Sb qt ⟨.obj r,wr,sy⟩:=⟨fun x b hx hl _=>by
 cases wr<;>cases sy<;>simp[MemAct.ofEvent,MemAct.touch?]at hx<;>(subst hx;cases hl),fun _=>⟨by simp,by simp⟩⟩
theorem me{e0:Event}(h0:EvQ Sb qt e0)(h:∀e∈es',e∈es.push e0\/EvQ Sb qt e):∀e∈es',e∈es\/EvQ Sb qt e:=fun e he=>(h e he).elim (fun h1=>(Array.mem_push.1 h1).elim .inl fun e1=>.inr (e1▸h0)) .inr
theorem PT{wr:Bool}(h0:∀a∈l,¬Sb a.block)(h:∀e∈es',e∈es++l.toArray.map (fun a=>(⟨.cell a,wr,sy⟩:Event))\/EvQ Sb qt e):∀e∈es',e∈es\/EvQ Sb qt e:=fun e he=>(h e he).elim (fun h1=>(Array.mem_append.1 h1).elim .inl fun e1=>by obtain⟨a,ha,rfl⟩:=Array.mem_map.1 e1;exact .inr (zm (h0 a (by simpa using ha)))) .inr
end
section
variable {Sb:Nat->Prop}{v w:World}
theorem eJ.lt(h:eJ Sb v w)(hi:Sb i):i<w.heap.size:=by obtain⟨c,t,_,_,h2⟩:=h.gu i hi;exact(Array.getElem?_eq_some_iff.1 h2).1
theorem eJ.cell(h:eJ Sb v w){a:Addr}{x:Value}(hc:v.cell? a=some x):¬Sb a.block/\w.cell? a=some x:=by
 have hn:¬Sb a.block:=fun hs=>by obtain⟨c,t,_,h1,_⟩:=h.gu a.block hs;simp[World.cell?,h1]at hc
 refine⟨hn,?_⟩;rw[<-hc];simp[World.cell?,h.same _ hn]
theorem eJ.Uz(h:eJ Sb v w)(hn:¬Sb a.block):w.cell? a=v.cell? a:=by simp[World.cell?,h.same _ hn]
theorem eJ.modify(h:eJ Sb v w)(r:Nat)(g:Obj->Obj)(hr:¬Sb r):eJ Sb {v with heap:=v.heap.modify r g} {w with heap:=w.heap.modify r g}:=by
 refine⟨by simp[h.size],fun i hi=>?_,fun i hi=>?_,h.os,h.out⟩
 ·simp only[Array.getElem?_modify];rw[h.same i hi]
 ·obtain⟨c,t,h0,h1,h2⟩:=h.gu i hi;have e:r≠i:=fun e=>hr (e▸hi);simp only[Array.getElem?_modify];exact⟨c,t,h0,by simp[e,h1],by simp[e,h2]⟩
theorem eJ.set(h:eJ Sb v w)(a:Addr)(x:Value)(ha:¬Sb a.block):eJ Sb (v.setCell a x) (w.setCell a x):=by unfold World.setCell;exact h.modify a.block _ ha
theorem eJ.frz(h:eJ Sb v w)(a:Addr)(n:Nat)(ha:¬Sb a.block):eJ Sb (v.freeze a n) (w.freeze a n):=by
 unfold World.freeze;split
 ·exact h
 ·exact h.modify a.block _ ha
theorem eJ.new(h:eJ Sb v w)(o:Obj):eJ Sb {v with heap:=v.heap.push o} {w with heap:=w.heap.push o}:=by
 refine⟨by simp[h.size],fun i hi=>?_,fun i hi=>?_,h.os,h.out⟩
 ·simp only[Array.getElem?_push,h.size];rw[h.same i hi]
 ·have hl:=h.lt hi;obtain⟨c,t,h0,h1,h2⟩:=h.gu i hi;refine⟨c,t,h0,?_,?_⟩
  ·simp only[Array.getElem?_push,h.size];rw[if_neg (by omega)];exact h1
  ·simp only[Array.getElem?_push];rw[if_neg (by omega)];exact h2
theorem eJ.obj(h:eJ Sb v w)(r:Nat)(o:Obj)(hr:¬Sb r):eJ Sb {v with heap:=v.heap.setIfInBounds r o} {w with heap:=w.heap.setIfInBounds r o}:=by
 refine⟨by simp[h.size],fun i hi=>?_,fun i hi=>?_,h.os,h.out⟩
 ·simp only[Array.getElem?_setIfInBounds,h.size];rw[h.same i hi]
 ·have:r≠i:=fun e=>hr (e▸hi);obtain⟨c,t,h0,h1,h2⟩:=h.gu i hi;exact⟨c,t,h0,by rw[za5 this];exact h1,by rw[za5 this];exact h2⟩
theorem eJ.draw(h:eJ Sb v w)(n m:Nat):eJ Sb {v with drawn:=n} {w with drawn:=m}:=⟨h.size,h.same,h.gu,h.os,h.out⟩
end
end
section
open Go
section
variable {P:Program}{Sb:Nat->Prop}{qt:Prop}{α β:Type}
theorem Ko(he:v.heap[at_.block]?=w.heap[at_.block]?)(u:TypeId)(k:Addr)(b:Bool):v.seen P at_ u k b=w.seen P at_ u k b:=by unfold World.seen;rw[he]
theorem seen_cells{u:TypeId}{e:TypeId}{f:Nat×Nat}{first:Nat}{like:Value}{cells:List (Nat×Nat×List UInt8)}(h:v.seen P at_ u k b=.ok (c,e,f,first,like,cells)):v.heap[at_.block]?=some (.cells c e f):=by
 unfold World.seen at h;simp only[bind,Except.bind,pure,Except.pure]at h;repeat' (split at h)
 all_goals first|(cases h;done)|skip
 all_goals(first|(cases h;assumption)|skip)
theorem Dl(hs:eJ Sb v w){u:TypeId}(h:v.viewLoad P at_ u k b=.ok (x,l)):w.viewLoad P at_ u k b=.ok (x,l)/\∀a∈l,¬Sb a.block:=by
 have h0:=h;unfold World.viewLoad at h;cases hq:v.seen P at_ u k b with
 |error e=>rw[hq]at h;cases h
 |ok y=>
  obtain⟨c,e,f,first,like,cells⟩:=y;have hn:¬Sb at_.block:=fun hb=>by obtain⟨c',t',_,h1,_⟩:=hs.gu _ hb;rw[seen_cells hq]at h1;cases h1
  refine⟨?_,?_⟩
  ·rw[<-h0];unfold World.viewLoad;rw[Ko (hs.same _ hn)]
  ·rw[hq]at h;simp only[bind,Except.bind,pure,Except.pure]at h;split at h
   ·cases h;intro a ha;obtain⟨z,_,rfl⟩:=List.mem_map.1 ha;exact hn
   ·cases h
theorem AZ(hs:eJ Sb v w){u:TypeId}(h:v.viewStore P at_ u k x b=.ok (v1,l)):(∃o,v1={v with heap:=v.heap.setIfInBounds at_.block o}/\w.viewStore P at_ u k x b=.ok ({w with heap:=w.heap.setIfInBounds at_.block o},l))/\¬Sb at_.block/\∀a∈l,¬Sb a.block:=by
 unfold World.viewStore at h⊢;by_cases ht:Go.tight P P.depth u=true
 ·simp only[ht,Bool.not_true,Bool.false_eq_true,if_false,bind,Except.bind,pure,Except.pure]at h⊢;cases hq:v.seen P at_ u k b with
  |error e=>rw[hq]at h;cases h
  |ok y=>
   obtain⟨c,e,f,first,like,cells⟩:=y;have hn:¬Sb at_.block:=fun hb=>by obtain⟨c',t',_,h1,_⟩:=hs.gu _ hb;rw[seen_cells hq]at h1;cases h1
   rw[hq]at h;rw[<-Ko (hs.same _ hn),hq];simp only at h⊢;cases hb:x.bytes? with
   |none=>rw[hb]at h;cases h
   |some bytes=>
    rw[hb]at h;simp only at h⊢;split at h
    ·cases h
    ·rename_i hlen;rw[if_neg hlen];split at h
     ·cases h
     ·rename_i c2 hc2;cases h;refine⟨⟨.cells c2 e f,rfl,?_⟩,hn,fun a ha=>?_⟩
      ·rfl
      ·obtain⟨z,_,rfl⟩:=List.mem_map.1 ha;exact hn
 ·simp only[ht,Bool.not_false,if_true,bind,Except.bind]at h;cases h
theorem FI{k:Value->Sem α}(hk:∀x,af P Sb qt (k x)):af P Sb qt (.load m a k):=by
 constructor;intro v w x v' hs hr hg es;simp only[Sem.run]at hr;simp only[Sem.runT];cases hc:v.cell? a with
 |some y=>
  rw[hc]at hr;obtain⟨hn,hw⟩:=hs.cell hc;rw[hw];obtain⟨w',es',h1,h2,h3,h4,h5⟩:=(hk y).Ar hs hr hg (es.push ⟨.cell a,false,m == .atomic⟩);exact⟨w',es',h1,h2,h3,h4,me (zm hn) h5⟩
 |none=>
  rw[hc]at hr;simp only at hr;have hn:¬Sb a.block:=fun hb=>by obtain⟨c,t,_,h1,_⟩:=hs.gu _ hb;simp[World.farLoad,h1]at hr
  rw[hs.Uz hn,hc];simp only;unfold World.farLoad at hr⊢;rw[<-hs.same _ hn];cases ho:v.heap[a.block]? with
  |none=>simp[ho]at hr
  |some ob=>
   cases ob with
   |view at_ u=>
    simp only[ho]at hr⊢;cases hv:v.viewLoad P at_ u a (m == .atomic)with
    |error e=>rw[hv]at hr;simp at hr
    |ok y=>
     obtain⟨x1,l⟩:=y;rw[hv]at hr;simp only at hr;obtain⟨hw,hl⟩:=Dl hs hv;rw[hw];simp only;obtain⟨w',es',h1,h2,h3,h4,h5⟩:=(hk x1).Ar hs hr hg (es++l.toArray.map (⟨.cell ·,false,m == .atomic⟩));exact⟨w',es',h1,h2,h3,h4,PT hl h5⟩
   |_=>simp[ho]at hr
theorem Dm{k:Sem α}(hk:af P Sb qt k):af P Sb qt (.store m a y k):=by
 have key:∀{v w:World} {x:α} {v':World} {y:Value},eJ Sb v w->((match v.cell? a with
  |some _=>if v.frozen? a then .halt (.unsupported (.unsafePointer "a write to bytes that a string shares")) v else k.run P (v.setCell a y)
  |none=>match v.farStore P a y (m == .atomic)with
   |.ok (w,_)=>k.run P w
   |.error h=>.halt h v):Result α)=.ok x v'->Km v w (v'.drawn-v.drawn)->∀es,∃w' es',((match w.cell? a with
   |some _=>if w.frozen? a then(.halt (.unsupported (.unsafePointer "a write to bytes that a string shares")) w,es)else k.runT P (w.setCell a y) (es.push ⟨.cell a,true,m == .atomic⟩)
   |none=>match w.farStore P a y (m == .atomic)with
    |.ok (w,touched)=>k.runT P w (es++touched.toArray.map (⟨.cell ·,true,m == .atomic⟩))
    |.error h=>(.halt h w,es)):Result α×Array Event)=(.ok x w',es')/\eJ Sb v' w'/\w'.tape=w.tape/\w'.drawn=w.drawn+(v'.drawn-v.drawn)/\∀e∈es',e∈es\/EvQ Sb qt e:=by
  intro v w x v' y hs hr hg es
  cases hc:v.cell? a with
  |some z=>
   rw[hc]at hr;simp only at hr;obtain⟨hn,hw⟩:=hs.cell hc;rw[hw];have hf:w.frozen? a=v.frozen? a:=by simp[World.frozen?,hs.same _ hn]
   simp only[hf];split at hr
   ·cases hr
   ·rename_i hfz;rw[if_neg hfz];obtain⟨w',es',h1,h2,h3,h4,h5⟩:=hk.Ar (hs.set a y hn) hr hg (es.push ⟨.cell a,true,m == .atomic⟩);exact⟨w',es',h1,h2,h3,h4,me (zm hn) h5⟩
  |none=>
   rw[hc]at hr;simp only at hr;have hn:¬Sb a.block:=fun hb=>by obtain⟨c,t,_,h1,_⟩:=hs.gu _ hb;simp[World.farStore,h1]at hr
   rw[hs.Uz hn,hc];simp only;unfold World.farStore at hr⊢;rw[<-hs.same _ hn];cases ho:v.heap[a.block]? with
   |none=>simp[ho]at hr
   |some ob=>
    cases ob with
    |view at_ u=>
     simp only[ho]at hr⊢;cases hv:v.viewStore P at_ u a y (m == .atomic)with
     |error e=>rw[hv]at hr;simp at hr
     |ok z=>
      obtain⟨v1,l⟩:=z;rw[hv]at hr;simp only at hr;obtain⟨⟨o,rfl,hw⟩,hnb,hl⟩:=AZ hs hv;rw[hw];simp only;obtain⟨w',es',h1,h2,h3,h4,h5⟩:=hk.Ar (hs.obj _ o hnb) hr hg (es++l.toArray.map (⟨.cell ·,true,m == .atomic⟩));exact⟨w',es',h1,h2,h3,h4,PT hl h5⟩
    |_=>simp[ho]at hr
 constructor;intro v w x v' hs hr hg es;cases y<;>simp only[Sem.run]at hr<;>simp only[Sem.runT]<;>first|(cases hr;done)|exact key hs hr hg es
theorem zu{k:Nat->Sem α}(hk:∀r,¬Sb r->af P Sb qt (k r)):af P Sb qt (.new o k):=by
 constructor;intro v w x v' hs hr hg es;simp only[Sem.run]at hr;simp only[Sem.runT];have hn:¬Sb v.heap.size:=fun hb=>by have:=hs.lt hb;rw[<-hs.size]at this;omega
 rw[<-hs.size];exact(hk _ hn).Ar (hs.new o) hr hg es
theorem Dn{k:Option (TypeId×Nat)->Sem α}(hk:∀s,¬Sb r->af P Sb qt (k s))(hp:oP P (k none)):af P Sb qt (.shape r k):=by
 constructor;intro v w x v' hs hr hg es;simp only[Sem.run]at hr;simp only[Sem.runT];have hn:¬Sb r:=fun hb=>by obtain⟨c,t,_,h1,_⟩:=hs.gu _ hb;simp only[World.shape?,h1]at hr;exact hp.no _ _ _ hr
 have e:w.shape? r=v.shape? r:=by simp only[World.shape?,hs.same _ hn]
 rw[e];exact(hk _ hn).Ar hs hr hg es
theorem A0{k:Sem α}(ha:¬Sb a.block)(hk:af P Sb qt k):af P Sb qt (.freeze a n k):=by constructor;intro v w x v' hs hr hg es;simp only[Sem.run]at hr;simp only[Sem.runT];obtain⟨w',es',h1,h2,h3,h4,h5⟩:=hk.Ar (hs.frz a n ha) hr (by unfold Km at hg⊢;rw[(jk v _ _).2,(jk w _ _).2,(jk v _ _).1,(jk w _ _).1];exact hg) es;rw[(jk w _ _).1]at h3;rw[(jk w _ _).2,(jk v _ _).2]at h4;exact⟨w',es',h1,h2,h3,h4,h5⟩
theorem eJ.frozen{v w:World}(hs:eJ Sb v w)(a:Addr):w.frozen? a=v.frozen? a:=by
 by_cases hb:Sb a.block
 ·obtain⟨c,t,_,h1,h2⟩:=hs.gu _ hb;simp[World.frozen?,h1,h2]
 ·simp only[World.frozen?,hs.same _ hb]
theorem A7{k:Bool->Sem α}(hk:∀b,af P Sb qt (k b)):af P Sb qt (.frozen a k):=by constructor;intro v w x v' hs hr hg es;simp only[Sem.run]at hr;simp only[Sem.runT];rw[hs.frozen];exact(hk _).Ar hs hr hg es
theorem A8{k:Obj->Sem α}(hk:∀o,¬Sb r->af P Sb qt (k o))(hp:∀c t,oP P (k (.pending c t))):af P Sb qt (.getObj r k):=by
 constructor;intro v w x v' hs hr hg es;simp only[Sem.run]at hr;simp only[Sem.runT];have hn:¬Sb r:=fun hb=>by obtain⟨c,t,_,h1,_⟩:=hs.gu _ hb;simp only[h1]at hr;exact(hp _ _).no _ _ _ hr
 rw[<-hs.same r hn];split at hr
 ·cases hr
 ·obtain⟨w',es',h1,h2,h3,h4,h5⟩:=(hk _ hn).Ar hs hr hg _;exact⟨w',es',h1,h2,h3,h4,me Di h5⟩
 ·cases hr
theorem A9{k:Sem α}(hr:¬Sb r)(hk:af P Sb qt k):af P Sb qt (.setObj r o k):=by
 constructor;intro v w x v' hs hrun hg es;simp only[Sem.run]at hrun;simp only[Sem.runT];rw[<-hs.same r hr];split at hrun
 ·cases hrun
 ·obtain⟨w',es',h1,h2,h3,h4,h5⟩:=hk.Ar (hs.obj r o hr) hrun hg _;exact⟨w',es',h1,h2,h3,h4,me Di h5⟩
 ·cases hrun
theorem Ba{q:Question}{k:Nat->Sem α}(hk:∀n,af P Sb qt (k n)):af P Sb qt (.choose q k):=by
 constructor;intro v w x v' hs hr hg es;simp only[Sem.run]at hr;simp only[Sem.runT];split at hr
 ·rename_i hq;rw[if_pos hq];exact(hk _).Ar hs hr hg es
 ·rename_i hq;rw[if_neg hq];obtain⟨_,hd⟩:=mX _ hr;simp only at hd;have e0:w.tape w.drawn q=v.tape v.drawn q:=(hg 0 (by omega) q).symm;rw[e0];obtain⟨w',es',h1,h2,h3,h4,h5⟩:=(hk _).Ar (hs.draw (v.drawn+1) (w.drawn+1)) hr (fun j hj q'=>by have:=hg (j+1) (by simp only at hj;omega) q';simp only;rw[show v.drawn+1+j=v.drawn+(j+1) by omega,show w.drawn+1+j=w.drawn+(j+1) by omega];exact this) es
  exact⟨w',es',h1,h2,h3,by simp only at h4;omega,h5⟩
theorem zv{k:Program->Sem α}(hk:af P Sb qt (k P)):af P Sb qt (.program k):=by constructor;intro v w x v' hs hr hg es;exact hk.Ar hs hr hg es
theorem FJ(m:Mark)(wr sy:Bool)(h:qt->m≠.disable/\m≠.enable):EvQ Sb qt ⟨.mark m,wr,sy⟩:=⟨fun x a hx _ hk=>by
 have e:MemAct.ofEvent ⟨.mark m,wr,sy⟩=.mark m:=by cases wr<;>cases sy<;>rfl
 rw[e]at hx;cases m<;>simp[MemAct.touch?]at hx<;>(subst hx;cases hk),fun hq=>by simpa using h hq⟩
theorem wA{m:Mark}{k:Sem α}(hm:qt->m≠.disable/\m≠.enable)(hk:af P Sb qt k):af P Sb qt (.mark m k):=by constructor;intro v w x v' hs hr hg es;obtain⟨w',es',h1,h2,h3,h4,h5⟩:=hk.Ar hs hr hg (es.push ⟨.mark m,false,true⟩);exact⟨w',es',h1,h2,h3,h4,me (FJ _ _ _ hm) h5⟩
end
end
section
open Go
variable {P:Program}{Sb:Nat->Prop}{qt:Prop}
theorem gdA{p:Prop}(h:p:=by(repeat' (first|with_reducible exact af.pure' _|with_reducible exact af.pure|with_reducible exact af.halt|with_reducible exact xO ..|with_reducible exact lF ..|with_reducible exact kU ..|with_reducible exact qB ..|with_reducible exact cX ..|with_reducible exact dB ..|with_reducible exact zw ..|with_reducible exact aG ..|with_reducible exact eG ..|with_reducible exact PY ..|with_reducible exact gd_noRoom|with_reducible exact qC ..|with_reducible exact wB ..|with_reducible exact zy ..|with_reducible exact p8 ..|with_reducible exact oK ..|with_reducible exact B1 ..|with_reducible exact tU ..|with_reducible exact FN ..|with_reducible exact FO ..|with_reducible exact zz ..|with_reducible exact fY ..|with_reducible exact aF ..|with_reducible exact WL ..|with_reducible exact iB ..|with_reducible exact cY ..|with_reducible exact FP ..|with_reducible exact kL ..|with_reducible exact jL ..|with_reducible exact oq ..|with_reducible exact wD ..|with_reducible exact Mm ..|with_reducible exact vm ..|with_reducible exact B2 ..|with_reducible exact Ks ..|with_reducible exact bN ..|with_reducible exact lG ..|with_reducible exact ot ..|with_reducible exact jY ..|with_reducible exact qD ..|with_reducible exact gd_asString ..|with_reducible exact P0 ..|with_reducible exact iC ..|with_reducible exact vn ..|with_reducible exact Mo ..|with_reducible exact Bb ..|with_reducible exact tV ..|with_reducible exact FQ ..|with_reducible exact jZ ..|with_reducible exact B3 ..|with_reducible exact zA ..|with_reducible exact zB ..|with_reducible exact zC ..|with_reducible exact Bh ..|with_reducible exact p9 ..|with_reducible exact P1 ..|with_reducible exact zD ..|with_reducible exact P2 ..|with_reducible exact FR ..|with_reducible exact rD ..|with_reducible exact m8 ..|with_reducible exact FT ..|with_reducible exact zE ..|with_reducible exact tX ..|with_reducible exact FU ..|with_reducible exact FV ..|with_reducible exact zF ..|with_reducible exact P3 ..|with_reducible exact tY ..|with_reducible exact mg ..|with_reducible exact rE ..|with_reducible exact sG ..|with_reducible exact B4 ..|with_reducible exact xe ..|with_reducible exact tZ ..|with_reducible exact FW ..|with_reducible exact Kt ..|with_reducible exact FX ..|with_reducible exact zG ..|with_reducible exact B5 ..|with_reducible exact jX ..|with_reducible exact sF ..|with_reducible exact Mp ..|with_reducible exact Mq ..|with_reducible exact P4 ..|with_reducible exact rF ..|with_reducible exact wE ..|with_reducible exact qc ..|with_reducible exact P8 ..|with_reducible exact SY ..|with_reducible exact Dq ..|with_reducible exact Dr ..|with_reducible exact Ds ..|with_reducible exact SZ ..|with_reducible exact I3 ..|with_reducible exact Dt ..|with_reducible exact FY ..|with_reducible exact Du ..|with_reducible exact wF ..|with_reducible exact FZ ..|with_reducible exact ug ..|with_reducible exact I4 ..|with_reducible exact I5 ..|with_reducible exact I6 ..|with_reducible exact F0 ..|with_reducible exact Bi ..|with_reducible exact Bj ..|with_reducible exact ko ..|with_reducible exact qW ..|with_reducible exact zH ..|with_reducible exact vo ..|with_reducible exact vp ..|with_reducible exact vq ..|with_reducible exact vr ..|with_reducible exact vu ..|with_reducible exact vw ..|with_reducible exact uh ..|with_reducible exact zI ..|with_reducible exact xf ..|with_reducible exact zJ ..|with_reducible exact F1 ..|with_reducible exact zK ..|with_reducible exact F2 ..|with_reducible exact rG ..|with_reducible exact Mr ..|with_reducible exact S1 ..|with_reducible exact Ms ..|with_reducible exact WM ..|with_reducible exact S2 ..|with_reducible exact WN ..|with_reducible exact xg ..|with_reducible exact ih ..|with_reducible exact vh (by assumption)|with_reducible exact BZ (by assumption)|with_reducible exact vk (by assumption)|with_reducible exact bX (by assumption)|with_reducible exact iV (by assumption)|with_reducible exact iA (by assumption)|with_reducible refine af.bind (bX (by assumption)) (fun _=>?_)|with_reducible refine af.bind (iV (by assumption)) (fun _=>?_)|with_reducible refine gZ (fun _ _=>?_) (fun _ _=>?_)|with_reducible refine jK (fun _ _=>?_) ?_|with_reducible exact dz _|with_reducible exact gW _|with_reducible exact om _|with_reducible exact gX (dz _)|with_reducible exact gX (gW _)|with_reducible refine kT (fun _=>?_)|with_reducible refine cM ?_|with_reducible exact cg|with_reducible exact bT|with_reducible refine af.bind (iA (by assumption)) (fun _=>?_)|with_reducible refine qU (fun _ _=>?_) ?_|with_reducible refine zx ?_|with_reducible refine hU (fun _ _=>?_)|with_reducible refine vi (fun _=>?_)|with_reducible refine af.bind ?_ (fun _=>?_)|with_reducible refine PZ ?_|with_reducible refine Kq (fun _ _=>?_)|with_reducible refine aco (fun _ _=>?_)|with_reducible refine FM (fun _=>?_)|with_reducible refine FK (fun _ _=>?_)|with_reducible refine bn ?_ ?_|dsimp only|split|intro _))):p:=h
theorem xO(a:Addr)(m:Mode):af P Sb qt (load a m):=FI fun _=>.pure
theorem lF(a:Addr)(v:Value)(m:Mode):af P Sb qt (store a v m):=Dm .pure
theorem kU(o:Obj):af P Sb qt (newObj o):=zu fun _ _=>.pure
theorem jK{β:Type}{k:Option (TypeId×Nat)->Sem β}(hk:∀s,¬Sb r->af P Sb qt (k s))(hp:oP P (k none)):af P Sb qt (shape r >>= k):=Dn hk hp
theorem BZ(h:¬Sb a.block):af P Sb qt (freeze a n):=A0 h .pure
theorem qB(a:Addr):af P Sb qt (frozen a):=A7 fun _=>.pure
theorem gZ{β:Type}{k:Obj->Sem β}(hk:∀o,¬Sb r->af P Sb qt (k o))(hp:∀c t,oP P (k (.pending c t))):af P Sb qt (getObj r >>= k):=A8 hk hp
theorem vh(h:¬Sb r):af P Sb qt (setObj r o):=A9 h .pure
theorem cX(q:Question):af P Sb qt (choose q):=Ba fun _=>.pure
theorem dB:af P Sb qt program:=zv .pure
theorem aG{α:Type}(s:String):af P Sb qt (stuck s:Sem α):=.halt
theorem eG{α:Type}(u:Unsupported):af P Sb qt (unsupported u:Sem α):=.halt
theorem PY{α:Type}(v:Value):af P Sb qt (goPanic v:Sem α):=.halt
theorem zw(n:Nat):af P Sb qt (askRoom n):=by unfold askRoom;split;exact wA (fun _=>by simp) .pure;exact .pure
theorem gd_noRoom:af P Sb qt (mark .noRoom):=wA (fun _=>by simp) .pure
theorem cM{α β:Type}{a:α}{f:α->Sem β}(h:af P Sb qt (f a)):af P Sb qt (Pure.pure a >>= f):=h
theorem cg{α β:Type}{s:String}{f:α->Sem β}:af P Sb qt ((stuck s:Sem α)>>= f):=.qy (gX (dz _))
theorem bT{α β:Type}{u:Unsupported}{f:α->Sem β}:af P Sb qt ((unsupported u:Sem α)>>= f):=.qy (gX (gW _))
theorem zx{α:Type}{s s':Sem α}(h:oP P s'):oP P (if false=true then s else s'):=by rw[if_neg (by simp)];exact h
def tS(P:Program)(a:Addr)(u:TypeId)(n:Nat)(w:World):Bool:=match w.shape? a.block with|some (e,cells)=>liesAt P P.depth e (cells / P.cellsOf e) a.off u n|none=>false
theorem mY(a:Addr)(u:TypeId)(n:Nat)(w:World)(es:Array Event):(variablesAt a u n).runT P w es=(.ok (tS P a u n w) w,es):=by
 unfold tS;have e:(variablesAt a u n).runT P w es=(match w.shape? a.block with|some (e,cells)=>(Pure.pure (liesAt P P.depth e (cells / P.cellsOf e) a.off u n):Sem Bool)|none=>Pure.pure false).runT P w es:=rfl;rw[e];cases w.shape? a.block with
 |none=>rfl
 |some x=>rfl
theorem qU{β:Type}{u:TypeId}{f:Bool->Sem β}(h:∀q,¬Sb a.block->af P Sb qt (f q))(hp:oP P (f false)):af P Sb qt (variablesAt a u n >>= f):=by
 constructor;intro v w x v' hs hr hg es;rw[run_bind,<-Sem.runT_fst P _ v #[],mY]at hr;simp only at hr;have hn:¬Sb a.block:=fun hb=>by
  obtain⟨c,t,_,h3,_⟩:=hs.gu _ hb;have e:tS P a u n v=false:=by simp[tS,World.shape?,h3]
  rw[e]at hr;exact hp.no _ _ _ hr
 have hb:tS P a u n w=tS P a u n v:=by simp only[tS,World.shape?,hs.same _ hn]
 obtain⟨w',es',g1,g2,g3,g4,g5⟩:=(h _ hn).Ar hs hr hg es;exact⟨w',es',by rw[fS,mY,hb];exact g1,g2,g3,g4,g5⟩
theorem qV{β:Type}{u:TypeId}{s:Sem β}(h:af P Sb qt s):af P Sb qt (variablesAt a u n >>= fun _=>s):=by constructor;intro v w x v' hs hr hg es;rw[run_bind,<-Sem.runT_fst P _ v #[],mY]at hr;obtain⟨w',es',g1,g2,g3,g4,g5⟩:=h.Ar hs hr hg es;exact⟨w',es',by rw[fS,mY];exact g1,g2,g3,g4,g5⟩
theorem hU{β:Type}{t:TypeId}{f:Addr->Sem β}(h:∀a,¬Sb a.block->af P Sb qt (f a)):af P Sb qt (newRow t c >>= f):=zu (o:=.cells c t) fun r hr=>h ⟨r,0,none⟩ hr
theorem vi{β:Type}{a b c:Nat}{x:Option Addr}{v:Value}{f:Bool->Sem β}(h:∀q,oP P (f q)):af P Sb qt (Builtin.mayShare a b c x v >>= f):=.qy (kT h)
theorem tT{α:Type}{s:Sem α}(h0:¬Sb r->af P Sb qt s)(h1:Sb r->∀(v w:World) (x:α) (v':World),eJ Sb v w->s.run P v=.ok x v'->v'=v/\∀es,s.runT P w es=(.ok x w,es)):af P Sb qt s:=by
 by_cases hb:Sb r
 ·constructor;intro v w x v' hs hr hg es;obtain⟨rfl,h2⟩:=h1 hb v w x v' hs hr;exact⟨w,es,h2 es,hs,rfl,by omega,fun e he=>.inl he⟩
 ·exact h0 hb
theorem bn{α:Type}{c:Prop}[Decidable c]{s s':Sem α}(h:af P Sb qt s)(h':af P Sb qt s'):af P Sb qt (if c then s else s'):=by split;exact h;exact h'
theorem PZ{α β:Type}{s:Sem α}{f:α->β}(h:af P Sb qt s):af P Sb qt (f<$> s):=af.bind (f:=fun a=>Pure.pure (f a)) h fun _=>.pure
theorem FK{α β:Type}{f:β->α->Sem β}(h:∀b a,af P Sb qt (f b a)):∀{l:List α} {b:β},af P Sb qt (l.foldlM f b)
 | [],b=>.pure
 |a :: l,b=>by rw[List.foldlM_cons];exact af.bind (h _ _) fun _=>FK h
theorem Dp{α β:Type}{f:α->β->Sem (ForInStep β)}(h:∀a b,af P Sb qt (f a b)):∀{l:List α} {b:β},af P Sb qt (forIn l b f)
 | [],b=>.pure
 |a :: l,b=>by
  rw[List.forIn_cons];refine af.bind (h _ _) fun s=>?_;cases s with
  |done=>exact .pure
  |yield=>exact Dp h
theorem Kq{α β:Type}{f:α->β->Sem (ForInStep β)}(h:∀a b,af P Sb qt (f a b)){l:Array α}{b:β}:af P Sb qt (forIn l b f):=by rw[<-Array.forIn_toList];exact Dp h
theorem aco{β:Type}{f:Nat->β->Sem (ForInStep β)}(h:∀a b,af P Sb qt (f a b)){l:Std.Legacy.Range}{b:β}:af P Sb qt (forIn l b f):=by rw[Std.Legacy.Range.forIn_eq_forIn_range'];exact Dp h
theorem FL{α β:Type}{f:α->Sem β}(h:∀a,af P Sb qt (f a)):∀{l:List α},af P Sb qt (l.mapM f)
 | []=>.pure
 |a :: l=>by rw[List.mapM_cons];exact af.bind (h _) fun _=>af.bind (FL h) fun _=>.pure
theorem FM{α β:Type}{f:α->Sem β}(h:∀a,af P Sb qt (f a)){l:Array α}:af P Sb qt (l.mapM f):=by rw[Array.mapM_eq_mapM_toList];exact PZ (FL h)
theorem bX(h:¬Sb r):af P Sb qt (shape r):=by
 constructor;intro v w x v' hs hr hg es;have e:w.shape? r=v.shape? r:=by simp only[World.shape?,hs.same _ h]
 cases hr;exact⟨w,es,by show (Result.ok (w.shape? r) w,es)=_;rw[e],hs,rfl,by omega,fun e he=>.inl he⟩
theorem iV(h:¬Sb r):af P Sb qt (getObj r):=by
 constructor;intro v w x v' hs hr hg es;simp only[getObj,Sem.run]at hr;simp only[getObj,Sem.runT];rw[<-hs.same r h];split at hr
 ·cases hr
 ·cases hr;exact⟨w,_,rfl,hs,rfl,by omega,me Di fun e he=>.inl he⟩
 ·cases hr
theorem mZ(hb:Sb r)(hs:eJ Sb v w):∃c t,c.size≠0/\v.heap[r]?=some (.pending c t)/\v.shape? r=none/\w.shape? r=some (t,c.size):=by obtain⟨c,t,h0,h1,h2⟩:=hs.gu r hb;exact⟨c,t,h0,h1,by simp[World.shape?,h1],by simp[World.shape?,h2]⟩
theorem qC(r:Nat):af P Sb qt (viewAt r):=by
 refine tT (r:=r) (fun hn=>?_) (fun hb v w x v' hs hr=>?_)
 ·unfold viewAt;exact gdA
 ·obtain⟨c,t,h0,h1,h2,h3⟩:=mZ hb hs;have e:(viewAt r).run P v=.ok none v:=by show Sem.run P (Sem.shape r fun s=>_) v=_;simp only[Sem.run,h2];show Sem.run P (Sem.getObj r fun o=>_) v=_;simp only[Sem.run,h1];rfl
  rw[e]at hr;cases hr;refine⟨rfl,fun es=>?_⟩;show Sem.runT P (Sem.shape r fun s=>_) w es=_;simp only[Sem.runT,h3];rfl
theorem wB(r:Nat):af P Sb qt (numberAt r):=by
 refine tT (r:=r) (fun hn=>?_) (fun hb v w x v' hs hr=>?_)
 ·unfold numberAt;exact gdA
 ·obtain⟨c,t,h0,h1,h2,h3⟩:=mZ hb hs;have e:(numberAt r).run P v=.ok none v:=by show Sem.run P (Sem.shape r fun s=>_) v=_;simp only[Sem.run,h2];show Sem.run P (Sem.getObj r fun o=>_) v=_;simp only[Sem.run,h1];rfl
  rw[e]at hr;cases hr;refine⟨rfl,fun es=>?_⟩;show Sem.runT P (Sem.shape r fun s=>_) w es=_;simp only[Sem.runT,h3];rfl
theorem zy(r:Nat):af P Sb qt (cellsIn r):=by
 refine tT (r:=r) (fun hn=>?_) (fun hb v w x v' hs hr=>?_)
 ·unfold cellsIn;exact gdA
 ·obtain⟨c,t,h0,h1,h2,h3⟩:=mZ hb hs;have e:(cellsIn r).run P v=.ok (some c.size) v:=by show Sem.run P (Sem.shape r fun s=>_) v=_;simp only[Sem.run,h2];show Sem.run P (Sem.getObj r fun o=>_) v=_;simp only[Sem.run,h1];rfl
  rw[e]at hr;cases hr;refine⟨rfl,fun es=>?_⟩;show Sem.runT P (Sem.shape r fun s=>_) w es=_;simp only[Sem.runT,h3];rfl
theorem vk(h:¬Sb a.block):af P Sb qt (markStringish a):=by unfold markStringish;exact gdA
theorem pZ(hb:Sb r)(hs:eJ Sb v w)(a:Addr)(ha:a.block=r):v.frozen? a=false/\w.frozen? a=false:=by subst ha;obtain⟨c,t,h0,h1,h2⟩:=hs.gu _ hb;simp[World.frozen?,h1,h2]
theorem tU(a:Addr):af P Sb qt (stringish a):=by
 refine tT (r:=a.block) (fun hn=>?_) (fun hb v w x v' hs hr=>?_)
 ·unfold stringish;exact gdA
 ·obtain⟨c,t,h0,h1,h2,h3⟩:=mZ hb hs;have e:(stringish a).run P v=.ok false v:=by show Sem.run P (Sem.frozen a fun s=>_) v=_;simp only[Sem.run,(pZ hb hs a rfl).1];show Sem.run P (Sem.shape a.block fun o=>_) v=_;simp only[Sem.run,h2];rfl
  rw[e]at hr;cases hr;refine⟨rfl,fun es=>?_⟩;show Sem.runT P (Sem.frozen a fun s=>_) w es=_;simp only[Sem.runT,(pZ hb hs a rfl).2];show Sem.runT P (Sem.shape a.block fun o=>_) w es=_;simp only[Sem.runT,h3];show Sem.runT P (Sem.frozen _ fun s=>_) w es=_;simp only[Sem.runT,(pZ hb hs ⟨a.block,c.size,none⟩ rfl).2]
theorem Kr(r:Nat):af P Sb qt (do pure ((<-shape r) matches some (_,0)):Sem Bool):=by
 refine tT (r:=r) (fun hn=>?_) (fun hb v w x v' hs hr=>?_)
 ·exact gdA
 ·obtain⟨c,t,h0,h1,h2,h3⟩:=mZ hb hs;have e:(do pure ((<-shape r) matches some (_,0)):Sem Bool).run P v=.ok false v:=by show Sem.run P (Sem.shape r fun s=>_) v=_;simp only[Sem.run,h2];rfl
  rw[e]at hr;cases hr;refine⟨rfl,fun es=>?_⟩;show Sem.runT P (Sem.shape r fun s=>_) w es=_;simp only[Sem.runT,h3];cases hc:c.size with
  |zero=>exact absurd hc h0
  |succ n=>rfl
theorem FN(a b:Addr):af P Sb qt (mayBeOne a b):=by unfold mayBeOne;dsimp only;refine af.bind (tU a) fun sa=>af.bind (tU b) fun sb=>?_;exact af.bind (Kr a.block) fun _=>af.bind (Kr b.block) fun _=>af.pure' _
theorem iA{u:TypeId}(h:¬Sb a.block):af P Sb qt (variablesAt a u n):=by unfold variablesAt;exact gdA
theorem p8(a:Addr)(b:Bool):af P Sb qt (asNumber a b):=by unfold asNumber;exact gdA
theorem oK(a:Addr):af P Sb qt (behindNumber a):=by unfold behindNumber;exact gdA
theorem B1(a:Addr):af P Sb qt (noView a):=by unfold noView;exact gdA
theorem FO(a b:Addr):af P Sb qt (sameAddr a b):=by unfold sameAddr;exact gdA
theorem zz(a b:Option Addr):af P Sb qt (samePointer a b):=by unfold samePointer;exact gdA
theorem fY(t:TypeId):af P Sb qt (typeInfo t):=by unfold typeInfo;exact gdA
theorem aF(t:TypeId):af P Sb qt (underlying t):=by unfold underlying;exact gdA
theorem WL(t:TypeId):af P Sb qt (typeStr t):=by unfold typeStr;exact gdA
theorem iB(t:TypeId):af P Sb qt (zeroValue t):=by unfold zeroValue;exact gdA
theorem cY(t:TypeId):af P Sb qt (sizeOf t):=by unfold sizeOf;exact gdA
theorem FP(t:TypeId):af P Sb qt (isAgg t):=by unfold isAgg;exact gdA
theorem m7(a:Addr):∀(n i:Nat) (acc:Array Value),af P Sb qt (loadCellsFrom a i n acc)
 | 0,i,acc=>af.pure
 |n+1,i,acc=>by unfold loadCellsFrom;exact af.bind (xO ..) fun _=>m7 a n _ _
theorem kL(a:Addr)(n:Nat):af P Sb qt (loadCells a n):=m7 a n 0 #[]
theorem jL(a:Addr):∀(vs:List Value) (i:Nat),af P Sb qt (storeCells a vs i)
 | [],i=>.pure
 |v :: vs,i=>by unfold storeCells;exact af.bind (lF ..) fun _=>jL a vs _
theorem oq(t:TypeId)(a:Addr):af P Sb qt (loadVar t a):=by unfold loadVar;exact gdA
theorem wD(t:TypeId)(a:Addr)(v:Value):af P Sb qt (storeVar t a v):=by unfold storeVar;exact gdA
theorem Mm(t:TypeId)(c:Array Value):af P Sb qt (newRow t c):=by unfold newRow;exact gdA
theorem vm(t:TypeId)(v:Value):af P Sb qt (newVar t v):=by unfold newVar;exact gdA
theorem B2(t:TypeId):af P Sb qt (elemOf t):=by unfold elemOf;exact gdA
theorem Ks(t:TypeId)(cs:Array Value)(n:Nat):af P Sb qt (part t cs n):=by unfold part;exact gdA
theorem bN{α:Type}(e:RuntimeError):af P Sb qt (runtimePanic e:Sem α):=by unfold runtimePanic;exact gdA
theorem lG{α:Type}(k:IntKind)(x y:Int)(c:BoundsCode):af P Sb qt (boundsPanic k x y c:Sem α):=by unfold boundsPanic;exact gdA
theorem ot(v:Value):af P Sb qt (asIntOf v):=by unfold asIntOf;exact gdA
theorem jY(v:Value):af P Sb qt (asInt v):=by unfold asInt;exact gdA
theorem qD(v:Value):af P Sb qt (asBool v):=by unfold asBool;exact gdA
theorem gd_asString(v:Value):af P Sb qt (asString v):=by unfold asString;exact gdA
theorem P0(v:Value):af P Sb qt (asAgg v):=by unfold asAgg;exact gdA
theorem iC(v:Value):af P Sb qt (asAddr v):=by unfold asAddr;exact gdA
theorem vn(a:Addr):af P Sb qt (byteOf a):=by unfold byteOf;exact gdA
theorem Mo(a:Addr)(b c:Nat):af P Sb qt (partAt a b c):=by unfold partAt;exact gdA
theorem Bb(a:Addr)(f:Field):af P Sb qt (fieldPlace a f):=by unfold fieldPlace;exact gdA
theorem tV:∀(n:Nat) (a:Addr) (acc:ByteArray),af P Sb qt (loadBytes a acc n)
 | 0,a,acc=>.pure
 |n+1,a,acc=>by have ih:=tV n;unfold loadBytes;exact gdA
theorem FQ(t:TypeId)(b:Bool)(v:Value):af P Sb qt (Instr.alloc t b v):=by unfold Instr.alloc;exact gdA
theorem jZ(v:Value):af P Sb qt (Instr.sureAddr v):=by unfold Instr.sureAddr;exact gdA
theorem B3(t:TypeId)(v:Value):af P Sb qt (Instr.loadAt t v):=by unfold Instr.loadAt;exact gdA
theorem zA(t:TypeId)(v x:Value):af P Sb qt (Instr.storeAt t v x):=by unfold Instr.storeAt;exact gdA
theorem zB(t:TypeId)(v:Value)(n:Nat):af P Sb qt (Instr.fieldAt t v n):=by unfold Instr.fieldAt;exact gdA
theorem zC(t:TypeId)(v x:Value):af P Sb qt (Instr.indexAt t v x):=by unfold Instr.indexAt;exact gdA
theorem Bh(x:Value)(y:Nat)(c:BoundsCode):af P Sb qt (Instr.sliceBound x y c):=by unfold Instr.sliceBound;exact gdA
theorem p9(b:Bool)(l c:Nat)(x y z:Option Value):af P Sb qt (Instr.sliceBounds b l c x y z):=by unfold Instr.sliceBounds;exact gdA
theorem P1(t:TypeId)(v:Value)(x y z:Option Value):af P Sb qt (Instr.slice t v x y z):=by unfold Instr.slice;exact gdA
theorem zD(t:TypeId)(v:Value)(x y z:Option Value):af P Sb qt (Instr.sliceAt t v x y z):=by unfold Instr.sliceAt;exact gdA
theorem P2(t:TypeId)(v:Value):af P Sb qt (Instr.box t v):=by unfold Instr.box;exact gdA
theorem FR(t:TypeId)(p:Array (Nat×Value)):af P Sb qt (Instr.build t p):=by unfold Instr.build;exact gdA
theorem rD(t:TypeId)(n:Nat)(p:Array (Nat×Value)):af P Sb qt (Instr.buildSlice t n p):=by unfold Instr.buildSlice;exact gdA
theorem m8(t:TypeId)(v:Value):af P Sb qt (Instr.makeInterface t v):=by unfold Instr.makeInterface;exact gdA
theorem FT(f:Fn)(a b:Array Value):af P Sb qt (Instr.makeFunc f a b):=by unfold Instr.makeFunc;exact gdA
theorem zE(t:TypeId)(r:Option Value):af P Sb qt (Instr.makeMap t r):=by unfold Instr.makeMap;exact gdA
theorem tX(t:TypeId)(l c:Value):af P Sb qt (Instr.makeSlice t l c):=by unfold Instr.makeSlice;exact gdA
theorem FU(t:TypeId)(v:Value)(n:Nat):af P Sb qt (Instr.field t v n):=by unfold Instr.field;exact gdA
theorem FV(t:TypeId)(v x:Value):af P Sb qt (Instr.index t v x):=by unfold Instr.index;exact gdA
end
section
open Go
structure gI where
 ext:FuncId->Bool
 j8:FuncId->Nat->Option Nat
 Nk:FuncId
 en:FuncId
 vY:FuncId->List Nat
 cf:FuncId
 Cb:FuncId
 tgt:FuncId->Code->Bool
 den:FuncId->Bool
 Ja:String->Bool
def gI.kG(T:gI)(g:FuncId):Operand->Bool
 |.tmp n=>(T.vY g).contains n
 |.func f=>f == T.cf
 |_=>false
def gI.agk(T:gI):Fn->Bool
 |.func f=>f == T.cf
 |_=>false
def gI.fD(T:gI)(f:FuncId)(d:Nat):Option Nat:=
 if f=T.Nk then some (d+1)else if f=T.en then(if d=0 then none else some (d-1))else if T.ext f then some d
 else T.j8 f d
def gI.Xn(T:gI)(g f:FuncId)(args:Array Operand):Bool:=(T.vY f).all fun n=>match args[n]? with|some x=>T.kG g x|none=>true
def gI.wr(T:gI)(g:FuncId)(o:Oper):Bool:=match o.dst with|some n=>(T.vY g).contains n|none=>false
def gI.S5(T:gI)(g:FuncId)(o:Oper)(d:Nat):Option Nat:=
 match o.op with
 |.call c=>
  if T.wr g o=true then none else
  match c.callee with
  |.builtin b=>if Dv b then some d else none
  |.value (.func f)=>if T.Xn g f c.args then(T.fD f (d % 2)).bind fun e=>if e<2 then some (e+2*(d / 2))else none else none
  |.invoke _ s=>if T.Ja s=true/\d=0 then some 0 else none
  |.value (.tmp n)=>if (T.vY g).contains n=true/\d=0 then some 0 else none
  |_=>none
 |.defer c=>
  match c.callee with
  |.value (.func f)=>
   if T.wr g o=true then none else
   if T.den g=true then(if f=T.en then some (d+2)else none)
   else if f=T.Cb/\T.j8 g 0=some 0/\T.j8 g 1=none then some d else none
  |_=>none
 |.go _=>some d
 |.move x=>if T.wr g o=true/\T.kG g x=false then none else some d
 |.assign x=>if T.wr g o=true/\T.kG g x=false then none else some d
 |.makeFunc fn _ _=>if T.wr g o=true/\T.agk fn=false then none else some d
 |op=>if qE op=true/\T.wr g o=false then some d else none
def gI.XZ(T:gI)(g:FuncId):List Oper->Nat->Option Nat
 | [],d=>some d
 |o :: os,d=>(T.S5 g o d).bind fun e=>if o.guard.isNone=true\/e=d then T.XZ g os e else none
def uE:Option (Option Nat)->Nat->Bool
 |some none,_=>true
 |some (some e'),e=>e' == e
 |none,_=>false
def gI.ck(T:gI)(g:FuncId)(out:Nat):Code->Nat->List (Nat×Nat)->Option (Option Nat)
 |.skip,d,_=>some (some d)
 |.region _ ops draw,d,_=>
  if ops.all (fun o=>T.S5 g o d == some d)=true then some (some d)else if draw=true then none else(T.XZ g ops.toList d).map some
 |.seq a b,d,X=>if T.tgt g (.seq a b)=true then some none else(T.ck g out a d X).bind fun r=>match r with|some e=>T.ck g out b e X|none=>some none
 |.cond c a b,d,X=>
  match c with
  |.const (.bool true)=>T.ck g out a d X
  |.const (.bool false)=>T.ck g out b d X
  |_=>(T.ck g out a d X).bind fun ra=>(T.ck g out b d X).bind fun rb=>
   match ra,rb with
   |none,r=>some r
   |some e,none=>some (some e)
   |some e,some e'=>if e=e' then some (some e)else none
 |.block id body,d,X=>
  if T.ck g out body d ((id,99):: X)=some none then some none
  else if uE (T.ck g out body d ((id,d):: X)) d=true then some (some d)
  else if uE (T.ck g out body d ((id,0):: X)) 0=true then some (some 0)
  else if uE (T.ck g out body d ((id,1):: X)) 1=true then some (some 1)else none
 |.loop body,d,X=>
  (T.ck g out body d X).bind fun r=>match r with|none=>some none|some e=>if e=d then some none else none
 |.exit id,d,X=>if X.lookup id=some d/\d<90 then some none else none
 |.ret,d,_=>if d % 2=out+d / 2 then some none else none
 |_,_,_=>none
section
variable (T:gI)(g:FuncId)(out:Nat)
def TK(ops:Array Oper):Nat->List Nat->Nat->Prop
 |d, [],e=>e=d
 |d,i :: is,e=>match ops[i]? with
  |none=>TK ops d is e
  |some o=>∃d1,T.S5 g o d=some d1/\(o.guard=none\/d1=d)/\TK ops d1 is e
def Jd:List Item->(Nat->List (Nat×Nat)->Prop)×(List (Nat×Nat)->Prop)
 | []=>(fun d X=>d % 2=out+d / 2/\X= [],fun X=>X= [])
 |.code c :: k=>(fun d X=>∃r,T.ck g out c d X=some r/\(Jd k).2 X/\∀e,r=some e->(Jd k).1 e X,(Jd k).2)
 |.inBlock id :: k=>(fun d X=>∃X',X=(id,d):: X'/\(Jd k).1 d X'/\(Jd k).2 X',fun X=>∃e X',X=(id,e):: X'/\(e<90->(Jd k).1 e X')/\(Jd k).2 X')
 |.inLoop body :: k=>(fun d X=>(∃r,T.ck g out body d X=some r/\∀e,r=some e->e=d)/\(Jd k).2 X,(Jd k).2)
 |.inRegion ops is :: k=>(fun d X=>∃e,TK T g ops d is e/\(Jd k).1 e X/\(Jd k).2 X,(Jd k).2)
 |_ :: k=>(fun _ _=>False,(Jd k).2)
abbrev oR(k:List Item)(d:Nat)(X:List (Nat×Nat)):Prop:=(Jd T g out k).1 d X
abbrev Xs(k:List Item)(X:List (Nat×Nat)):Prop:=(Jd T g out k).2 X
end
section
variable {T:gI}{g:FuncId}{out d:Nat}{k k':List Item}{X:List (Nat×Nat)}
theorem D8{id e:Nat}(h90:e<90):∀{k:List Item} {X:List (Nat×Nat)},Xs T g out k X->X.lookup id=some e->exitTo id k=some k'->∃X',oR T g out k' e X'
 | [],X,h,hl,he=>by cases he
 |i :: k,X,h,hl,he=>by
  cases i with
  |inBlock id'=>
   obtain⟨e',X',rfl,h2,h3⟩:=h;simp only[exitTo]at he;by_cases hi:id'=id
   ·subst hi;simp only[beq_self_eq_true,if_true,Option.some.injEq]at he;subst he;simp only[List.lookup,beq_self_eq_true,Option.some.injEq]at hl;subst hl;exact⟨X',h2 h90⟩
   ·have h1:(id' == id)=false:=by simpa using hi
    have h2':(id == id')=false:=by simpa using fun h=>hi h.symm
    simp only[h1,Bool.false_eq_true,if_false]at he;simp only[List.lookup,h2']at hl;exact D8 h90 h3 hl he
  |_=>exact D8 h90 (k:=k) h hl he
theorem TL(h:oR T g out [] d X):d % 2=out+d / 2:=h.1
theorem TM(h:oR T g out (.code .ret :: k) d X):d % 2=out+d / 2:=by
 obtain⟨r,h1,_⟩:=h;simp only[gI.ck]at h1;split at h1
 ·assumption
 ·cases h1
theorem QW(h:oR T g out (.code .skip :: k) d X):oR T g out k d X:=by obtain⟨r,h1,_,h3⟩:=h;simp only[gI.ck,Option.some.injEq]at h1;exact h3 d h1.symm
theorem GN(h:oR T g out (.inBlock id :: k) d X):∃X',oR T g out k d X':=by obtain⟨X',_,h,_⟩:=h;exact⟨X',h⟩
theorem TN{a b:Code}(h:oR T g out (.code (.seq a b):: k) d X)(ht:T.tgt g (.seq a b)=false):oR T g out (.code a :: .code b :: k) d X:=by
 obtain⟨r,h1,h2,h3⟩:=h;simp only[gI.ck,ht,Bool.false_eq_true,if_false]at h1;cases ha:T.ck g out a d X with
 |none=>rw[ha]at h1;cases h1
 |some ra=>
  rw[ha]at h1;refine⟨ra,ha,h2,fun e he=>?_⟩;subst he;exact⟨r,h1,h2,h3⟩
theorem QX{c:Operand}{a b:Code}{q:Bool}(h:oR T g out (.code (.cond c a b):: k) d X)(hq:∀q',c=.const (.bool q')->q=q'):oR T g out (.code (if q then a else b):: k) d X:=by
 obtain⟨r,h1,h2,h3⟩:=h;simp only[gI.ck]at h1;split at h1
 ·obtain rfl:=hq true rfl;exact⟨r,h1,h2,h3⟩
 ·obtain rfl:=hq false rfl;exact⟨r,h1,h2,h3⟩
 clear hq;cases ha:T.ck g out a d X with
 |none=>rw[ha]at h1;cases h1
 |some ra=>
  rw[ha]at h1;cases hb:T.ck g out b d X with
  |none=>rw[hb]at h1;cases h1
  |some rb=>
   rw[hb]at h1;simp only[Option.bind_some]at h1;cases q with
   |true=>
    refine⟨ra,ha,h2,fun e he=>h3 e ?_⟩;subst he;cases rb with
    |none=>simpa using h1.symm
    |some e'=>simp only at h1;split at h1<;>cases h1;rfl
   |false=>
    refine⟨rb,hb,h2,fun e he=>h3 e ?_⟩;subst he;cases ra with
    |none=>simpa using h1.symm
    |some e'=>
     simp only at h1;split at h1
     ·rename_i hh;cases h1;rw[hh]
     ·cases h1
theorem M5{a:Code}(h:oR T g out (.code (.block id a):: k) d X):∃X',oR T g out (.code a :: .inBlock id :: k) d X':=by
 obtain⟨r,h1,h2,h3⟩:=h;simp only[gI.ck]at h1;have key:∀e,uE (T.ck g out a d ((id,e):: X)) e=true->r=some e->oR T g out (.code a :: .inBlock id :: k) d ((id,e):: X):=by
  intro e he hr;have hk:=h3 e hr;cases ha:T.ck g out a d ((id,e):: X)with
  |none=>rw[ha]at he;cases he
  |some ra=>
   refine⟨ra,ha,⟨e,X,rfl,fun _=>hk,h2⟩,fun e' he'=>?_⟩;subst he';rw[ha]at he;simp only[uE,beq_iff_eq]at he;subst he;exact⟨X,rfl,hk,h2⟩
 split at h1
 ·rename_i hh;exact⟨(id,99):: X,none,hh,⟨99,X,rfl,fun h=>absurd h (by decide),h2⟩,fun e he=>by cases he⟩
 ·split at h1
  ·rename_i hh;exact⟨_,key d hh (by cases h1;rfl)⟩
  ·split at h1
   ·rename_i hh;exact⟨_,key 0 hh (by cases h1;rfl)⟩
   ·split at h1
    ·rename_i hh;exact⟨_,key 1 hh (by cases h1;rfl)⟩
    ·cases h1
theorem Al{a:Code}(h:oR T g out (.inLoop a :: k) d X):oR T g out (.code a :: .inLoop a :: k) d X:=by obtain⟨⟨r,h1,h2⟩,h3⟩:=h;refine⟨r,h1,h3,fun e he=>?_⟩;obtain rfl:=h2 e he;exact⟨⟨r,h1,h2⟩,h3⟩
theorem QY{a:Code}(h:oR T g out (.code (.loop a):: k) d X):oR T g out (.code a :: .inLoop a :: k) d X:=by
 obtain⟨r,h1,h2,h3⟩:=h;simp only[gI.ck]at h1;refine Al (d:=d) ⟨?_,h2⟩;cases ha:T.ck g out a d X with
 |none=>rw[ha]at h1;cases h1
 |some ra=>
  refine⟨ra,rfl,fun e he=>?_⟩;subst he;rw[ha]at h1;simp only[Option.bind_some]at h1;split at h1
  ·assumption
  ·cases h1
theorem QZ(h:oR T g out (.code (.exit id):: k) d X)(he:exitTo id k=some k'):∃X',oR T g out k' d X':=by
 obtain⟨r,h1,h2,h3⟩:=h;simp only[gI.ck]at h1;split at h1
 ·rename_i hh;exact D8 hh.2 h2 hh.1 he
 ·cases h1
theorem qL{ops:Array Oper}(h:ops.all (fun o=>T.S5 g o d == some d)=true):∀is,TK T g ops d is d
 | []=>rfl
 |i :: is=>by
  unfold TK;split
  ·exact qL h is
  ·rename_i o ho;have h1:=Array.all_eq_true.1 h;obtain⟨hl,he⟩:=Array.getElem?_eq_some_iff.1 ho;have:=h1 i hl;rw[he]at this;exact⟨d,by simpa using this,.inr rfl,qL h is⟩
theorem Cr{ops:Array Oper}:∀(suf pre:List Oper) (d e:Nat),ops.toList=pre++suf->T.XZ g suf d=some e->TK T g ops d (List.range' pre.length suf.length) e
 | [],pre,d,e,h,hc=>by simp only[gI.XZ,Option.some.injEq]at hc;exact hc.symm
 |o :: suf,pre,d,e,h,hc=>by
  rw[List.length_cons,List.range'_succ];have ho:ops[pre.length]?=some o:=by rw[<-Array.getElem?_toList,h];simp
  unfold TK;rw[ho];simp only[gI.XZ]at hc;cases hd:T.S5 g o d with
  |none=>rw[hd]at hc;cases hc
  |some d1=>
   rw[hd]at hc;simp only[Option.bind_some]at hc;split at hc
   ·rename_i hg;refine⟨d1,hd,hg.imp (fun h=>by simpa using h) id,?_⟩;have:=Cr suf (pre++ [o]) d1 e (by rw[h];simp) hc;simpa using this
   ·cases hc
theorem Am{draw:Bool}(h:oR T g out (.code (.region id ops draw):: k) d X):(draw=false->oR T g out (.inRegion ops (List.range ops.size):: k) d X)/\(draw=true->∀is,oR T g out (.inRegion ops is :: k) d X):=by
 obtain⟨r,h1,h2,h3⟩:=h;simp only[gI.ck]at h1;split at h1
 ·rename_i hh;have hk:=h3 d (by cases h1;rfl);exact⟨fun _=>⟨d,qL hh _,hk,h2⟩,fun _ is=>⟨d,qL hh _,hk,h2⟩⟩
 ·split at h1
  ·cases h1
  ·rename_i hd;refine⟨fun _=>?_,fun h=>absurd h hd⟩;cases hc:T.XZ g ops.toList d with
   |none=>rw[hc]at h1;cases h1
   |some e=>
    rw[hc]at h1;have:=Cr ops.toList [] d e rfl hc;rw[List.length_nil,<-List.range_eq_range',Array.length_toList]at this;exact⟨e,this,h3 e (by cases h1;rfl),h2⟩
theorem Q0(h:oR T g out (.inRegion ops [] :: k) d X):oR T g out k d X:=by obtain⟨e,h1,h2,_⟩:=h;obtain rfl:e=d:=h1;exact h2
theorem Qd{o:Oper}(h:oR T g out (.inRegion ops (i :: is):: k) d X)(ho:ops[i]?=some o):∃d1,T.S5 g o d=some d1/\(o.guard=none\/d1=d)/\oR T g out (.inRegion ops is :: k) d1 X:=by obtain⟨e,h1,h2,h3⟩:=h;unfold TK at h1;rw[ho]at h1;obtain⟨d1,h4,h5,h6⟩:=h1;exact⟨d1,h4,h5,e,h6,h2,h3⟩
theorem Xh(h:oR T g out (.inRegion ops (i :: is):: k) d X)(ho:ops[i]?=none):oR T g out (.inRegion ops is :: k) d X:=by obtain⟨e,h1,h2,h3⟩:=h;unfold TK at h1;rw[ho]at h1;exact⟨e,h1,h2,h3⟩
end
end
section
open Go Go.Conc
def vD(T:gI)(v:Value):Prop:=∀fn a c,v=.func fn a c->fn=.func T.cf
structure rI(T:gI)(fr:Frame)(out:Nat):Prop where
 round:fr.roundOf=none
 EF:∀x∈fr.defers,∃c,x.target=.fn (.func (if T.den fr.fn=true then T.en else T.Cb)) c
 kind:fr.kind=.normal\/fr.kind=.deferred
 j8:∃a,T.j8 fr.fn a=some out
 Xi:T.den fr.fn=true\/fr.defers= []\/out=0
def oT(T:gI)(fr:Frame):Nat:=if T.den fr.fn=true then fr.defers.length else 0
structure m9(T:gI)(d:Nat)(fr:Frame)(out:Nat):Prop where
 vY:∀n∈T.vY fr.fn,vD T (fr.tmps.getD n undef)
 ok:∃s X,s % 2=d/\s / 2=oT T fr/\oR T fr.fn out fr.todo s X
def gQ(T:gI)(d:Nat)(fr:Frame)(out:Nat):Prop:=
 match fr.mode with
 |.run=>m9 T d fr out
 |.returning=>d=out+oT T fr
 |.panicking ch=>∀e∈ch,e.recovered=false
def agm(T:gI)(d:Nat)(fr:Frame)(out:Nat):Prop:=rI T fr out/\gQ T d fr out
def Wt(T:gI):CallKind->Nat->List Frame->Prop
 |kd,_, []=>kd=.normal
 |kd,e,c :: rest=>∃out',rI T c out'/\Wt T c.kind out' rest/\
  ((kd=.normal/\c.mode=.run/\∀v,m9 T e (c.finish v) out')\/(kd=.deferred/\c.mode≠.run/\gQ T e c out'))
def AG(T:gI)(d:Nat)(fr:Frame)(cs1:List Frame):Prop:=∃out,agm T d fr out/\Wt T fr.kind out cs1
def iT(fr:Frame)(cs1:List Frame):Prop:=∀c∈fr :: cs1,∀ch,c.mode≠.panicking ch
def kF(P:Program)(T:gI)(d:Nat)(fr:Frame)(cs1:List Frame)(w:World):Prop:=
 ∃fr' Xo w' es d',(∀cs,stepG P true (G fr (cs1++cs)) w=.go (G fr' (Xo++cs)) w' es)/\AG T d' fr' Xo/\(iT fr' Xo->iT fr cs1/\deafBehind d es=d')
def Cj(g:Goroutine):Prop:=g.status=.blocked\/g.status=.waiting\/(g.status=.running/\∃d f,g.dying=some d/\d.calling=false/\d.fatal=some f)
def zX(P:Program)(fr:Frame)(cs1:List Frame)(w:World):Prop:=
 ∀cs,(∃o w' es,stepG P true (G fr (cs1++cs)) w=.ended o w' es)\/(∃g' w' es,stepG P true (G fr (cs1++cs)) w=.go g' w' es/\Cj g')\/∃g' g2 w' es,stepG P true (G fr (cs1++cs)) w=.spawn g' g2 w' es
def QD(T:gI)(fr:Frame):Prop:=fr.mode=.run/\∃c k,fr.todo=.code c :: k/\T.tgt fr.fn c=true
section
variable {P:Program}{T:gI}{d out:Nat}{fr:Frame}{cs1:List Frame}{w:World}
theorem iT.top{fr':Frame}(h:iT fr' cs1)(hm:∀ch,fr.mode≠.panicking ch):iT fr cs1:=fun c hc ch he=>by
 rcases List.mem_cons.1 hc with rfl|hc
 ·exact hm ch he
 ·exact h c (za6 _ hc) ch he
theorem rI.todo(h:rI T fr out)(t:List Item):rI T {fr with todo:=t} out:=⟨h.round,h.EF,h.kind,h.j8,h.Xi⟩
theorem iL(hf:rI T fr out)(hr:m9 T d fr out)(hw:Wt T fr.kind out cs1)(hm:fr.mode=.run){s:Nat}(h1:s % 2=d)(h2:s / 2=oT T fr){k:List Item}{X:List (Nat×Nat)}(hk:oR T fr.fn out k s X)
 (hs:∀cs,stepG P true (G fr (cs1++cs)) w=.go (G {fr with todo:=k} (cs1++cs)) w #[]):kF P T d fr cs1 w:=by refine⟨{fr with todo:=k},cs1,w,#[],d,hs,⟨out,⟨hf.todo k,?_⟩,hw⟩,fun h=>⟨h.top (fun ch he=>by rw[hm]at he;cases he),rfl⟩⟩;unfold gQ;simp only[hm];exact⟨hr.vY,s,X,h1,h2,hk⟩
theorem wV(hf:rI T fr out)(hw:Wt T fr.kind out cs1)(hm:fr.mode=.run)(hd:d=out+oT T fr)
 (hs:∀cs,stepG P true (G fr (cs1++cs)) w=.go (G {fr with mode:=.returning} (cs1++cs)) w #[]):kF P T d fr cs1 w:=by refine⟨{fr with mode:=.returning},cs1,w,#[],d,hs,⟨out,⟨⟨hf.round,hf.EF,hf.kind,hf.j8,hf.Xi⟩,?_⟩,hw⟩,fun h=>⟨h.top (fun ch he=>by rw[hm]at he;cases he),rfl⟩⟩;unfold gQ;exact hd
def WQ(fr:Frame):Prop:=∃ops i is k,fr.todo=.inRegion ops (i :: is):: k
theorem QE(hf:rI T fr out)(hr:m9 T d fr out)(hw:Wt T fr.kind out cs1)(hm:fr.mode=.run)(w:World):kF P T d fr cs1 w\/zX P fr cs1 w\/QD T fr\/WQ fr:=by
 obtain⟨s,X,qT,tN,hk⟩:=hr.ok;obtain⟨fn,tmps,todo,defers,mode,kind,ro⟩:=fr;obtain rfl:ro=none:=hf.round;obtain rfl:mode=.run:=hm;simp only at hk hf hr hw tN;cases todo with
 |nil=>exact .inl (wV hf hw rfl (by rw[<-qT,<-tN];exact TL hk) fun cs=>rfl)
 |cons i k=>
  cases i with
  |inBlock id=>obtain⟨X',h⟩:=GN hk;exact .inl (iL hf hr hw rfl qT tN h fun cs=>rfl)
  |inLoop a=>exact .inl (iL hf hr hw rfl qT tN (Al hk) fun cs=>rfl)
  |inRegion ops is=>
   cases is with
   |nil=>exact .inl (iL hf hr hw rfl qT tN (Q0 hk) fun cs=>rfl)
   |cons j is=>exact .inr (.inr (.inr ⟨ops,j,is,k,rfl⟩))
  |code c=>
   cases c with
   |skip=>exact .inl (iL hf hr hw rfl qT tN (QW hk) fun cs=>rfl)
   |ret=>exact .inl (wV hf hw rfl (by rw[<-qT,<-tN];exact TM hk) fun cs=>rfl)
   |seq a b=>
    cases ht:T.tgt fn (.seq a b)with
    |true=>exact .inr (.inr (.inl ⟨rfl,_,_,rfl,ht⟩))
    |false=>exact .inl (iL hf hr hw rfl qT tN (TN hk ht) fun cs=>rfl)
   |cond c a b=>
    by_cases hc:∃q,(Frame.mk fn tmps (.code (.cond c a b):: k) defers .run kind none).eval c=.bool q
    ·obtain⟨q,hq⟩:=hc;refine .inl (iL hf hr hw rfl qT tN (QX (q:=q) hk fun q' e=>?_) fun cs=>?_)
     ·subst e;simp only[Frame.eval,Value.bool.injEq]at hq;exact hq.symm
     ·simp only[stepG,G,stepG.exec,hq]
    ·refine .inr (.inl fun cs=>.inl ⟨.stuck "cond: bool expected" ((Frame.mk fn tmps (.code (.cond c a b):: k) defers .run kind none).pos P),w,#[],?_⟩);simp only[stepG,G,stepG.exec];split
     ·rename_i q hq;exact absurd ⟨q,hq⟩ hc
     ·rfl
   |block id a=>obtain⟨X',h⟩:=M5 hk;exact .inl (iL hf hr hw rfl qT tN h fun cs=>rfl)
   |loop a=>exact .inl (iL hf hr hw rfl qT tN (QY hk) fun cs=>rfl)
   |exit id=>
    cases he:exitTo id k with
    |some k'=>
     obtain⟨X',h⟩:=QZ hk he;refine .inl (iL hf hr hw rfl qT tN h fun cs=>?_);simp only[stepG,G,stepG.exec,he,Option.elim]
    |none=>
     refine .inr (.inl fun cs=>.inl ⟨.stuck "exit, goto: no such block or label" ((Frame.mk fn tmps (.code (.exit id):: k) defers .run kind none).pos P),w,#[],?_⟩);simp only[stepG,G,stepG.exec,he,Option.elim];rfl
   |region id ops draw=>
    cases draw with
    |false=>exact .inl (iL hf hr hw rfl qT tN ((Am hk).1 rfl) fun cs=>rfl)
    |true=>
     have hx:(choose (.order fn id)).run P w=.ok (Question.cut (.order fn id) (w.tape w.drawn (.order fn id))) {w with drawn:=w.drawn+1}:=by simp[choose,Sem.run,Question.forced]
     refine .inl ⟨⟨fn,tmps,.inRegion ops (Region.schedule (P.follows .mixedOrders) ops (Question.cut (.order fn id) (w.tape w.drawn (.order fn id)))):: k,defers,.run,kind,none⟩,cs1,{w with drawn:=w.drawn+1},#[],d,fun cs=>?_,⟨out,⟨hf.todo _,?_⟩,hw⟩,fun h=>⟨h.top (fun ch he=>by cases he),rfl⟩⟩
     ·simp only[stepG,G,stepG.exec,hx,Bool.not_true,Bool.false_eq_true,if_false]
     ·exact⟨hr.vY,s,X,qT,tN,(Am hk).2 rfl _⟩
   |_=>obtain⟨r,h1,_⟩:=hk;simp[gI.ck]at h1
  |_=>exact hk.elim
end
end
section
open Go Go.Conc
theorem F8{e:Event}(h:e∈seen P f es):e∈es:=by
 unfold seen at h;dsimp only at h;rw[<-Array.foldl_toList]at h;have key:∀(l:List Event) (q:Bool) (kept:Array Event) (e:Event),e∈(l.foldl (fun(x:Bool×Array Event) e=>match x with
  |(q,kept)=>match e.loc with
   |.mark (.extern f)=>((P.funcs[f]?).any (·.norace),kept)
   |_=>(q,if q && !e.sync then kept else kept.push e)) (q,kept)).2->e∈kept\/e∈l:=by
  intro l
  induction l with
  |nil=>intro q kept e h;exact .inl h
  |cons x l ih=>
   intro q kept e h;simp only[List.foldl_cons]at h;split at h
   ·exact(ih _ _ _ h).imp id (za6 _)
   ·rcases ih _ _ _ h with h1|h1
    ·split at h1
     ·exact .inl h1
     ·rcases Array.mem_push.1 h1 with h2|rfl
      ·exact .inl h2
      ·exact .inr (List.mem_cons_self ..)
    ·exact .inr (za6 _ h1)
 rcases key _ _ _ _ h with h1|h1
 ·simp at h1
 ·exact Array.mem_toList_iff.1 h1
theorem TP(h:∀e∈es,e.loc≠.mark .disable/\e.loc≠.mark .enable)(d:Nat):deafBehind d es=d:=by
 unfold deafBehind;rw[<-Array.foldl_toList];have key:∀(l:List Event) (d:Nat),(∀e∈l,e.loc≠.mark .disable/\e.loc≠.mark .enable)->l.foldl (fun d e=>match e.loc with|.mark .disable=>d+1|.mark .enable=>d-1|_=>d) d=d:=by
  intro l;induction l with
  |nil=>intro d _;rfl
  |cons x l ih=>
   intro d hl;simp only[List.foldl_cons];have hx:=hl x (List.mem_cons_self ..);split
   ·rename_i hh;exact absurd hh hx.1
   ·rename_i hh;exact absurd hh hx.2
   ·exact ih d fun e he=>hl e (za6 _ he)
 exact key _ d fun e he=>h e (Array.mem_toList_iff.1 he)
theorem M6(h:∀e∈es,e.loc≠.mark .disable/\e.loc≠.mark .enable)(d:Nat):deafBehind d (seen P f es)=d:=TP (fun e he=>h e (F8 he)) d
section
variable {P:Program}{fr:Frame}{w:World}{s:Sem Next}
def ryd(w:World)(g:Nat):World:={w with heap:=match w.heap[g]? with|some (.pending c e)=>w.heap.setIfInBounds g (.cells c e)|_=>w.heap}
theorem JL(hst:∀g,P.stepOf g=none)(g:Nat)(w:World):(∀cs,∃o w' es,early P fr cs none g w=.ended o w' es)\/∀cs,early P fr cs none g w=.go (G fr cs) (ryd w g) #[]:=by
 unfold early;simp only[hst];split
 ·split
  ·rename_i c e he;exact .inr fun cs=>by simp[G,ryd,he]
  ·exact .inl fun cs=>⟨_,_,_,rfl⟩
 ·exact .inl fun cs=>⟨_,_,_,rfl⟩
def uj(s:GStep):Prop:=(∃o w' es,s=.ended o w' es)\/(∃g' w' es,s=.go g' w' es/\Cj g')\/∃g' g2 w' es,s=.spawn g' g2 w' es
theorem uj.after{s:GStep}(h:uj s)(es:Array Event):uj (s.after es):=by
 rcases h with⟨o,w',es',rfl⟩|⟨g',w',es',rfl,h⟩|⟨g',g2,w',es',rfl⟩
 ·exact .inl ⟨_,_,_,rfl⟩
 ·exact .inr (.inl ⟨_,_,_,rfl,h⟩)
 ·exact .inr (.inr ⟨_,_,_,_,rfl⟩)
theorem ox(fr:Frame)(l:List ByteArray)(m:String)(b:Bool)(w:World):uj (dieOf fr l m b w):=.inr (.inl ⟨_,_,_,rfl,.inr (.inr ⟨rfl,_,_,rfl,rfl,rfl⟩)⟩)
theorem zM(fr:Frame)(cs:List Frame)(m:String)(w:World):uj (endFatal P fr cs none m w):=by
 unfold endFatal;simp only;split
 ·exact ox ..
 ·exact .inl ⟨_,_,_,rfl⟩
 ·exact .inl ⟨_,_,_,rfl⟩
theorem zL(hst:∀g,P.stepOf g=none)(hk:fr.kind=.normal\/fr.kind=.deferred)(hr:s.runT P w #[]=(.halt h w',es)):
 (∃e es',e.recovered=false/\∀cs,stepG.apply P true fr cs none s w=.go (G (fr.raise [e]) cs) w' es')\/(∃w2,∀cs,stepG.apply P true fr cs none s w=.go (G fr cs) w2 #[])\/∀cs,uj (stepG.apply P true fr cs none s w):=by
 have WO:(fr.kind == CallKind.early)=false:=by rcases hk with h|h<;>rw[h]<;>rfl
 cases h with
 |panic v=>exact .inl ⟨{v,recovered:=false},_,rfl,fun cs=>by simp only[stepG.apply,if_true,hr];rfl⟩
 |goexit=>exact .inl ⟨goexitEntry,_,rfl,fun cs=>by simp only[stepG.apply,if_true,hr];rfl⟩
 |unsupported u=>
  by_cases hu:∃g,u=.initOrder g
  ·obtain⟨g,rfl⟩:=hu;have e0:seen P fr.fn #[]=#[]:=rfl;rcases JL (fr:=fr) hst g w' with he|he
   ·refine .inr (.inr fun cs=>?_);simp only[stepG.apply,if_true,hr,WO,Bool.false_eq_true,if_false];obtain⟨o,w2,xK,he⟩:=he cs;rw[he];exact .inl ⟨_,_,_,rfl⟩
   ·refine .inr (.inl ⟨ryd w' g,fun cs=>?_⟩);simp only[stepG.apply,if_true,hr,WO,Bool.false_eq_true,if_false];rw[he cs,e0];rfl
  ·refine .inr (.inr fun cs=>?_);simp only[stepG.apply,if_true,hr];cases u with
   |initOrder g=>exact absurd ⟨g,rfl⟩ hu
   |_=>exact .inl ⟨_,_,_,rfl⟩
 |fatal m=>exact .inr (.inr fun cs=>(by simp only[stepG.apply,if_true,hr];exact(zM fr cs m w').after _))
 |throw m=>exact .inr (.inr fun cs=>(by simp only[stepG.apply,if_true,hr];exact(ox fr [] m false w').after _))
 |blocked=>exact .inr (.inr fun cs=>(by simp only[stepG.apply,if_true,hr];exact .inr (.inl ⟨_,_,_,rfl,.inl rfl⟩)))
 |waiting=>exact .inr (.inr fun cs=>(by simp only[stepG.apply,if_true,hr];exact .inr (.inl ⟨_,_,_,rfl,.inr (.inl rfl)⟩)))
 |_=>exact .inr (.inr fun cs=>(by simp only[stepG.apply,if_true,hr];exact .inl ⟨_,_,_,rfl⟩))
end
end
section
open Go
theorem Gq{info:TypeId->Option TypeInfo}{fs:Array Field}{i:TypeInfo}(h:Made.reckonStruct info fs=some i):i.methods=#[]:=by unfold Made.reckonStruct at h;simp only[Option.bind_eq_bind,Option.pure_def]at h;obtain⟨st,_,h⟩:=za7.1 h;split at h<;>(cases h;rfl)
theorem Gr{info:TypeId->Option TypeInfo}{d:TypeDesc}{i:TypeInfo}(h:Made.reckon info d=some i):i.methods=#[]:=by
 unfold Made.reckon at h;simp only[Option.bind_eq_bind,Option.pure_def]at h;split at h
 ·obtain⟨j,_,h⟩:=za7.1 h;split at h
  ·cases h
  ·split at h
   ·cases h
   ·obtain⟨s,_,h⟩:=za7.1 h;cases h;rfl
  ·obtain⟨s,_,h⟩:=za7.1 h;cases h;rfl
 ·obtain⟨s,_,h⟩:=za7.1 h;obtain⟨s,_,h⟩:=za7.1 h;cases h;rfl
 ·obtain⟨s,_,h⟩:=za7.1 h;obtain⟨s,_,h⟩:=za7.1 h;obtain⟨s,_,h⟩:=za7.1 h;obtain⟨s,_,h⟩:=za7.1 h;cases h;rfl
 ·obtain⟨s,_,h⟩:=za7.1 h;obtain⟨s,_,h⟩:=za7.1 h;cases h;rfl
 ·obtain⟨s,_,h⟩:=za7.1 h;cases h;rfl
 ·obtain⟨s,_,h⟩:=za7.1 h;obtain⟨s,_,h⟩:=za7.1 h;cases h;rfl
 ·exact Gq h
 ·cases h
theorem DY{t:TypeId}{i:TypeInfo}(h:P.info? t=some i):P.types[t]?=some i\/i.methods=#[]:=by
 unfold Tables.info? at h;split at h
 ·exact .inl h
 ·right;have key:∀n,Made.infoAt P.toTables n t=some i->i.methods=#[]:=by
   intro n hn;cases n with
   |zero=>cases hn
   |succ n=>
    unfold Made.infoAt at hn;split at hn
    ·contradiction
    ·obtain⟨d,_,hn⟩:=za7.1 hn;exact Gr hn
  exact key _ h
def QL(P:Program)(s:String)(f:FuncId):Prop:=∃(t:TypeId) (i:TypeInfo) (m:Method) (b:Bool),P.types[t]?=some i/\m∈i.methods/\m.name=s/\m.func=some (f,b)
theorem oy{P:Program}{s:String}:∀(n:Nat) {t:TypeId} {v:Value} {w:World} {es:Array Event} {f:FuncId} {x:Value} {w':World} {es':Array Event},(method n t v s).runT P w es=(.ok (f,x) w',es')->QL P s f
 | 0,t,v,w,es,f,x,w',es',h=>by cases h
 |n+1,t,v,w,es,f,x,w',es',h=>by
  unfold method at h;have SH:(typeInfo t).runT P w es=(match P.info? t with|some i=>(.ok i w,es)|none=>(.halt (.stuck "no such type") w,es)):=by show (match P.info? t with|some i=>(pure i:Sem TypeInfo)|none=>stuck "no such type").runT P w es=_;cases P.info? t<;>rfl
  rw[fS,SH]at h;cases hi:P.info? t with
  |none=>rw[hi]at h;cases h
  |some i=>
   rw[hi]at h;simp only at h;cases hm:i.methods.find? (·.name == s)with
   |none=>rw[hm]at h;cases h
   |some m=>
    rw[hm]at h;simp only at h;rw[fS]at h;have hmem:=Array.mem_of_find?_eq_some hm;have hname:m.name=s:=by simpa using Array.find?_some hm
    have hty:P.types[t]?=some i:=by
     rcases DY hi with h1|h1
     ·exact h1
     ·rw[h1]at hmem;simp at hmem
    obtain⟨r,xN,hr⟩:∃r xN,(follow m.path.toList t (.val v)).runT P w es=(r,xN):=⟨_,_,rfl⟩
    rw[hr]at h;cases r with
    |halt hh w1=>cases h
    |ok xx w1=>
     obtain⟨xt,pl⟩:=xx;simp only at h;cases hf:m.func with
     |none=>
      rw[hf]at h;simp only at h;rw[fS]at h;obtain⟨r3,S4,hr3⟩:∃r e,(pl.get xt).runT P w1 xN=(r,e):=⟨_,_,rfl⟩
      rw[hr3]at h;cases r3 with
      |halt hh w3=>cases h
      |ok y w3=>
       simp only at h;cases y with
       |iface t' v'=>exact oy n h
       |nilIface=>
        have:=(iW (Q:=fun _=>False) program (f:=fun p=>(goPanic (.iface p.rt.errorString (strVal "invalid memory address or nil pointer dereference")):Sem (FuncId×Value))) fun _=>.halt).out h;exact this.elim
       |_=>cases h
     |some fb=>
      obtain⟨g,b⟩:=fb;rw[hf]at h;simp only at h;rw[fS]at h;obtain⟨r3,S4,hr3⟩:∃r e,(receiverAt xt pl b (if m.path.isEmpty=true then some ((s.splitOn ".").getLastD s)else none)).runT P w1 xN=(r,e):=⟨_,_,rfl⟩
      rw[hr3]at h;cases r3 with
      |halt hh w3=>cases h
      |ok y w3=>
       cases h;exact⟨t,i,m,b,hty,hmem,hname,hf⟩
end
section
open Go Go.Conc
structure gY(P:Program)(T:gI):Prop where
 nG:∀g,P.stepOf g=none
 two:∀f a b,T.j8 f a=some b->a<2
 j8:∀f a b,T.j8 f a=some b->∃fn c,P.funcs[f]?=some fn/\(fn.name == "runtime.NumGoroutine")=false/\fn.body=some c/\∃r,T.ck f b c a []=some r/\∀e,r=some e->e % 2=b+e / 2
 Cb:T.j8 T.Cb 0=some 0/\T.vY T.Cb= []
 cf:T.j8 T.cf 0=some 0/\T.vY T.cf= []
 ext:∀f,T.ext f=true->∀args w n w' es,(callFunc f args).runT P w #[]=(.ok n w',es)->(∃v,n=.value v)/\∀g d,deafBehind d (seen P g es)=d
 Nk:∀args w n w' es,(callFunc T.Nk args).runT P w #[]=(.ok n w',es)->(∃v,n=.value v)/\∀g d,deafBehind d (seen P g es)=d+1
 en:∀args w,∃v es,(callFunc T.en args).runT P w #[]=(.ok (.value v) w,es)/\∀g d,deafBehind d (seen P g es)=d-1
 Ja:∀s f,T.Ja s=true->QL P s f->T.j8 f 0=some 0/\T.vY f= []
section
variable {P:Program}{T:gI}{d d1 s1 out:Nat}{fr:Frame}{cs1:List Frame}{w:World}{ops:Array Oper}{i:Nat}{is:List Nat}{k:List Item}{o:Oper}{X:List (Nat×Nat)}
theorem qH(ht:fr.todo=.inRegion ops (i :: is):: k)(v:Value):fr.finish v={fr with tmps:=(match (ops[i]?).bind (·.dst)with|some t=>fr.tmps.setIfInBounds t v|none=>fr.tmps),todo:=.inRegion ops is :: k}:=by unfold Frame.finish;rw[ht];rfl
theorem rI.finish(h:rI T fr out)(ht:fr.todo=.inRegion ops (i :: is):: k)(v:Value):rI T (fr.finish v) out:=by rw[qH ht];exact⟨h.round,h.EF,h.kind,h.j8,h.Xi⟩
theorem fj:vD T undef:=fun fn a c h=>by cases h
theorem zZ(h:∀n∈T.vY fr.fn,vD T (fr.tmps.getD n undef))(v:Value)(hv:(∀o,ops[i]?=some o->T.wr fr.fn o=true->vD T v))(n:Nat)(hn:n∈T.vY fr.fn):vD T (Array.getD (match (ops[i]?).bind (·.dst)with|some t=>fr.tmps.setIfInBounds t v|none=>fr.tmps) n undef):=by
 cases ho:ops[i]? with
 |none=>simp only[Option.bind_none];exact h n hn
 |some o=>
  simp only[Option.bind_some];cases hd:o.dst with
  |none=>simp only;exact h n hn
  |some t=>
   simp only;by_cases e:t=n
   ·subst e;have hw:T.wr fr.fn o=true:=by unfold gI.wr;rw[hd];simpa using hn
    by_cases hl:t<fr.tmps.size
    ·rw[za8,Array.getElem?_setIfInBounds_self_of_lt hl];exact hv o ho hw
    ·rw[za8,Array.getElem?_eq_none (by simpa using Nat.le_of_not_lt hl)];exact fj
   ·have:=h n hn;rw[za8,za5 e,<-za8];exact this
theorem m9.finish(h:m9 T d fr out)(ht:fr.todo=.inRegion ops (i :: is):: k)(e1:s1 % 2=d1)(e2:s1 / 2=oT T fr)(hk:oR T fr.fn out (.inRegion ops is :: k) s1 X)(v:Value)(hv:(∀o,ops[i]?=some o->T.wr fr.fn o=true->vD T v)):m9 T d1 (fr.finish v) out:=by rw[qH ht];exact⟨zZ h.vY v hv,s1,X,e1,e2,hk⟩
theorem wO(ht:fr.todo=.inRegion ops (i :: is):: k)(v:Value):(fr.finish v).mode=fr.mode/\(fr.finish v).kind=fr.kind:=by rw[qH ht];exact⟨rfl,rfl⟩
theorem kO(hf:rI T fr out)(hr:m9 T d fr out)(hw:Wt T fr.kind out cs1)(hm:fr.mode=.run)(ht:fr.todo=.inRegion ops (i :: is):: k)(e1:s1 % 2=d1)(e2:s1 / 2=oT T fr)(hk:oR T fr.fn out (.inRegion ops is :: k) s1 X)(v:Value)(hv:(∀o,ops[i]?=some o->T.wr fr.fn o=true->vD T v))
 (hs:∀cs,stepG P true (G fr (cs1++cs)) w=.go (G (fr.finish v) (cs1++cs)) w' es) (hd:deafBehind d es=d1):kF P T d fr cs1 w:=by obtain⟨m1,m2⟩:=wO ht v;refine⟨fr.finish v,cs1,w',es,d1,hs,⟨out,⟨hf.finish ht v,?_⟩,by rw[m2];exact hw⟩,fun h=>⟨h.top (fun ch he=>by rw[hm]at he;cases he),hd⟩⟩;unfold gQ;rw[m1,hm];exact hr.finish ht e1 e2 hk v hv
theorem Gj(hf:rI T fr out)(hw:Wt T fr.kind out cs1)(hm:fr.mode=.run){e:PanicEntry}(he:e.recovered=false)
 (hs:∀cs,stepG P true (G fr (cs1++cs)) w=.go (G (fr.raise [e]) (cs1++cs)) w' es):kF P T d fr cs1 w:=by
 have e0:fr.raise [e]={fr with mode:=.panicking [e]}:=by unfold Frame.raise;rw[hm]
 rw[e0]at hs;refine⟨_,cs1,w',es,d,hs,⟨out,⟨⟨hf.round,hf.EF,hf.kind,hf.j8,hf.Xi⟩,?_⟩,hw⟩,fun h=>absurd rfl (h _ (List.mem_cons_self ..) [e])⟩;unfold gQ;simpa using he
theorem fP{fn:Func}{c:Code}(h1:P.funcs[f]?=some fn)(h2:(fn.name == "runtime.NumGoroutine")=false)(h3:fn.body=some c)(args:Array Value)(w:World)(es:Array Event):(callFunc f args).runT P w es=(.ok (.enter f args) w,es):=by show Sem.runT P (Sem.program fun p=>_) w es=_;simp only[Sem.runT];show Sem.runT P (match P.funcs[f]? with|none=>_|some fn=>_) w es=_;rw[h1];simp only[h2,h3,Option.isNone_some,Bool.false_eq_true,if_false];rfl
theorem MO(hT:gY P T)(hf:rI T fr out)(hr:m9 T d fr out)(hw:Wt T fr.kind out cs1)(hm:fr.mode=.run)(ht:fr.todo=.inRegion ops (i :: is):: k)(ho:ops[i]?=some o)(zY:T.wr fr.fn o=false){b:Nat}(hi:T.j8 f d=some b)(e1:s1 % 2=b)(e2:s1 / 2=oT T fr)(hk:oR T fr.fn out (.inRegion ops is :: k) s1 X)(args:Array Value)(ha:∀n∈T.vY f,vD T (args.getD n undef)):
 AG T d (Frame.enter P f args .normal) (fr :: cs1):=by
 obtain⟨fn,c,h1,h2,h3,r,h4,h5⟩:=hT.j8 f d b hi;refine⟨b,⟨⟨rfl,(fun x hx=>by simp[Frame.enter]at hx),.inl rfl,⟨d,hi⟩,.inr (.inl rfl)⟩,?_⟩,out,hf,hw,.inl ⟨rfl,hm,fun v=>?_⟩⟩
 ·show m9 T d _ b;have hd2:d<2:=by obtain⟨s,X,hs,_⟩:=hr.ok;omega
  refine⟨fun n hn=>?_,d, [],Nat.mod_eq_of_lt hd2,?_,?_⟩
  ·simp only[Frame.enter]at hn⊢;have:=ha n hn;rw[za8]at this⊢;rw[Array.getElem?_append];split
   ·exact this
   ·cases hx:(Array.replicate ((P.funcs[f]?.map (·.ntmps)).getD 0-args.size) undef)[n-args.size]? with
    |none=>exact fj
    |some y=>
     rw[Array.getElem?_replicate]at hx;split at hx
     ·cases hx;exact fj
     ·cases hx
  ·rw[Nat.div_eq_of_lt hd2];unfold oT;split<;>rfl
  ·show oR T f b [.code _] d [];rw[h1];simp only[Option.bind_some,h3,Option.getD_some];exact⟨r,h4,rfl,fun e he=>⟨h5 e he,rfl⟩⟩
 ·exact hr.finish ht e1 e2 hk v fun o' ho' hw'=>by rw[ho]at ho';cases ho';rw[zY]at hw';cases hw'
end
end
end Go.Proofs.YteoahlieielcdaaGreat
