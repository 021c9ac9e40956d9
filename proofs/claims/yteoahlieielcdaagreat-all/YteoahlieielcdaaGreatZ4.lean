import Derived.Test.YteoahlieielcdaaGreatBase
import Derived.Conc.LoneCalls
import Derived.Test.YteoahlieielcdaaGreatT1
set_option linter.all false
set_option maxHeartbeats 2000000
set_option maxRecDepth 100000
open Option renaming some->Y,none->F,getD_some->aa0,bind_some->at4,elim->bc7,map_some->bf4
open Bool renaming false->E,true->Z6,false_eq_true->aa6,not_true->ay1,and_eq_true->az7,false_and->bb8
open Go.World renaming frozen?->aj2,shape?->as7,farStore->bg5
open List renaming cons_append->av2,foldl_cons->aw3
open Go.MemOp renaming ofEvents->ac0
open Go.Region renaming wanted->ac3
open Option.some renaming injEq->ac6,inj->ah9
open Go renaming deafBehind->ad2,execOp->ad6,yielded->ai5,callFunc->ak4,runtimePanic->ar8
open Go.Conc renaming mem_ofEvents->ad4,getElem?_append_cases->ae1,Deaf_other->ao0,lone_eq_solo->ar7,touch_of->at8,step_solo_go->av6,noRace_append->aw4,runT_crowd_go->bd4,woken_quitsD->bf0
open Array renaming getElem?_eq_getElem->ad7,getElem?_setIfInBounds_self_of_lt->ad8,getElem?_modify->ak5,append_empty->am6,ext_getElem?->an1,replicate->ap6,getElem?_map->ar4,getElem?_push->au7,getElem?_append->aw7,getElem?_mapIdx->aw8,getElem?_replicate->bd3
open Go.stepG renaming apply->ad9,exec->as0
open Go.Frame renaming enter->af0,finish_at->au0,eval->ay2,raise->ay4,catches->az9,mk->bf8
open Go.Sem renaming runT->af2,run->ak0,runT_fst->an8,shape->ax4
open Go.MemAct renaming ofEvent->ag8,touch?->aw5
open Classical renaming byContradiction->ah0
open Go.Extern renaming findNext->ai6,find->al9
open Go.GStep renaming after->aj6
open Go.Extern.Sync renaming semacquire->ak1,semrelease->al3,die->as2,nothing->as5,canSpin->au8,count->ay6
open Go.Extern.Atomic renaming update->al4,casT->aq0,touchesFrozen->as6,loadT->au9,T->aw1,storeT->ax1,read->ay3
open Go.Deferred renaming ofValue->am1
open Go.Stepped.next renaming injEq->am5
open Go.Extern.Race renaming marked->am7
open Go.Extern.OsHooks renaming nano->aq9,clock->bg8
open Go.Op renaming intArith->au2,intBits->az4
open Go.Next renaming value->at6
open Go.GStep.go renaming injEq->av1
open Go.ConcN renaming upd->ay5
open Go.CallKind renaming early->ay8
open Go.Made renaming depth->az5
open Go.Question renaming cut->ba8
open Pure renaming pure->bb4
open Except renaming bind->bc8,pure->bg4
namespace Go.Proofs.YteoahlieielcdaaGreat
open Go.Proofs.Tryz
abbrev zbn:=@Nat.le_refl
abbrev zbo:=@Array.getElem?_eq_some_iff
abbrev zbp:=@Array.getElem?_setIfInBounds_ne
abbrev zbq:=@List.mem_cons_of_mem
abbrev zbr:=@Option.bind_eq_some_iff
abbrev zbs:=@Array.all_eq_true_iff_forall_mem
abbrev zbt:=@Array.foldl_toList
abbrev zbu:=@Array.getD_eq_getD_getElem?
abbrev zbv:=@Array.mem_toList_iff
abbrev zbw:=@List.append_cancel_right
abbrev zbx:=@List.contains_iff_mem
abbrev zby:=@List.mem_cons
abbrev zbz:=@List.mem_cons_self
abbrev zb0:=@Nat.eq_zero_or_pos
abbrev zb1:=@Option.map_eq_some_iff
variable{P:aB}{Q:ak->List ak->af->Prop}{ρ:aD->aj}{o:Oper}{b sy:Bool}{v x y:aj}{at_ k a:aA}{v1 w w' w1 v2:af}{l:List aA}{h:Halt}{r i n d:Nat}{es es' xO:Array aC}{c:Call}{f:ay}{m:Mark}{s:Sem Next}{is:List Nat}{fr' fr gC cl:ak}{e:Array aj->Sem aj}{fn:Func}{g g1:au}{cs c' c1:List ak}{δ:Nat->Nat}{pos:String}{t:Trace}{gs:Array au}
section
open Go
def qJ(op:BinOp)(k:IntKind)(x y:Int):NM (au2 op k x y):=by unfold au2;(repeat' (first|(with_reducible first|exact NM.pure' _|exact iI ..)|dsimp only|split|intro _))
def Km(op:BinOp)(k:IntKind)(x y:Int):NM (az4 op k x y):=by unfold az4;(repeat' (first|(with_reducible first|exact NM.pure' _|exact iI ..)|dsimp only|split|intro _))
def uU:Op->Bool
 |.move _|.assign _|.pick _ _ _|.alloc _|.box _ _|.build _ _|.buildSlice _ _ _|.load _ _|.store _ _ _|.nilCheck _|.binOp _ _ _ _ _|.unOp _ _ _|.makeInterface _ _
 |.makeFunc _ _ _|.makeMap _ _|.makeSlice _ _ _|.slice _ _ _ _ _|.fieldAddr _ _ _|.field _ _ _|.indexAddr _ _ _|.index _ _ _|.lookup _ _ _ _|.mapUpdate _ _ _ _|.range _ _|.next _ _|.entry _|.extract _ _|.panic _=>Z6
 |.convert s d _=>!(s == d)
 |_=>E
def JP:Builtin->Bool
 |.len|.append|.copy|.delete|.max|.unsafeString=>Z6
 |_=>E
inductive gR{α:Type}(Q:α->Prop):Sem α->Prop
 |pure {a:α}:Q a->gR Q (.pure a)
 |load {m:Mode} {a:aA} {k:aj->Sem α}:(∀v,gR Q (k v))->gR Q (.load m a k)
 |store {m:Mode} {a:aA} {v:aj} {k:Sem α}:gR Q k->gR Q (.store m a v k)
 |new {o:Obj} {k:Nat->Sem α}:(∀r,gR Q (k r))->gR Q (.new o k)
 |shape {r:Nat} {k:Option (az×Nat)->Sem α}:(∀s,gR Q (k s))->gR Q (.shape r k)
 |freeze {a:aA} {n:Nat} {k:Sem α}:gR Q k->gR Q (.freeze a n k)
 |frozen {a:aA} {k:Bool->Sem α}:(∀b,gR Q (k b))->gR Q (.frozen a k)
 |getObj {r:Nat} {k:Obj->Sem α}:(∀o,gR Q (k o))->gR Q (.getObj r k)
 |setObj {r:Nat} {o:Obj} {k:Sem α}:gR Q k->gR Q (.setObj r o k)
 |choose {q:Question} {k:Nat->Sem α}:(∀n,gR Q (k n))->gR Q (.choose q k)
 |sys {c:Sys} {k:SysRet->Sem α}:(∀r,gR Q (k r))->gR Q (.sys c k)
 |program {k:aB->Sem α}:(∀p,gR Q (k p))->gR Q (.program k)
 |mark {m:Mark} {k:Sem α}:gR Q k->gR Q (.mark m k)
 |halt {h:Halt}:gR Q (.halt h)
def ji{α β:Type}{Q:β->Prop}(s:Sem α){f:α->Sem β}(hf:∀a,gR Q (f a)):gR Q (s >>= f):=by
 show gR Q (s.bind f);induction s with
 |pure a=>exact hf a
 |load _ _ _ ih=>exact .load λv=>ih v
 |store _ _ _ _ ih=>exact .store ih
 |new _ _ ih=>exact .new λr=>ih r
 |shape _ _ ih=>exact .shape λr=>ih r
 |freeze _ _ _ ih=>exact .freeze ih
 |frozen _ _ ih=>exact .frozen λr=>ih r
 |getObj _ _ ih=>exact .getObj λr=>ih r
 |setObj _ _ _ ih=>exact .setObj ih
 |choose _ _ ih=>exact .choose λr=>ih r
 |sys _ _ ih=>exact .sys λr=>ih r
 |program _ ih=>exact .program λr=>ih r
 |mark _ _ ih=>exact .mark ih
 |halt _=>exact .halt
def gR.out{α:Type}{Q:α->Prop}{s:Sem α}(h:gR Q s):∀{w:af} {es:Array aC} {a:α} {w':af} {es':Array aC},s.runT P w es=(.ok a w',es')->Q a:=by
 induction h with
 |pure h=>intro w es a w' es' hr;cases hr;exact h
 |load _ ih=>intro w es a w' es' hr;simp only[af2]at hr;split at hr;exact ih _ hr;split at hr;exact ih _ hr;cases hr
 |store _ ih=>
  intro w es a w' es' hr;rename_i m b v k _;cases v<;>simp only[af2]at hr<;>first|(cases hr;done)|(split at hr<;>split at hr<;>first|(cases hr;done)|exact ih hr)
 |new _ ih=>intro w es a w' es' hr;exact ih _ hr
 |shape _ ih=>intro w es a w' es' hr;exact ih _ hr
 |freeze _ ih=>intro w es a w' es' hr;exact ih hr
 |frozen _ ih=>intro w es a w' es' hr;exact ih _ hr
 |getObj _ ih=>intro w es a w' es' hr;simp only[af2]at hr;split at hr;cases hr;exact ih _ hr;cases hr
 |setObj _ ih=>intro w es a w' es' hr;simp only[af2]at hr;split at hr;cases hr;exact ih hr;cases hr
 |choose _ ih=>intro w es a w' es' hr;simp only[af2]at hr;split at hr<;>exact ih _ hr
 |sys _ ih=>intro w es a w' es' hr;exact ih _ hr
 |program _ ih=>intro w es a w' es' hr;exact ih _ hr
 |mark _ ih=>intro w es a w' es' hr;exact ih hr
 |halt=>intro w es a w' es' hr;cases hr
def yz(n:Next):Prop:=(∃v,n=.value v)\/n=.skip
def AG(s:Sem aj):gR yz (do pure (at6 (<-s)):Sem Next):=ji s λ_=>.pure (.inl ⟨_,rfl⟩)
def N5(s:Sem Unit):gR yz (do s;pure Next.skip:Sem Next):=ji s λ_=>.pure (.inr rfl)
def AA{Q:Next->Prop}:gR Q (ar8 RuntimeError.nilDeref:Sem Next):=by unfold ar8;exact ji _ λ_=>.halt
def NP(h:uU o.op=Z6):gR yz (ad6 ρ o):=by
 unfold ad6;cases ho:o.op<;>rw[ho]at h<;>first|(cases h;done)|skip
 case nilCheck x=>
  dsimp only;repeat' (first|exact AA|exact .pure (.inl ⟨_,rfl⟩)|exact .halt|with_reducible refine ji _ (λ_=>?_)|split)
 all_goals first
  |exact .pure (.inl ⟨_,rfl⟩)
  |exact AG _|exact N5 _
  |exact ji _ λ_=>.pure (.inl ⟨_,rfl⟩)
def Eb{b:Builtin}(h:JP b=Z6)(a:Array az)(t:az)(c:Array Bool)(x:Array aj):gR yz (builtin b a t c x):=by unfold builtin;cases b<;>first|(cases h;done)|exact AG _
def fW{α β:Type}(s:Sem α)(f:α->Sem β):∀(w:af) (es:Array aC),(s >>= f).runT P w es=match s.runT P w es with|(.ok a w',es')=>(f a).runT P w' es'|(.halt h w',es')=>(.halt h w',es'):=by
 show∀(w:af) (es:Array aC),(s.bind f).runT P w es=_;induction s with
 |pure a=>intro w es;rfl
 |load m a k ih=>
  intro w es;simp only[Sem.bind,af2];cases w.cell? a with
  |some v=>exact ih _ _ _
  |none=>
   simp only;cases w.farLoad P a (m == .atomic)with
   |ok x=>exact ih _ _ _
   |error h=>rfl
 |store m a v k ih=>
  intro w es;cases v<;>simp only[Sem.bind,af2]<;>first
   |rfl
   |(cases w.cell? a with
     |some x=>
      simp only
      split
      ·rfl
      ·exact ih _ _
     |none=>
      simp only
      split
      ·exact ih _ _
      ·rfl)
 |new o k ih=>intro w es;exact ih _ _ _
 |shape r k ih=>intro w es;exact ih _ _ _
 |freeze a n k ih=>intro w es;exact ih _ _
 |frozen a k ih=>intro w es;exact ih _ _ _
 |getObj r k ih=>
  intro w es;simp only[Sem.bind,af2];split
  ·rfl
  ·exact ih _ _ _
  ·rfl
 |setObj r o k ih=>
  intro w es;simp only[Sem.bind,af2];split
  ·rfl
  ·exact ih _ _
  ·rfl
 |choose q k ih=>
  intro w es;simp only[Sem.bind,af2];split
  ·exact ih _ _ _
  ·exact ih _ _ _
 |sys c k ih=>intro w es;exact ih _ _ _
 |program k ih=>intro w es;exact ih _ _ _
 |mark m k ih=>intro w es;exact ih _ _
 |halt h=>intro w es;rfl
structure cK(Sb:Nat->Prop)(v w:af):Prop where
 size:v.heap.size=w.heap.size
 same:∀i,¬Sb i->v.heap[i]?=w.heap[i]?
 gZ:∀i,Sb i->∃c t,c.size≠0/\v.heap[i]?=Y (.pending c t)/\w.heap[i]?=Y (.cells c t (0,0))
 os:v.os=w.os
 out:v.output=w.output
def EvP(Sb:Nat->Prop)(e:aC):Prop:=∀x a,(ag8 e).touch?=Y x->x.loc=.cell a->x.kind=.plain->¬Sb a.block
def EvQ(Sb:Nat->Prop)(qt:Prop)(e:aC):Prop:=EvP Sb e/\(qt->e.loc≠.mark .disable/\e.loc≠.mark .enable)
structure aG(P:aB)(Sb:Nat->Prop)(qt:Prop){α:Type}(s:Sem α):Prop where
 zP:∀{v w:af} {x:α} {v':af},cK Sb v w->s.run P v=.ok x v'->K4 v w (v'.drawn-v.drawn)->∀es,∃w' es',s.runT P w es=(.ok x w',es')/\cK Sb v' w'/\w'.tape=w.tape/\w'.drawn=w.drawn+(v'.drawn-v.drawn)/\∀e∈es',e∈es\/EvQ Sb qt e
structure o8(P:aB){α:Type}(s:Sem α):Prop where
 no:∀(v:af) (x:α) (v':af),s.run P v≠.ok x v'
section
variable {P:aB}{Sb:Nat->Prop}{qt:Prop}{α β:Type}
def run_bind{s:Sem α}{f:α->Sem β}(w:af):(s >>= f).run P w=match s.run P w with|.ok a w'=>(f a).run P w'|.halt h w'=>.halt h w':=by
 have h:=congrArg Prod.fst (fW (P:=P) s f w #[]);rw[an8]at h;rw[h,<-an8 P s w #[]];cases hs:s.runT P w #[]with
 |mk r es=>
  cases r with
  |ok a w'=>simp only;rw[an8]
  |halt h w'=>rfl
def zQ{α:Type}:∀(k:Ask α) (v:af),(v.ask k).2.tape=v.tape/\v.drawn<=(v.ask k).2.drawn
 |.done a,v=>⟨rfl,zbn _⟩
 |.ask what range k,v=>by
  unfold World.ask;dsimp only;split
  ·exact zQ (k 0) v
  ·obtain⟨h1,h2⟩:=zQ (k ((Question.extern what range).cut (v.tape v.drawn (Question.extern what range)))) {v with drawn:=v.drawn+1};exact⟨h1,by simp only at h2;omega⟩
def Rv(c:Sys)(v:af):(v.sys c).2.tape=v.tape/\v.drawn<=(v.sys c).2.drawn:=by
 unfold World.sys;have h:=zQ (Kernel.perform c v.os) v;split
 ·exact⟨rfl,zbn _⟩
 ·rename_i h1;rw[h1]at h;exact h
def jD(v:af)(a:aA)(n:Nat):(v.freeze a n).tape=v.tape/\(v.freeze a n).drawn=v.drawn:=by unfold World.freeze;split<;>exact⟨rfl,rfl⟩
def zR{v:af}{u:az}(h:v.viewStore P at_ u k x b=.ok (v1,l)):v1.tape=v.tape/\v1.drawn=v.drawn:=by
 unfold World.viewStore at h;simp only[bind,bc8,pure,bg4]at h;repeat' (split at h)
 all_goals first|(cases h;done)|(cases h;exact⟨rfl,rfl⟩)
def nF(s:Sem α):∀{v:af} {x:α} {v':af},s.run P v=.ok x v'->v'.tape=v.tape/\v.drawn<=v'.drawn:=by
 induction s with
 |pure _=>intro v x v' hr;cases hr;exact⟨rfl,zbn _⟩
 |load _ _ _ ih=>intro v x v' hr;simp only[ak0]at hr;split at hr;exact ih _ hr;split at hr;exact ih _ hr;cases hr
 |store m a y k ih=>
  have key:∀{v:af} {x:α} {v':af} {y:aj},((match v.cell? a with
   |some _=>if v.frozen? a then .halt (.unsupported (.unsafePointer "a write to bytes that a string shares")) v else k.run P (v.setCell a y)
   |none=>match v.farStore P a y (m == .atomic)with
    |.ok (w,_)=>k.run P w
    |.error h=>.halt h v):Result α)=.ok x v'->v'.tape=v.tape/\v.drawn<=v'.drawn:=by
   intro v x v' y hr
   split at hr
   ·split at hr
    ·cases hr
    ·have:=ih hr;exact this
   ·split at hr
    ·rename_i w1 l hf
     unfold bg5 at hf
     split at hf
     ·split at hf
      ·rename_i r hv
       cases hf
       obtain⟨e1,e2⟩:=zR hv
       obtain⟨h1,h2⟩:=ih hr
       exact⟨h1.trans e1,I⟩
      ·cases hf
     ·cases hf
    ·cases hr
  intro v x v' hr;cases y<;>simp only[ak0]at hr<;>first|(cases hr;done)|exact key hr
 |new _ _ ih=>intro v x v' hr;have:=ih _ hr;exact this
 |shape _ _ ih=>intro v x v' hr;exact ih _ hr
 |freeze a n _ ih=>intro v x v' hr;have:=ih hr;rw[(jD v a n).1,(jD v a n).2]at this;exact this
 |frozen _ _ ih=>intro v x v' hr;exact ih _ hr
 |getObj _ _ ih=>intro v x v' hr;simp only[ak0]at hr;split at hr;cases hr;exact ih _ hr;cases hr
 |setObj _ _ _ ih=>intro v x v' hr;simp only[ak0]at hr;split at hr;cases hr;(have:=ih hr;exact this);cases hr
 |choose _ _ ih=>
  intro v x v' hr;simp only[ak0]at hr;split at hr
  ·exact ih _ hr
  ·obtain⟨h1,h2⟩:=ih _ hr;exact⟨h1,by simp only at h2;omega⟩
 |sys c _ ih=>
  intro v x v' hr;obtain⟨h1,h2⟩:=ih _ hr;obtain⟨h3,h4⟩:=Rv c v;exact⟨h1.trans h3,I⟩
 |program _ ih=>intro v x v' hr;exact ih _ hr
 |mark _ _ ih=>intro v x v' hr;exact ih hr
 |halt _=>intro v x v' hr;cases hr
def aG.bind{s:Sem α}{f:α->Sem β}(h:aG P Sb qt s)(hf:∀a,aG P Sb qt (f a)):aG P Sb qt (s >>= f):=by
 constructor;intro v w x v' hs hr hg es;rw[run_bind]at hr;cases h1:s.run P v with
 |halt _ _=>rw[h1]at hr;cases hr
 |ok a v1=>
  rw[h1]at hr;simp only at hr;obtain⟨t1,d1⟩:=nF s h1;obtain⟨t2,d2⟩:=nF (f a) hr;obtain⟨w1,xO,q1,q2,q3,q4,q5⟩:=h.zP hs h1 (λk hk q=>hg k I q) es;obtain⟨w2,yu,r1,r2,r3,r4,r5⟩:=(hf a).zP q2 hr (λk hk q=>by have:=hg (k+(v1.drawn-v.drawn)) I q;rw[t1,q3,q4,show v1.drawn+k=v.drawn+(k+(v1.drawn-v.drawn)) by omega,show w.drawn+(v1.drawn-v.drawn)+k=w.drawn+(k+(v1.drawn-v.drawn)) by omega];exact this) xO
  refine⟨w2,yu,by rw[fW,q1];exact r1,r2,r3.trans q3,I,λe he=>?_⟩;rcases r5 e he with h3|h3
  ·exact q5 e h3
  ·exact .inr h3
def aG.qU{s:Sem α}(h:o8 P s):aG P Sb qt s:=⟨λ_ hr _=>absurd hr (h.no _ _ _)⟩
def qV:o8 P (.halt h:Sem α):=⟨λ_ _ _ h=>by cases h⟩
def oG(s:String):o8 P (stuck s:Sem α):=qV
def uL(u:Unsupported):o8 P (unsupported u:Sem α):=qV
def lM(v:aj):o8 P (goPanic v:Sem α):=qV
def lg{s:Sem α}{f:α->Sem β}(h:∀a,o8 P (f a)):o8 P (s >>= f):=⟨λv x v' hr=>by
 rw[run_bind]at hr;split at hr
 ·exact(h _).no _ _ _ hr
 ·cases hr⟩
def lO{s:Sem α}{f:α->Sem β}(h:o8 P s):o8 P (s >>= f):=⟨λv x v' hr=>by
 rw[run_bind]at hr;split at hr
 ·rename_i h1;exact h.no _ _ _ h1
 ·cases hr⟩
def aG.pure{a:α}:aG P Sb qt (.pure a:Sem α):=⟨λhs hr _ es=>by
 cases hr;exact⟨_,es,rfl,hs,rfl,I,λe he=>.inl he⟩⟩
def aG.pure'(a:α):aG P Sb qt (bb4 a:Sem α):=aG.pure
def aG.halt{h:Halt}:aG P Sb qt (.halt h:Sem α):=.qU qV
def zS{wr:Bool}(h:¬Sb a.block):EvQ Sb qt ⟨.cell a,wr,sy⟩:=⟨λx b hx hl _=>by have e:ag8 ⟨.cell a,wr,sy⟩=.access ⟨.cell a,wr,sy⟩:=rfl;rw[e]at hx;simp only[aw5,ac6]at hx;subst hx;cases hl;exact h,λ_=>⟨XI,XI⟩⟩
def DF{wr:Bool}:EvQ Sb qt ⟨.obj r,wr,sy⟩:=⟨λx b hx hl _=>by
 cases wr<;>cases sy<;>simp[ag8,aw5]at hx<;>(subst hx;cases hl),λ_=>⟨XI,XI⟩⟩
def mC{e0:aC}(h0:EvQ Sb qt e0)(h:∀e∈es',e∈es.push e0\/EvQ Sb qt e):∀e∈es',e∈es\/EvQ Sb qt e:=λe he=>(h e he).elim (λh1=>(Array.mem_push.1 h1).elim .inl λe1=>.inr (e1▸h0)) .inr
def Rw{wr:Bool}(h0:∀a∈l,¬Sb a.block)(h:∀e∈es',e∈es++l.toArray.map (λa=>(⟨.cell a,wr,sy⟩:aC))\/EvQ Sb qt e):∀e∈es',e∈es\/EvQ Sb qt e:=λe he=>(h e he).elim (λh1=>(Array.mem_append.1 h1).elim .inl λe1=>by obtain⟨a,ha,rfl⟩:=Array.mem_map.1 e1;exact .inr (zS (h0 a (by simpa using ha)))) .inr
end
section
variable {Sb:Nat->Prop}{v w:af}
def cK.lt(h:cK Sb v w)(hi:Sb i):i<w.heap.size:=by obtain⟨c,t,_,_,h2⟩:=h.gZ i hi;exact(zbo.1 h2).1
def cK.cell(h:cK Sb v w){a:aA}{x:aj}(hc:v.cell? a=Y x):¬Sb a.block/\w.cell? a=Y x:=by
 have hn:¬Sb a.block:=λhs=>by obtain⟨c,t,_,h1,_⟩:=h.gZ a.block hs;simp[World.cell?,h1]at hc
 refine⟨hn,?_⟩;rw[<-hc];simp[World.cell?,h.same _ hn]
def cK.Wx(h:cK Sb v w)(hn:¬Sb a.block):w.cell? a=v.cell? a:=by simp[World.cell?,h.same _ hn]
def cK.modify(h:cK Sb v w)(r:Nat)(g:Obj->Obj)(hr:¬Sb r):cK Sb {v with heap:=v.heap.modify r g} {w with heap:=w.heap.modify r g}:=by
 refine⟨by simp[h.size],λi hi=>?_,λi hi=>?_,h.os,h.out⟩
 ·simp only[ak5];rw[h.same i hi]
 ·obtain⟨c,t,h0,h1,h2⟩:=h.gZ i hi;have e:r≠i:=λe=>hr (e▸hi);simp only[ak5];exact⟨c,t,h0,by simp[e,h1],by simp[e,h2]⟩
def cK.set(h:cK Sb v w)(a:aA)(x:aj)(ha:¬Sb a.block):cK Sb (v.setCell a x) (w.setCell a x):=by unfold World.setCell;exact h.modify a.block _ ha
def cK.frz(h:cK Sb v w)(a:aA)(n:Nat)(ha:¬Sb a.block):cK Sb (v.freeze a n) (w.freeze a n):=by
 unfold World.freeze;split
 ·exact h
 ·exact h.modify a.block _ ha
def cK.new(h:cK Sb v w)(o:Obj):cK Sb {v with heap:=v.heap.push o} {w with heap:=w.heap.push o}:=by
 refine⟨by simp[h.size],λi hi=>?_,λi hi=>?_,h.os,h.out⟩
 ·simp only[au7,h.size];rw[h.same i hi]
 ·have hl:=h.lt hi;obtain⟨c,t,h0,h1,h2⟩:=h.gZ i hi;refine⟨c,t,h0,?_,?_⟩
  ·simp only[au7,h.size];rw[if_neg I];exact h1
  ·simp only[au7];rw[if_neg I];exact h2
def cK.obj(h:cK Sb v w)(r:Nat)(o:Obj)(hr:¬Sb r):cK Sb {v with heap:=v.heap.setIfInBounds r o} {w with heap:=w.heap.setIfInBounds r o}:=by
 refine⟨by simp[h.size],λi hi=>?_,λi hi=>?_,h.os,h.out⟩
 ·simp only[Array.getElem?_setIfInBounds,h.size];rw[h.same i hi]
 ·have:r≠i:=λe=>hr (e▸hi);obtain⟨c,t,h0,h1,h2⟩:=h.gZ i hi;exact⟨c,t,h0,by rw[zbp this];exact h1,by rw[zbp this];exact h2⟩
def cK.draw(h:cK Sb v w)(n m:Nat):cK Sb {v with drawn:=n} {w with drawn:=m}:=⟨h.size,h.same,h.gZ,h.os,h.out⟩
end
section
variable {P:aB}{Sb:Nat->Prop}{qt:Prop}{α β:Type}
def K6{v:af}(he:v.heap[at_.block]?=w.heap[at_.block]?)(u:az)(k:aA)(b:Bool):v.seen P at_ u k b=w.seen P at_ u k b:=by unfold World.seen;rw[he]
def seen_cells{v:af}{u:az}{c:Array aj}{e:az}{f:Nat×Nat}{first:Nat}{like:aj}{cells:List (Nat×Nat×List UInt8)}(h:v.seen P at_ u k b=.ok (c,e,f,first,like,cells)):v.heap[at_.block]?=Y (.cells c e f):=by
 unfold World.seen at h;simp only[bind,bc8,pure,bg4]at h;repeat' (split at h)
 all_goals first|(cases h;done)|skip
 all_goals(first|(cases h;assumption)|skip)
def DI{v:af}(hs:cK Sb v w){u:az}(h:v.viewLoad P at_ u k b=.ok (x,l)):w.viewLoad P at_ u k b=.ok (x,l)/\∀a∈l,¬Sb a.block:=by
 have h0:=h;unfold World.viewLoad at h;cases hq:v.seen P at_ u k b with
 |error e=>rw[hq]at h;cases h
 |ok y=>
  obtain⟨c,e,f,first,like,cells⟩:=y;have hn:¬Sb at_.block:=λhb=>by obtain⟨c',t',_,h1,_⟩:=hs.gZ _ hb;rw[seen_cells hq]at h1;cases h1
  refine⟨?_,?_⟩
  ·rw[<-h0];unfold World.viewLoad;rw[K6 (hs.same _ hn)]
  ·rw[hq]at h;simp only[bind,bc8,pure,bg4]at h;split at h
   ·cases h;intro a ha;obtain⟨z,_,rfl⟩:=List.mem_map.1 ha;exact hn
   ·cases h
def Bi{v:af}(hs:cK Sb v w){u:az}(h:v.viewStore P at_ u k x b=.ok (v1,l)):(∃o,v1={v with heap:=v.heap.setIfInBounds at_.block o}/\w.viewStore P at_ u k x b=.ok ({w with heap:=w.heap.setIfInBounds at_.block o},l))/\¬Sb at_.block/\∀a∈l,¬Sb a.block:=by
 unfold World.viewStore at h⊢;by_cases ht:Go.tight P P.depth u=Z6
 ·simp only[ht,ay1,aa6,if_false,bind,bc8,pure,bg4]at h⊢;cases hq:v.seen P at_ u k b with
  |error e=>rw[hq]at h;cases h
  |ok y=>
   obtain⟨c,e,f,first,like,cells⟩:=y;have hn:¬Sb at_.block:=λhb=>by obtain⟨c',t',_,h1,_⟩:=hs.gZ _ hb;rw[seen_cells hq]at h1;cases h1
   rw[hq]at h;rw[<-K6 (hs.same _ hn),hq];simp only at h⊢;cases hb:x.bytes? with
   |none=>rw[hb]at h;cases h
   |some bytes=>
    rw[hb]at h;simp only at h⊢;split at h
    ·cases h
    ·rename_i hlen;rw[if_neg hlen];split at h
     ·cases h
     ·rename_i c2 hc2;cases h;refine⟨⟨.cells c2 e f,rfl,?_⟩,hn,λa ha=>?_⟩
      ·rfl
      ·obtain⟨z,_,rfl⟩:=List.mem_map.1 ha;exact hn
 ·simp only[ht,Bool.not_false,if_true,bind,bc8]at h;cases h
def F7{m:Mode}{k:aj->Sem α}(hk:∀x,aG P Sb qt (k x)):aG P Sb qt (.load m a k):=by
 constructor;intro v w x v' hs hr hg es;simp only[ak0]at hr;simp only[af2];cases hc:v.cell? a with
 |some y=>
  rw[hc]at hr;obtain⟨hn,hw⟩:=hs.cell hc;rw[hw];obtain⟨w',es',h1,h2,h3,h4,h5⟩:=(hk y).zP hs hr hg (es.push ⟨.cell a,E,m == .atomic⟩);exact⟨w',es',h1,h2,h3,h4,mC (zS hn) h5⟩
 |none=>
  rw[hc]at hr;simp only at hr;have hn:¬Sb a.block:=λhb=>by obtain⟨c,t,_,h1,_⟩:=hs.gZ _ hb;simp[World.farLoad,h1]at hr
  rw[hs.Wx hn,hc];simp only;unfold World.farLoad at hr⊢;rw[<-hs.same _ hn];cases ho:v.heap[a.block]? with
  |none=>simp[ho]at hr
  |some ob=>
   cases ob with
   |view at_ u=>
    simp only[ho]at hr⊢;cases hv:v.viewLoad P at_ u a (m == .atomic)with
    |error e=>rw[hv]at hr;simp at hr
    |ok y=>
     obtain⟨x1,l⟩:=y;rw[hv]at hr;simp only at hr;obtain⟨hw,hl⟩:=DI hs hv;rw[hw];simp only;obtain⟨w',es',h1,h2,h3,h4,h5⟩:=(hk x1).zP hs hr hg (es++l.toArray.map (⟨.cell ·,E,m == .atomic⟩));exact⟨w',es',h1,h2,h3,h4,Rw hl h5⟩
   |_=>simp[ho]at hr
def DJ{m:Mode}{k:Sem α}(hk:aG P Sb qt k):aG P Sb qt (.store m a y k):=by
 have key:∀{v w:af} {x:α} {v':af} {y:aj},cK Sb v w->((match v.cell? a with
  |some _=>if v.frozen? a then .halt (.unsupported (.unsafePointer "a write to bytes that a string shares")) v else k.run P (v.setCell a y)
  |none=>match v.farStore P a y (m == .atomic)with
   |.ok (w,_)=>k.run P w
   |.error h=>.halt h v):Result α)=.ok x v'->K4 v w (v'.drawn-v.drawn)->∀es,∃w' es',((match w.cell? a with
   |some _=>if w.frozen? a then(.halt (.unsupported (.unsafePointer "a write to bytes that a string shares")) w,es)else k.runT P (w.setCell a y) (es.push ⟨.cell a,Z6,m == .atomic⟩)
   |none=>match w.farStore P a y (m == .atomic)with
    |.ok (w,touched)=>k.runT P w (es++touched.toArray.map (⟨.cell ·,Z6,m == .atomic⟩))
    |.error h=>(.halt h w,es)):Result α×Array aC)=(.ok x w',es')/\cK Sb v' w'/\w'.tape=w.tape/\w'.drawn=w.drawn+(v'.drawn-v.drawn)/\∀e∈es',e∈es\/EvQ Sb qt e:=by
  intro v w x v' y hs hr hg es
  cases hc:v.cell? a with
  |some z=>
   rw[hc]at hr;simp only at hr;obtain⟨hn,hw⟩:=hs.cell hc;rw[hw];have hf:w.frozen? a=v.frozen? a:=by simp[aj2,hs.same _ hn]
   simp only[hf];split at hr
   ·cases hr
   ·rename_i hfz;rw[if_neg hfz];obtain⟨w',es',h1,h2,h3,h4,h5⟩:=hk.zP (hs.set a y hn) hr hg (es.push ⟨.cell a,Z6,m == .atomic⟩);exact⟨w',es',h1,h2,h3,h4,mC (zS hn) h5⟩
  |none=>
   rw[hc]at hr;simp only at hr;have hn:¬Sb a.block:=λhb=>by obtain⟨c,t,_,h1,_⟩:=hs.gZ _ hb;simp[bg5,h1]at hr
   rw[hs.Wx hn,hc];simp only;unfold bg5 at hr⊢;rw[<-hs.same _ hn];cases ho:v.heap[a.block]? with
   |none=>simp[ho]at hr
   |some ob=>
    cases ob with
    |view at_ u=>
     simp only[ho]at hr⊢;cases hv:v.viewStore P at_ u a y (m == .atomic)with
     |error e=>rw[hv]at hr;simp at hr
     |ok z=>
      obtain⟨v1,l⟩:=z;rw[hv]at hr;simp only at hr;obtain⟨⟨o,rfl,hw⟩,hnb,hl⟩:=Bi hs hv;rw[hw];simp only;obtain⟨w',es',h1,h2,h3,h4,h5⟩:=hk.zP (hs.obj _ o hnb) hr hg (es++l.toArray.map (⟨.cell ·,Z6,m == .atomic⟩));exact⟨w',es',h1,h2,h3,h4,Rw hl h5⟩
    |_=>simp[ho]at hr
 constructor;intro v w x v' hs hr hg es;cases y<;>simp only[ak0]at hr<;>simp only[af2]<;>first|(cases hr;done)|exact key hs hr hg es
def zW{o:Obj}{k:Nat->Sem α}(hk:∀r,¬Sb r->aG P Sb qt (k r)):aG P Sb qt (.new o k):=by
 constructor;intro v w x v' hs hr hg es;simp only[ak0]at hr;simp only[af2];have hn:¬Sb v.heap.size:=λhb=>by have:=hs.lt hb;rw[<-hs.size]at this;omega
 rw[<-hs.size];exact(hk _ hn).zP (hs.new o) hr hg es
def DK{k:Option (az×Nat)->Sem α}(hk:∀s,¬Sb r->aG P Sb qt (k s))(hp:o8 P (k F)):aG P Sb qt (.shape r k):=by
 constructor;intro v w x v' hs hr hg es;simp only[ak0]at hr;simp only[af2];have hn:¬Sb r:=λhb=>by obtain⟨c,t,_,h1,_⟩:=hs.gZ _ hb;simp only[as7,h1]at hr;exact hp.no _ _ _ hr
 have e:w.shape? r=v.shape? r:=by simp only[as7,hs.same _ hn]
 rw[e];exact(hk _ hn).zP hs hr hg es
def Bj{k:Sem α}(ha:¬Sb a.block)(hk:aG P Sb qt k):aG P Sb qt (.freeze a n k):=by constructor;intro v w x v' hs hr hg es;simp only[ak0]at hr;simp only[af2];obtain⟨w',es',h1,h2,h3,h4,h5⟩:=hk.zP (hs.frz a n ha) hr (by unfold K4 at hg⊢;rw[(jD v _ _).2,(jD w _ _).2,(jD v _ _).1,(jD w _ _).1];exact hg) es;rw[(jD w _ _).1]at h3;rw[(jD w _ _).2,(jD v _ _).2]at h4;exact⟨w',es',h1,h2,h3,h4,h5⟩
def cK.frozen{v w:af}(hs:cK Sb v w)(a:aA):w.frozen? a=v.frozen? a:=by
 by_cases hb:Sb a.block
 ·obtain⟨c,t,_,h1,h2⟩:=hs.gZ _ hb;simp[aj2,h1,h2]
 ·simp only[aj2,hs.same _ hb]
def Bl{k:Bool->Sem α}(hk:∀b,aG P Sb qt (k b)):aG P Sb qt (.frozen a k):=by constructor;intro v w x v' hs hr hg es;simp only[ak0]at hr;simp only[af2];rw[hs.frozen];exact(hk _).zP hs hr hg es
def Bm{k:Obj->Sem α}(hk:∀o,¬Sb r->aG P Sb qt (k o))(hp:∀c t,o8 P (k (.pending c t))):aG P Sb qt (.getObj r k):=by
 constructor;intro v w x v' hs hr hg es;simp only[ak0]at hr;simp only[af2];have hn:¬Sb r:=λhb=>by obtain⟨c,t,_,h1,_⟩:=hs.gZ _ hb;simp only[h1]at hr;exact(hp _ _).no _ _ _ hr
 rw[<-hs.same r hn];split at hr
 ·cases hr
 ·obtain⟨w',es',h1,h2,h3,h4,h5⟩:=(hk _ hn).zP hs hr hg _;exact⟨w',es',h1,h2,h3,h4,mC DF h5⟩
 ·cases hr
def Bn{o:Obj}{k:Sem α}(hr:¬Sb r)(hk:aG P Sb qt k):aG P Sb qt (.setObj r o k):=by
 constructor;intro v w x v' hs hrun hg es;simp only[ak0]at hrun;simp only[af2];rw[<-hs.same r hr];split at hrun
 ·cases hrun
 ·obtain⟨w',es',h1,h2,h3,h4,h5⟩:=hk.zP (hs.obj r o hr) hrun hg _;exact⟨w',es',h1,h2,h3,h4,mC DF h5⟩
 ·cases hrun
def Bo{q:Question}{k:Nat->Sem α}(hk:∀n,aG P Sb qt (k n)):aG P Sb qt (.choose q k):=by
 constructor;intro v w x v' hs hr hg es;simp only[ak0]at hr;simp only[af2];split at hr
 ·rename_i hq;rw[if_pos hq];exact(hk _).zP hs hr hg es
 ·rename_i hq;rw[if_neg hq];obtain⟨_,hd⟩:=nF _ hr;simp only at hd;have e0:w.tape w.drawn q=v.tape v.drawn q:=(hg 0 I q).symm;rw[e0];obtain⟨w',es',h1,h2,h3,h4,h5⟩:=(hk _).zP (hs.draw (v.drawn+1) (w.drawn+1)) hr (λj hj q'=>by have:=hg (j+1) (by simp only at hj;omega) q';simp only;rw[show v.drawn+1+j=v.drawn+(j+1) by omega,show w.drawn+1+j=w.drawn+(j+1) by omega];exact this) es
  exact⟨w',es',h1,h2,h3,by simp only at h4;omega,h5⟩
def zX{k:aB->Sem α}(hk:aG P Sb qt (k P)):aG P Sb qt (.program k):=by constructor;intro v w x v' hs hr hg es;exact hk.zP hs hr hg es
def F8(m:Mark)(wr sy:Bool)(h:qt->m≠.disable/\m≠.enable):EvQ Sb qt ⟨.mark m,wr,sy⟩:=⟨λx a hx _ hk=>by
 have e:ag8 ⟨.mark m,wr,sy⟩=.mark m:=by cases wr<;>cases sy<;>rfl
 rw[e]at hx;cases m<;>simp[aw5]at hx<;>(subst hx;cases hk),λhq=>by simpa using h hq⟩
def qz{k:Sem α}(hm:qt->m≠.disable/\m≠.enable)(hk:aG P Sb qt k):aG P Sb qt (.mark m k):=by constructor;intro v w x v' hs hr hg es;obtain⟨w',es',h1,h2,h3,h4,h5⟩:=hk.zP hs hr hg (es.push ⟨.mark m,E,Z6⟩);exact⟨w',es',h1,h2,h3,h4,mC (F8 _ _ _ hm) h5⟩
end
variable {P:aB}{Sb:Nat->Prop}{qt:Prop}
def dx{p:Prop}(h:p:=by(repeat' (first|with_reducible exact aG.pure' _|with_reducible exact aG.pure|with_reducible exact aG.halt|with_reducible exact K7 ..|with_reducible exact kr ..|with_reducible exact Nf ..|with_reducible exact vP ..|with_reducible exact vQ ..|with_reducible exact sS ..|with_reducible exact JF ..|with_reducible exact nG ..|with_reducible exact Y3 ..|with_reducible exact RF ..|with_reducible exact Ng|with_reducible exact Cf ..|with_reducible exact F9 ..|with_reducible exact JG ..|with_reducible exact Ga ..|with_reducible exact xP ..|with_reducible exact Nh ..|with_reducible exact oH ..|with_reducible exact Gb ..|with_reducible exact Gc ..|with_reducible exact qA ..|with_reducible exact mF ..|with_reducible exact gK ..|with_reducible exact JH ..|with_reducible exact DL ..|with_reducible exact Cg ..|with_reducible exact RG ..|with_reducible exact DN ..|with_reducible exact rU ..|with_reducible exact sU ..|with_reducible exact Gd ..|with_reducible exact Ni ..|with_reducible exact Nj ..|with_reducible exact Nk ..|with_reducible exact K8 ..|with_reducible exact iV ..|with_reducible exact zY ..|with_reducible exact JI ..|with_reducible exact uN ..|with_reducible exact vR ..|with_reducible exact Ge ..|with_reducible exact RH ..|with_reducible exact gM ..|with_reducible exact Nl ..|with_reducible exact Nm ..|with_reducible exact rV ..|with_reducible exact uO ..|with_reducible exact zZ ..|with_reducible exact Gf ..|with_reducible exact vS ..|with_reducible exact sV ..|with_reducible exact sW ..|with_reducible exact sY ..|with_reducible exact Bp ..|with_reducible exact z6 ..|with_reducible exact RI ..|with_reducible exact sZ ..|with_reducible exact JJ ..|with_reducible exact z7 ..|with_reducible exact mP ..|with_reducible exact jW ..|with_reducible exact xa ..|with_reducible exact tc ..|with_reducible exact oI ..|with_reducible exact z8 ..|with_reducible exact z9 ..|with_reducible exact td ..|with_reducible exact RJ ..|with_reducible exact uP ..|with_reducible exact xd ..|with_reducible exact rW ..|with_reducible exact JK ..|with_reducible exact vT ..|with_reducible exact xQ ..|with_reducible exact oJ ..|with_reducible exact Aa ..|with_reducible exact DO ..|with_reducible exact Ab ..|with_reducible exact tj ..|with_reducible exact vU ..|with_reducible exact mE ..|with_reducible exact zV ..|with_reducible exact Nn ..|with_reducible exact Np ..|with_reducible exact RK ..|with_reducible exact Bq ..|with_reducible exact Gg ..|with_reducible exact qB ..|with_reducible exact Y4 ..|with_reducible exact U2 ..|with_reducible exact U3 ..|with_reducible exact U4 ..|with_reducible exact U5 ..|with_reducible exact U6 ..|with_reducible exact JL ..|with_reducible exact DQ ..|with_reducible exact Gh ..|with_reducible exact DR ..|with_reducible exact Gi ..|with_reducible exact Ac ..|with_reducible exact DS ..|with_reducible exact JM ..|with_reducible exact JN ..|with_reducible exact JO ..|with_reducible exact Gj ..|with_reducible exact Br ..|with_reducible exact Bt ..|with_reducible exact xR ..|with_reducible exact rG ..|with_reducible exact Ae ..|with_reducible exact vV ..|with_reducible exact vX ..|with_reducible exact vY ..|with_reducible exact vZ ..|with_reducible exact Ch ..|with_reducible exact we ..|with_reducible exact DT ..|with_reducible exact Af ..|with_reducible exact xS ..|with_reducible exact tu ..|with_reducible exact Ag ..|with_reducible exact tA ..|with_reducible exact RL ..|with_reducible exact Bu ..|with_reducible exact Ci ..|with_reducible exact K9 ..|with_reducible exact Cj ..|with_reducible exact RN ..|with_reducible exact U7 ..|with_reducible exact RO ..|with_reducible exact oX ..|with_reducible exact ih ..|with_reducible exact Nq ZD|with_reducible exact Nr ZD|with_reducible exact wh ZD|with_reducible exact Ah ZD|with_reducible exact xe ZD|with_reducible exact nI ZD|with_reducible refine aG.bind (Ah ZD) (λ_=>?_)|with_reducible refine aG.bind (xe ZD) (λ_=>?_)|with_reducible refine Gk (λ_ _=>?_) (λ_ _=>?_)|with_reducible refine Bv (λ_ _=>?_) ?_|with_reducible exact oG _|with_reducible exact uL _|with_reducible exact lM _|with_reducible exact lO (oG _)|with_reducible exact lO (uL _)|with_reducible refine lg (λ_=>?_)|with_reducible refine oK ?_|with_reducible exact rY|with_reducible exact mG|with_reducible refine aG.bind (nI ZD) (λ_=>?_)|with_reducible refine rH (λ_ _=>?_) ?_|with_reducible refine Ai ?_|with_reducible refine Aj (λ_ _=>?_)|with_reducible refine wj (λ_=>?_)|with_reducible refine aG.bind ?_ (λ_=>?_)|with_reducible refine RP ?_|with_reducible refine U8 (λ_ _=>?_)|with_reducible refine U9 (λ_ _=>?_)|with_reducible refine Gl (λ_=>?_)|with_reducible refine Gm (λ_ _=>?_)|with_reducible refine Ak ?_ ?_|dsimp only|split|intro _))):p:=h
def K7(a:aA)(m:Mode):aG P Sb qt (load a m):=F7 λ_=>.pure
def kr(a:aA)(v:aj)(m:Mode):aG P Sb qt (store a v m):=DJ .pure
def Nf(o:Obj):aG P Sb qt (newObj o):=zW λ_ _=>.pure
def Bv{β:Type}{k:Option (az×Nat)->Sem β}(hk:∀s,¬Sb r->aG P Sb qt (k s))(hp:o8 P (k F)):aG P Sb qt (shape r >>= k):=DK hk hp
def Nr(h:¬Sb a.block):aG P Sb qt (freeze a n):=Bj h .pure
def vP(a:aA):aG P Sb qt (frozen a):=Bl λ_=>.pure
def Gk{β:Type}{k:Obj->Sem β}(hk:∀o,¬Sb r->aG P Sb qt (k o))(hp:∀c t,o8 P (k (.pending c t))):aG P Sb qt (getObj r >>= k):=Bm hk hp
def Nq{o:Obj}(h:¬Sb r):aG P Sb qt (setObj r o):=Bn h .pure
def vQ(q:Question):aG P Sb qt (choose q):=Bo λ_=>.pure
def sS:aG P Sb qt program:=zX .pure
def nG{α:Type}(s:String):aG P Sb qt (stuck s:Sem α):=.halt
def Y3{α:Type}(u:Unsupported):aG P Sb qt (unsupported u:Sem α):=.halt
def RF{α:Type}(v:aj):aG P Sb qt (goPanic v:Sem α):=.halt
def JF(n:Nat):aG P Sb qt (askRoom n):=by unfold askRoom;split;exact qz (λ_=>XI) .pure;exact .pure
def Ng:aG P Sb qt (mark .noRoom):=qz (λ_=>XI) .pure
def oK{α β:Type}{a:α}{f:α->Sem β}(h:aG P Sb qt (f a)):aG P Sb qt (bb4 a >>= f):=h
def rY{α β:Type}{s:String}{f:α->Sem β}:aG P Sb qt ((stuck s:Sem α)>>= f):=.qU (lO (oG _))
def mG{α β:Type}{u:Unsupported}{f:α->Sem β}:aG P Sb qt ((unsupported u:Sem α)>>= f):=.qU (lO (uL _))
def Ai{α:Type}{s s':Sem α}(h:o8 P s'):o8 P (if E=Z6 then s else s'):=by rw[if_neg XI];exact h
def uQ(P:aB)(a:aA)(u:az)(n:Nat)(w:af):Bool:=match w.shape? a.block with|some (e,cells)=>liesAt P P.depth e (cells / P.cellsOf e) a.off u n|none=>E
def nJ(a:aA)(u:az)(n:Nat)(w:af)(es:Array aC):(variablesAt a u n).runT P w es=(.ok (uQ P a u n w) w,es):=by
 unfold uQ;have e:(variablesAt a u n).runT P w es=(match w.shape? a.block with|some (e,cells)=>(bb4 (liesAt P P.depth e (cells / P.cellsOf e) a.off u n):Sem Bool)|none=>bb4 E).runT P w es:=rfl;rw[e];cases w.shape? a.block with
 |none=>rfl
 |some x=>rfl
def rH{β:Type}{u:az}{f:Bool->Sem β}(h:∀q,¬Sb a.block->aG P Sb qt (f q))(hp:o8 P (f E)):aG P Sb qt (variablesAt a u n >>= f):=by
 constructor;intro v w x v' hs hr hg es;rw[run_bind,<-an8 P _ v #[],nJ]at hr;simp only at hr;have hn:¬Sb a.block:=λhb=>by
  obtain⟨c,t,_,h3,_⟩:=hs.gZ _ hb;have e:uQ P a u n v=E:=by simp[uQ,as7,h3]
  rw[e]at hr;exact hp.no _ _ _ hr
 have hb:uQ P a u n w=uQ P a u n v:=by simp only[uQ,as7,hs.same _ hn]
 obtain⟨w',es',g1,g2,g3,g4,g5⟩:=(h _ hn).zP hs hr hg es;exact⟨w',es',by rw[fW,nJ,hb];exact g1,g2,g3,g4,g5⟩
def rI{β:Type}{u:az}{s:Sem β}(h:aG P Sb qt s):aG P Sb qt (variablesAt a u n >>= λ_=>s):=by constructor;intro v w x v' hs hr hg es;rw[run_bind,<-an8 P _ v #[],nJ]at hr;obtain⟨w',es',g1,g2,g3,g4,g5⟩:=h.zP hs hr hg es;exact⟨w',es',by rw[fW,nJ];exact g1,g2,g3,g4,g5⟩
def Aj{β:Type}{t:az}{c:Array aj}{f:aA->Sem β}(h:∀a,¬Sb a.block->aG P Sb qt (f a)):aG P Sb qt (newRow t c >>= f):=zW (o:=.cells c t) λr hr=>h ⟨r,0,F⟩ hr
def wj{β:Type}{a b c:Nat}{x:Option aA}{f:Bool->Sem β}(h:∀q,o8 P (f q)):aG P Sb qt (Builtin.mayShare a b c x v >>= f):=.qU (lg h)
def uR{α:Type}{s:Sem α}(h0:¬Sb r->aG P Sb qt s)(h1:Sb r->∀(v w:af) (x:α) (v':af),cK Sb v w->s.run P v=.ok x v'->v'=v/\∀es,s.runT P w es=(.ok x w,es)):aG P Sb qt s:=by
 by_cases hb:Sb r
 ·constructor;intro v w x v' hs hr hg es;obtain⟨rfl,h2⟩:=h1 hb v w x v' hs hr;exact⟨w,es,h2 es,hs,rfl,I,λe he=>.inl he⟩
 ·exact h0 hb
def Ak{α:Type}{c:Prop}[Decidable c]{s s':Sem α}(h:aG P Sb qt s)(h':aG P Sb qt s'):aG P Sb qt (if c then s else s'):=by split;exact h;exact h'
def RP{α β:Type}{s:Sem α}{f:α->β}(h:aG P Sb qt s):aG P Sb qt (f<$> s):=aG.bind (f:=λa=>bb4 (f a)) h λ_=>.pure
def Gm{α β:Type}{f:β->α->Sem β}(h:∀b a,aG P Sb qt (f b a)):∀{l:List α} {b:β},aG P Sb qt (l.foldlM f b)
 | [],b=>.pure
 |a :: l,b=>by rw[List.foldlM_cons];exact aG.bind (h _ _) λ_=>Gm h
def DU{α β:Type}{f:α->β->Sem (ForInStep β)}(h:∀a b,aG P Sb qt (f a b)):∀{l:List α} {b:β},aG P Sb qt (forIn l b f)
 | [],b=>.pure
 |a :: l,b=>by
  rw[List.forIn_cons];refine aG.bind (h _ _) λs=>?_;cases s with
  |done=>exact .pure
  |yield=>exact DU h
def U8{α β:Type}{f:α->β->Sem (ForInStep β)}(h:∀a b,aG P Sb qt (f a b)){l:Array α}{b:β}:aG P Sb qt (forIn l b f):=by rw[<-Array.forIn_toList];exact DU h
def U9{β:Type}{f:Nat->β->Sem (ForInStep β)}(h:∀a b,aG P Sb qt (f a b)){l:Std.Legacy.Range}{b:β}:aG P Sb qt (forIn l b f):=by rw[Std.Legacy.Range.forIn_eq_forIn_range'];exact DU h
def Gn{α β:Type}{f:α->Sem β}(h:∀a,aG P Sb qt (f a)):∀{l:List α},aG P Sb qt (l.mapM f)
 | []=>.pure
 |a :: l=>by rw[List.mapM_cons];exact aG.bind (h _) λ_=>aG.bind (Gn h) λ_=>.pure
def Gl{α β:Type}{f:α->Sem β}(h:∀a,aG P Sb qt (f a)){l:Array α}:aG P Sb qt (l.mapM f):=by rw[Array.mapM_eq_mapM_toList];exact RP (Gn h)
def Ah(h:¬Sb r):aG P Sb qt (shape r):=by
 constructor;intro v w x v' hs hr hg es;have e:w.shape? r=v.shape? r:=by simp only[as7,hs.same _ h]
 cases hr;exact⟨w,es,by show (Result.ok (w.shape? r) w,es)=_;rw[e],hs,rfl,I,λe he=>.inl he⟩
def xe(h:¬Sb r):aG P Sb qt (getObj r):=by
 constructor;intro v w x v' hs hr hg es;simp only[getObj,ak0]at hr;simp only[getObj,af2];rw[<-hs.same r h];split at hr
 ·cases hr
 ·cases hr;exact⟨w,_,rfl,hs,rfl,I,mC DF λe he=>.inl he⟩
 ·cases hr
def nK(hb:Sb r){v:af}(hs:cK Sb v w):∃c t,c.size≠0/\v.heap[r]?=Y (.pending c t)/\v.shape? r=F/\w.shape? r=Y (t,c.size):=by obtain⟨c,t,h0,h1,h2⟩:=hs.gZ r hb;exact⟨c,t,h0,h1,by simp[as7,h1],by simp[as7,h2]⟩
def Cf(r:Nat):aG P Sb qt (viewAt r):=by
 refine uR (r:=r) (λhn=>?_) (λhb v w x v' hs hr=>?_)
 ·unfold viewAt;exact dx
 ·obtain⟨c,t,h0,h1,h2,h3⟩:=nK hb hs;have e:(viewAt r).run P v=.ok F v:=by show ak0 P (ax4 r λs=>_) v=_;simp only[ak0,h2];show ak0 P (Sem.getObj r λo=>_) v=_;simp only[ak0,h1];rfl
  rw[e]at hr;cases hr;refine⟨rfl,λes=>?_⟩;show af2 P (ax4 r λs=>_) w es=_;simp only[af2,h3];rfl
def F9(r:Nat):aG P Sb qt (numberAt r):=by
 refine uR (r:=r) (λhn=>?_) (λhb v w x v' hs hr=>?_)
 ·unfold numberAt;exact dx
 ·obtain⟨c,t,h0,h1,h2,h3⟩:=nK hb hs;have e:(numberAt r).run P v=.ok F v:=by show ak0 P (ax4 r λs=>_) v=_;simp only[ak0,h2];show ak0 P (Sem.getObj r λo=>_) v=_;simp only[ak0,h1];rfl
  rw[e]at hr;cases hr;refine⟨rfl,λes=>?_⟩;show af2 P (ax4 r λs=>_) w es=_;simp only[af2,h3];rfl
def JG(r:Nat):aG P Sb qt (cellsIn r):=by
 refine uR (r:=r) (λhn=>?_) (λhb v w x v' hs hr=>?_)
 ·unfold cellsIn;exact dx
 ·obtain⟨c,t,h0,h1,h2,h3⟩:=nK hb hs;have e:(cellsIn r).run P v=.ok (Y c.size) v:=by show ak0 P (ax4 r λs=>_) v=_;simp only[ak0,h2];show ak0 P (Sem.getObj r λo=>_) v=_;simp only[ak0,h1];rfl
  rw[e]at hr;cases hr;refine⟨rfl,λes=>?_⟩;show af2 P (ax4 r λs=>_) w es=_;simp only[af2,h3];rfl
def wh(h:¬Sb a.block):aG P Sb qt (markStringish a):=by unfold markStringish;exact dx
def qC(hb:Sb r){v:af}(hs:cK Sb v w)(a:aA)(ha:a.block=r):v.frozen? a=E/\w.frozen? a=E:=by subst ha;obtain⟨c,t,h0,h1,h2⟩:=hs.gZ _ hb;simp[aj2,h1,h2]
def oH(a:aA):aG P Sb qt (stringish a):=by
 refine uR (r:=a.block) (λhn=>?_) (λhb v w x v' hs hr=>?_)
 ·unfold stringish;exact dx
 ·obtain⟨c,t,h0,h1,h2,h3⟩:=nK hb hs;have e:(stringish a).run P v=.ok E v:=by show ak0 P (Sem.frozen a λs=>_) v=_;simp only[ak0,(qC hb hs a rfl).1];show ak0 P (ax4 a.block λo=>_) v=_;simp only[ak0,h2];rfl
  rw[e]at hr;cases hr;refine⟨rfl,λes=>?_⟩;show af2 P (Sem.frozen a λs=>_) w es=_;simp only[af2,(qC hb hs a rfl).2];show af2 P (ax4 a.block λo=>_) w es=_;simp only[af2,h3];show af2 P (Sem.frozen _ λs=>_) w es=_;simp only[af2,(qC hb hs ⟨a.block,c.size,F⟩ rfl).2]
def La(r:Nat):aG P Sb qt (do pure ((<-shape r) matches Y (_,0)):Sem Bool):=by
 refine uR (r:=r) (λhn=>?_) (λhb v w x v' hs hr=>?_)
 ·exact dx
 ·obtain⟨c,t,h0,h1,h2,h3⟩:=nK hb hs;have e:(do pure ((<-shape r) matches Y (_,0)):Sem Bool).run P v=.ok E v:=by show ak0 P (ax4 r λs=>_) v=_;simp only[ak0,h2];rfl
  rw[e]at hr;cases hr;refine⟨rfl,λes=>?_⟩;show af2 P (ax4 r λs=>_) w es=_;simp only[af2,h3];cases hc:c.size with
  |zero=>exact absurd hc h0
  |succ n=>rfl
def Gb(a b:aA):aG P Sb qt (mayBeOne a b):=by unfold mayBeOne;dsimp only;refine aG.bind (oH a) λsa=>aG.bind (oH b) λsb=>?_;exact aG.bind (La a.block) λ_=>aG.bind (La b.block) λ_=>aG.pure' _
def nI{u:az}(h:¬Sb a.block):aG P Sb qt (variablesAt a u n):=by unfold variablesAt;exact dx
def Ga(a:aA)(b:Bool):aG P Sb qt (asNumber a b):=by unfold asNumber;exact dx
def xP(a:aA):aG P Sb qt (behindNumber a):=by unfold behindNumber;exact dx
def Nh(a:aA):aG P Sb qt (noView a):=by unfold noView;exact dx
def Gc(a b:aA):aG P Sb qt (sameAddr a b):=by unfold sameAddr;exact dx
def qA(a b:Option aA):aG P Sb qt (samePointer a b):=by unfold samePointer;exact dx
def mF(t:az):aG P Sb qt (typeInfo t):=by unfold typeInfo;exact dx
def gK(t:az):aG P Sb qt (underlying t):=by unfold underlying;exact dx
def JH(t:az):aG P Sb qt (typeStr t):=by unfold typeStr;exact dx
def DL(t:az):aG P Sb qt (zeroValue t):=by unfold zeroValue;exact dx
def Cg(t:az):aG P Sb qt (sizeOf t):=by unfold sizeOf;exact dx
def RG(t:az):aG P Sb qt (isAgg t):=by unfold isAgg;exact dx
def nM(a:aA):∀(n i:Nat) (acc:Array aj),aG P Sb qt (loadCellsFrom a i n acc)
 | 0,i,acc=>aG.pure
 |n+1,i,acc=>by unfold loadCellsFrom;exact aG.bind (K7 ..) λ_=>nM a n _ _
def DN(a:aA)(n:Nat):aG P Sb qt (loadCells a n):=nM a n 0 #[]
def rU(a:aA):∀(vs:List aj) (i:Nat),aG P Sb qt (storeCells a vs i)
 | [],i=>.pure
 |v :: vs,i=>by unfold storeCells;exact aG.bind (kr ..) λ_=>rU a vs _
def sU(t:az)(a:aA):aG P Sb qt (loadVar t a):=by unfold loadVar;exact dx
def Gd(t:az)(a:aA)(v:aj):aG P Sb qt (storeVar t a v):=by unfold storeVar;exact dx
def Ni(t:az)(c:Array aj):aG P Sb qt (newRow t c):=by unfold newRow;exact dx
def Nj(t:az)(v:aj):aG P Sb qt (newVar t v):=by unfold newVar;exact dx
def Nk(t:az):aG P Sb qt (elemOf t):=by unfold elemOf;exact dx
def K8(t:az)(cs:Array aj)(n:Nat):aG P Sb qt (part t cs n):=by unfold part;exact dx
def iV{α:Type}(e:RuntimeError):aG P Sb qt (ar8 e:Sem α):=by unfold ar8;exact dx
def zY{α:Type}(k:IntKind)(x y:Int)(c:BoundsCode):aG P Sb qt (boundsPanic k x y c:Sem α):=by unfold boundsPanic;exact dx
def JI(v:aj):aG P Sb qt (asIntOf v):=by unfold asIntOf;exact dx
def uN(v:aj):aG P Sb qt (asInt v):=by unfold asInt;exact dx
def vR(v:aj):aG P Sb qt (asBool v):=by unfold asBool;exact dx
def Ge(v:aj):aG P Sb qt (asString v):=by unfold asString;exact dx
def RH(v:aj):aG P Sb qt (asAgg v):=by unfold asAgg;exact dx
def gM(v:aj):aG P Sb qt (asAddr v):=by unfold asAddr;exact dx
def Nl(a:aA):aG P Sb qt (byteOf a):=by unfold byteOf;exact dx
def Nm(a:aA)(b c:Nat):aG P Sb qt (partAt a b c):=by unfold partAt;exact dx
def rV(a:aA)(f:Field):aG P Sb qt (fieldPlace a f):=by unfold fieldPlace;exact dx
def uO:∀(n:Nat) (a:aA) (acc:ah),aG P Sb qt (loadBytes a acc n)
 | 0,a,acc=>.pure
 |n+1,a,acc=>by have ih:=uO n;unfold loadBytes;exact dx
def zZ(t:az)(b:Bool)(v:aj):aG P Sb qt (Instr.alloc t b v):=by unfold Instr.alloc;exact dx
def Gf(v:aj):aG P Sb qt (Instr.sureAddr v):=by unfold Instr.sureAddr;exact dx
def vS(t:az)(v:aj):aG P Sb qt (Instr.loadAt t v):=by unfold Instr.loadAt;exact dx
def sV(t:az)(v x:aj):aG P Sb qt (Instr.storeAt t v x):=by unfold Instr.storeAt;exact dx
def sW(t:az)(v:aj)(n:Nat):aG P Sb qt (Instr.fieldAt t v n):=by unfold Instr.fieldAt;exact dx
def sY(t:az)(v x:aj):aG P Sb qt (Instr.indexAt t v x):=by unfold Instr.indexAt;exact dx
def Bp(x:aj)(y:Nat)(c:BoundsCode):aG P Sb qt (Instr.sliceBound x y c):=by unfold Instr.sliceBound;exact dx
def z6(b:Bool)(l c:Nat)(x y z:Option aj):aG P Sb qt (Instr.sliceBounds b l c x y z):=by unfold Instr.sliceBounds;exact dx
def RI(t:az)(v:aj)(x y z:Option aj):aG P Sb qt (Instr.slice t v x y z):=by unfold Instr.slice;exact dx
def sZ(t:az)(v:aj)(x y z:Option aj):aG P Sb qt (Instr.sliceAt t v x y z):=by unfold Instr.sliceAt;exact dx
def JJ(t:az)(v:aj):aG P Sb qt (Instr.box t v):=by unfold Instr.box;exact dx
def z7(t:az)(p:Array (Nat×aj)):aG P Sb qt (Instr.build t p):=by unfold Instr.build;exact dx
def mP(t:az)(n:Nat)(p:Array (Nat×aj)):aG P Sb qt (Instr.buildSlice t n p):=by unfold Instr.buildSlice;exact dx
def jW(t:az)(v:aj):aG P Sb qt (Instr.makeInterface t v):=by unfold Instr.makeInterface;exact dx
def xa(f:Fn)(a b:Array aj):aG P Sb qt (Instr.makeFunc f a b):=by unfold Instr.makeFunc;exact dx
def tc(t:az)(r:Option aj):aG P Sb qt (Instr.makeMap t r):=by unfold Instr.makeMap;exact dx
def oI(t:az)(l c:aj):aG P Sb qt (Instr.makeSlice t l c):=by unfold Instr.makeSlice;exact dx
def z8(t:az)(v:aj)(n:Nat):aG P Sb qt (Instr.field t v n):=by unfold Instr.field;exact dx
def z9(t:az)(v x:aj):aG P Sb qt (Instr.index t v x):=by unfold Instr.index;exact dx
end
section
open Go
variable {P:aB}{Sb:Nat->Prop}{qt:Prop}
def td:∀(d:Nat) (t:az) (x y:aj),aG P Sb qt (Op.equalIn d t x y)
 | 0,t,x,y=>aG.halt
 |d+1,t,x,y=>by have ih:=td d;unfold Op.equalIn;exact dx
def RJ(t:az)(x y:aj):aG P Sb qt (Op.equal t x y):=td _ t x y
def uP:∀(d:Nat) (t:az) (x y:aj),aG P Sb qt (Op.eqGuardIn d t x y)
 | 0,t,x,y=>aG.halt
 |d+1,t,x,y=>by have ih:=uP d;unfold Op.eqGuardIn;exact dx
def xd(b:Bool):∀(d:Nat) (t:az) (x:aj),aG P Sb qt (Instr.checkKey b d t x)
 | 0,t,x=>aG.halt
 |d+1,t,x=>by have ih:=xd b d;unfold Instr.checkKey;exact dx
def rW(t:az)(x:aj):∀(l:List MapEntry) (i:Nat),aG P Sb qt (Instr.findAsking t x l i)
 | [],i=>aG.pure
 |e :: l,i=>by have ih:=rW t x l;unfold Instr.findAsking;exact dx
def JK(t:az)(x:aj)(l:List MapEntry):aG P Sb qt (Instr.findKey t x l):=by unfold Instr.findKey;exact dx
def vT(t:az)(x y:aj)(b:Bool):aG P Sb qt (Instr.lookup t x y b):=by unfold Instr.lookup;exact dx
def xQ(x y:aj):aG P Sb qt (Instr.keyThatStays x y):=by unfold Instr.keyThatStays;exact dx
def oJ(t:az)(x y z:aj):aG P Sb qt (Instr.mapUpdate t x y z):=by unfold Instr.mapUpdate;exact dx
def Aa(t:az)(x:aj):aG P Sb qt (Instr.range t x):=by unfold Instr.range;exact dx
def DO(x:aj)(b:Bool)(t:az):aG P Sb qt (Instr.next x b t):=by unfold Instr.next;exact dx
def Ab(x:aj):aG P Sb qt (Instr.entry x):=by unfold Instr.entry;exact dx
def tj(x:aj)(n:Nat):aG P Sb qt (Instr.extract x n):=by unfold Instr.extract;exact dx
def uS{α:Type}(e:RuntimeError):o8 P (ar8 e:Sem α):=by unfold ar8;refine lg λp=>?_;cases e<;>dsimp only<;>first|exact lM _|exact lg λ_=>lg λ_=>lM _
def vU(x:aj):aG P Sb qt (Instr.panic x):=by
 refine .qU ?_;unfold Instr.panic;split
 ·exact lM _
 ·exact lg λn=>by split;exact lM _;exact uS _
 ·exact oG _
def mE(op:BinOp)(k:IntKind)(x y:Int):aG P Sb qt (au2 op k x y):=by unfold au2;exact dx
def zV(op:BinOp)(k:IntKind)(x y:Int):aG P Sb qt (az4 op k x y):=by unfold az4;exact dx
def Nn(op:BinOp)(x y:Int):aG P Sb qt (Op.intCmp op x y):=by unfold Op.intCmp;exact dx
def Np(op:BinOp)(k:IntKind)(x y:Int):aG P Sb qt (Op.intDiv op k x y):=by unfold Op.intDiv;exact dx
def RK(op:BinOp)(k:IntKind)(x:Int)(k':IntKind)(y:Int):aG P Sb qt (Op.shift op k x k' y):=by unfold Op.shift;exact dx
def Bq(op:BinOp)(k:FloatKind)(x y:Nat):aG P Sb qt (Op.floatArith op k x y):=by unfold Op.floatArith;exact dx
def Gg(op:BinOp)(k:FloatKind)(x y:Nat):aG P Sb qt (Op.floatCmp op k x y):=by unfold Op.floatCmp;exact dx
def xR(s:FloatKind)(b:Nat)(k:FloatKind):aG P Sb qt (Conv.floatToFloat s b k):=by unfold Conv.floatToFloat;exact dx
def qB(op:BinOp)(k:FloatKind)(x y:Nat):aG P Sb qt (Op.Complex.arith op k x y):=by unfold Op.Complex.arith;exact dx
def Y4(op:BinOp)(k:FloatKind)(x y:Nat):aG P Sb qt (Op.Complex.cmp op k x y):=by unfold Op.Complex.cmp;exact dx
def U2(k:FloatKind)(x:Nat)(k':FloatKind):aG P Sb qt (Op.Complex.conv k x k'):=by unfold Op.Complex.conv;exact dx
def U3(x y:Nat):aG P Sb qt (Op.Complex.add x y):=qB ..
def U4(x y:Nat):aG P Sb qt (Op.Complex.sub x y):=qB ..
def U5(x y:Nat):aG P Sb qt (Op.Complex.mul x y):=qB ..
def U6(x y:Nat):aG P Sb qt (Op.Complex.quo x y):=qB ..
def JL(a b c d:Nat):aG P Sb qt (Op.Complex.product a b c d):=by unfold Op.Complex.product;exact dx
def DQ(s a b c d:Nat):aG P Sb qt (Op.Complex.corrected s a b c d):=by unfold Op.Complex.corrected;exact dx
def Gh(a b c d:Nat):aG P Sb qt (Op.Complex.quotient a b c d):=by unfold Op.Complex.quotient;exact dx
def DR(op:BinOp)(k:FloatKind)(a b c d:Nat):aG P Sb qt (Op.complexOp op k a b c d):=by unfold Op.complexOp;exact dx
def Gi(op:BinOp)(x y:ah):aG P Sb qt (Op.stringOp op x y):=by unfold Op.stringOp;exact dx
def Ac(op:UnOp)(x:aj):aG P Sb qt (Op.unary op x):=by unfold Op.unary;exact dx
def DS(a b:aA):aG P Sb qt (Op.twoPlaces a b):=by unfold Op.twoPlaces;exact dx
def JM(k:IntKind)(a b:aA):aG P Sb qt (Op.addrSub k a b):=by unfold Op.addrSub;exact dx
def JN(op:BinOp)(a b:aA):aG P Sb qt (Op.addrCmp op a b):=by unfold Op.addrCmp;exact dx
def JO(k:IntKind)(a:aA)(n:Int):aG P Sb qt (Op.addrMod k a n):=by unfold Op.addrMod;exact dx
def Gj(k:IntKind)(n:Int):aG P Sb qt (Conv.intToInt k n):=aG.pure
def Br(k:FloatKind)(n:Int):aG P Sb qt (Conv.intToFloat k n):=aG.pure
def Bt(k:FloatKind)(b:Nat)(k':IntKind):aG P Sb qt (Conv.floatToInt k b k'):=by unfold Conv.floatToInt;exact dx
def rG(k:FloatKind)(x y:Nat)(k':FloatKind):aG P Sb qt (Conv.complexToComplex k x y k'):=by unfold Conv.complexToComplex;exact dx
def Ae(n:Int):aG P Sb qt (Conv.intToString n):=aG.pure
def vV(t:az)(s:ah):aG P Sb qt (Conv.stringToBytes t s):=by unfold Conv.stringToBytes;exact dx
def vX(x:aj):aG P Sb qt (Conv.bytesToString x):=by unfold Conv.bytesToString;exact dx
def vY(t:az)(s:ah):aG P Sb qt (Conv.stringToRunes t s):=by unfold Conv.stringToRunes;exact dx
def vZ(x:aj):aG P Sb qt (Conv.runesToString x):=by unfold Conv.runesToString;exact dx
def Ch(a:aA):aG P Sb qt (Conv.seenAt a):=by unfold Conv.seenAt;exact dx
def we(s d:az)(x:aj):aG P Sb qt (Conv.unsafePointer s d x):=by
 unfold Conv.unsafePointer;refine aG.bind (gK _) λu1=>aG.bind (gK _) λu2=>?_;split;case h_4=>
  refine aG.bind (Ch _) λa=>?_;refine aG.bind (Cg _) λn=>?_;by_cases hn:n=0
  ·subst hn;simp only[decide_true,Bool.true_or,if_true];exact rI (aG.pure' _)
  ·simp only[hn,decide_false,Bool.false_or];by_cases hb:Sb a.block
   ·constructor;intro v w x v' hs hr hg es;exfalso;obtain⟨c,t,h0,h1,h2,h3⟩:=nK hb hs;rw[run_bind,<-an8 P _ v #[],nJ]at hr;have e:∀u,uQ P a u 1 v=E:=λu=>by unfold uQ;rw[h2]
    rw[e]at hr;simp only[aa6,if_false]at hr;rw[run_bind]at hr;have e2:(shape a.block).run P v=.ok F v:=by show Result.ok (v.shape? a.block) v=_;rw[h2]
    rw[e2]at hr;exact(lO (uL _)).no _ _ _ hr
   ·exact dx
 all_goals exact dx
def DT(a:Array az)(t:az)(x:Array aj):aG P Sb qt (Builtin.unsafeAdd_ a t x):=by unfold Builtin.unsafeAdd_;rcases x with⟨_|⟨a0,_|⟨a1,_|⟨a2,l⟩⟩⟩⟩ <;>first|exact aG.halt|(cases a0<;>first|exact aG.halt|(refine aG.bind (uN _) (λn=>?_);exact dx))
def Af(t:az)(x y:aj):aG P Sb qt (movedNumber t x y):=by unfold movedNumber;exact dx
def xS(t:az)(x y:aj):aG P Sb qt (movedPointer t x y):=by unfold movedPointer;exact dx
def tu(op:BinOp)(t:az)(x y:aD)(a b:aj):aG P Sb qt (eqGuard op t x y a b):=by unfold eqGuard;exact dx
def Ag(op:BinOp)(t:az)(x y:aj):aG P Sb qt (binOp op t x y):=by unfold binOp;exact dx
def tA(s d:az)(rF:(s == d)=E)(x:aj):aG P Sb qt (convert s d x):=by unfold convert;simp only[rF];exact dx
def RL(v:aj):aG P Sb qt (Builtin.lenOf v):=by unfold Builtin.lenOf;exact dx
def Bu(a b:Nat)(v:aj):aG P Sb qt (Builtin.firstCells a b v):=by unfold Builtin.firstCells;exact dx
def Ci(a:Array az)(t:az)(x:Array aj):aG P Sb qt (Builtin.append_ a t x):=by unfold Builtin.append_;exact dx
def K9(a:Array az)(t:az)(x:Array aj):aG P Sb qt (Builtin.copy_ a t x):=by unfold Builtin.copy_;exact dx
def Cj(a:Array az)(t:az)(x:Array aj):aG P Sb qt (Builtin.delete_ a t x):=by unfold Builtin.delete_;exact dx
def RN(a:Array az)(t:az)(x:Array aj):aG P Sb qt (Builtin.len_ a t x):=by unfold Builtin.len_;exact dx
def U7(x y:aj):aG P Sb qt (Builtin.max2 x y):=by unfold Builtin.max2;exact dx
def RO(a:Array az)(t:az)(x:Array aj):aG P Sb qt (Builtin.max_ a t x):=by unfold Builtin.max_;exact dx
def oX(a:Array az)(t:az)(x:Array aj):aG P Sb qt (Builtin.unsafeString_ a t x):=by unfold Builtin.unsafeString_;rcases x with⟨_|⟨a0,_|⟨a1,_|⟨a2,l⟩⟩⟩⟩ <;>first|exact aG.halt|(cases a0<;>first|exact aG.halt|(refine aG.bind (uN _) (λn=>?_);exact dx))
def qD:∀(l:List FieldStep) (t:az) (x:Option aj),aG P Sb qt (followBlind l t x)
 | [],t,x=>aG.pure
 |s :: l,t,x=>by have ih:=qD l;unfold followBlind;exact dx
def xg:∀(n:Nat) (t:az) (v:aj) (s:String),aG P Sb qt (nilAhead n t v s)
 | 0,t,v,s=>aG.pure
 |n+1,t,v,s=>by have ih:=xg n;have ih2:=qD (P:=P) (Sb:=Sb) (qt:=qt);unfold nilAhead;repeat' (first|exact ih2 ..|(repeat' (first|(with_reducible first|exact aG.pure' _|exact aG.pure|exact nG ..|exact mF ..|exact gK ..|exact ih ..|refine aG.bind ?_ (λ_=>?_))|dsimp only|split|intro _)))
def dw{s:Sem aj}(h:aG P Sb qt s):aG P Sb qt (do pure (at6 (<-s)):Sem Next):=aG.bind h λ_=>aG.pure
def Lb{s:Sem Unit}(h:aG P Sb qt s):aG P Sb qt (do s;pure Next.skip:Sem Next):=aG.bind h λ_=>aG.pure
def uT(h:uU o.op=Z6):aG P Sb qt (ad6 ρ o):=by
 unfold ad6;cases ho:o.op<;>rw[ho]at h<;>first|(cases h;done)|skip
 case nilCheck x=>
  dsimp only;repeat' (first|exact xg ..|(repeat' (first|(with_reducible first|exact aG.pure' _|exact aG.pure|exact sS ..|exact iV ..|exact vR ..|exact zZ ..|exact vS ..|exact sV ..|exact sW ..|exact sY ..|exact sZ ..|exact JJ ..|exact z7 ..|exact mP ..|exact jW ..|exact tc ..|exact oI ..|exact z8 ..|exact z9 ..|exact vT ..|exact oJ ..|exact Aa ..|exact DO ..|exact Ab ..|exact tj ..|exact vU ..|exact Ac ..|exact tu ..|exact Ag ..|exact tA ..|exact mG|refine aG.bind ?_ (λ_=>?_)|refine Ak ?_ ?_)|dsimp only|split|intro _)))
 case convert s d x=>exact dw (tA _ _ (by simpa[uU]using h) _)
 all_goals first
  |exact aG.pure
  |exact dw (zZ ..)|exact dw (JJ ..)|exact dw (z7 ..)|exact dw (mP ..)|exact dw (vS ..)|exact Lb (sV ..)
  |exact dw (aG.bind (tu ..) λ_=>Ag ..)|exact dw (Ac ..)|exact dw (jW ..)|exact dw (xa ..)
  |exact dw (tc ..)|exact dw (oI ..)|exact dw (sZ ..)|exact dw (sW ..)|exact dw (z8 ..)|exact dw (sY ..)|exact dw (z9 ..)
  |exact dw (vT ..)|exact Lb (oJ ..)|exact dw (Aa ..)|exact dw (DO ..)|exact dw (Ab ..)|exact dw (tj ..)|exact dw (vU ..)
  |exact aG.bind (vR _) λ_=>aG.pure
def Al{b:Builtin}(h:JP b=Z6)(a:Array az)(t:az)(c:Array Bool)(x:Array aj):aG P Sb qt (builtin b a t c x):=by
 unfold builtin;cases b<;>first|(cases h;done)|skip
 all_goals first|exact dw (Ci ..)|exact dw (K9 ..)|exact dw (Cj ..)|exact dw (RN ..)|exact dw (RO ..)|exact dw (oX ..)
end
section
open Go
structure gV where
 ext:ay->Bool
 kC:ay->Nat->Option Nat
 Dt:ay
 en:ay
 wU:ay->List Nat
 cf:ay
 Co:ay
 tgt:ay->Code->Bool
 den:ay->Bool
 JQ:String->Bool
def gV.kP(T:gV)(g:ay):aD->Bool
 |.tmp n=>(T.wU g).contains n
 |.func f=>f == T.cf
 |_=>E
def gV.aia(T:gV):Fn->Bool
 |.func f=>f == T.cf
 |_=>E
def gV.fD(T:gV)(f:ay)(d:Nat):Option Nat:=
 if f=T.Dt then Y (d+1)else if f=T.en then(if d=0 then F else Y (d-1))else if T.ext f then Y d
 else T.kC f d
def gV.Zt(T:gV)(g f:ay)(args:Array aD):Bool:=(T.wU f).all λn=>match args[n]? with|some x=>T.kP g x|none=>Z6
def gV.wr(T:gV)(g:ay)(o:Oper):Bool:=match o.dst with|some n=>(T.wU g).contains n|none=>E
def gV.uh(T:gV)(g:ay)(o:Oper)(d:Nat):Option Nat:=
 match o.op with
 |.call c=>
  if T.wr g o=Z6 then F else
  match c.callee with
  |.builtin b=>if JP b then Y d else F
  |.value (.func f)=>if T.Zt g f c.args then(T.fD f (d % 2)).bind λe=>if e<2 then Y (e+2*(d / 2))else F else F
  |.invoke _ s=>if T.JQ s=Z6/\d=0 then Y 0 else F
  |.value (.tmp n)=>if (T.wU g).contains n=Z6/\d=0 then Y 0 else F
  |_=>F
 |.defer c=>
  match c.callee with
  |.value (.func f)=>
   if T.wr g o=Z6 then F else
   if T.den g=Z6 then(if f=T.en then Y (d+2)else F)
   else if f=T.Co/\T.kC g 0=Y 0/\T.kC g 1=F then Y d else F
  |_=>F
 |.go _=>Y d
 |.move x=>if T.wr g o=Z6/\T.kP g x=E then F else Y d
 |.assign x=>if T.wr g o=Z6/\T.kP g x=E then F else Y d
 |.makeFunc fn _ _=>if T.wr g o=Z6/\T.aia fn=E then F else Y d
 |op=>if uU op=Z6/\T.wr g o=E then Y d else F
def gV.Z7(T:gV)(g:ay):List Oper->Nat->Option Nat
 | [],d=>Y d
 |o :: os,d=>(T.uh g o d).bind λe=>if o.guard.isNone=Z6\/e=d then T.Z7 g os e else F
def u9:Option (Option Nat)->Nat->Bool
 |some F,_=>Z6
 |some (Y e'),e=>e' == e
 |none,_=>E
def gV.ck(T:gV)(g:ay)(out:Nat):Code->Nat->List (Nat×Nat)->Option (Option Nat)
 |.skip,d,_=>Y (Y d)
 |.region _ ops draw,d,_=>
  if ops.all (λo=>T.uh g o d == Y d)=Z6 then Y (Y d)else if draw=Z6 then F else(T.Z7 g ops.toList d).map Y
 |.seq a b,d,X=>if T.tgt g (.seq a b)=Z6 then Y F else(T.ck g out a d X).bind λr=>match r with|some e=>T.ck g out b e X|none=>Y F
 |.cond c a b,d,X=>
  match c with
  |.const (.bool Z6)=>T.ck g out a d X
  |.const (.bool E)=>T.ck g out b d X
  |_=>(T.ck g out a d X).bind λra=>(T.ck g out b d X).bind λrb=>
   match ra,rb with
   |none,r=>Y r
   |some e,F=>Y (Y e)
   |some e,Y e'=>if e=e' then Y (Y e)else F
 |.block id body,d,X=>
  if T.ck g out body d ((id,99):: X)=Y F then Y F
  else if u9 (T.ck g out body d ((id,d):: X)) d=Z6 then Y (Y d)
  else if u9 (T.ck g out body d ((id,0):: X)) 0=Z6 then Y (Y 0)
  else if u9 (T.ck g out body d ((id,1):: X)) 1=Z6 then Y (Y 1)else F
 |.loop body,d,X=>
  (T.ck g out body d X).bind λr=>match r with|none=>Y F|some e=>if e=d then Y F else F
 |.exit id,d,X=>if X.lookup id=Y d/\d<90 then Y F else F
 |.ret,d,_=>if d % 2=out+d / 2 then Y F else F
 |_,_,_=>F
section
variable (T:gV)(g:ay)(out:Nat)
def VJ(ops:Array Oper):Nat->List Nat->Nat->Prop
 |d, [],e=>e=d
 |d,i :: is,e=>match ops[i]? with
  |none=>VJ ops d is e
  |some o=>∃d1,T.uh g o d=Y d1/\(o.guard=F\/d1=d)/\VJ ops d1 is e
def Jd:List Item->(Nat->List (Nat×Nat)->Prop)×(List (Nat×Nat)->Prop)
 | []=>(λd X=>d % 2=out+d / 2/\X= [],λX=>X= [])
 |.code c :: k=>(λd X=>∃r,T.ck g out c d X=Y r/\(Jd k).2 X/\∀e,r=Y e->(Jd k).1 e X,(Jd k).2)
 |.inBlock id :: k=>(λd X=>∃X',X=(id,d):: X'/\(Jd k).1 d X'/\(Jd k).2 X',λX=>∃e X',X=(id,e):: X'/\(e<90->(Jd k).1 e X')/\(Jd k).2 X')
 |.inLoop body :: k=>(λd X=>(∃r,T.ck g out body d X=Y r/\∀e,r=Y e->e=d)/\(Jd k).2 X,(Jd k).2)
 |.inRegion ops is :: k=>(λd X=>∃e,VJ T g ops d is e/\(Jd k).1 e X/\(Jd k).2 X,(Jd k).2)
 |_ :: k=>(λ_ _=>False,(Jd k).2)
abbrev pe(k:List Item)(d:Nat)(X:List (Nat×Nat)):Prop:=(Jd T g out k).1 d X
abbrev Xs(k:List Item)(X:List (Nat×Nat)):Prop:=(Jd T g out k).2 X
end
section
variable {T:gV}{g:ay}{out d:Nat}{k k':List Item}{X:List (Nat×Nat)}
def Em{id e:Nat}(h90:e<90):∀{k:List Item} {X:List (Nat×Nat)},Xs T g out k X->X.lookup id=Y e->exitTo id k=Y k'->∃X',pe T g out k' e X'
 | [],X,h,hl,he=>by cases he
 |i :: k,X,h,hl,he=>by
  cases i with
  |inBlock id'=>
   obtain⟨e',X',rfl,h2,h3⟩:=h;simp only[exitTo]at he;by_cases hi:id'=id
   ·subst hi;simp only[beq_self_eq_true,if_true,ac6]at he;subst he;simp only[List.lookup,beq_self_eq_true,ac6]at hl;subst hl;exact⟨X',h2 h90⟩
   ·have h1:(id' == id)=E:=by simpa using hi
    have h2':(id == id')=E:=by simpa using λh=>hi h.symm
    simp only[h1,aa6,if_false]at he;simp only[List.lookup,h2']at hl;exact Em h90 h3 hl he
  |_=>exact Em h90 (k:=k) h hl he
def VK(h:pe T g out [] d X):d % 2=out+d / 2:=h.1
def VL(h:pe T g out (.code .ret :: k) d X):d % 2=out+d / 2:=by
 obtain⟨r,h1,_⟩:=h;simp only[gV.ck]at h1;split at h1
 ·assumption
 ·cases h1
def SG(h:pe T g out (.code .skip :: k) d X):pe T g out k d X:=by obtain⟨r,h1,_,h3⟩:=h;simp only[gV.ck,ac6]at h1;exact h3 d h1.symm
def GV{id:Nat}(h:pe T g out (.inBlock id :: k) d X):∃X',pe T g out k d X':=by obtain⟨X',_,h,_⟩:=h;exact⟨X',h⟩
def VM{a b:Code}(h:pe T g out (.code (.seq a b):: k) d X)(ht:T.tgt g (.seq a b)=E):pe T g out (.code a :: .code b :: k) d X:=by
 obtain⟨r,h1,h2,h3⟩:=h;simp only[gV.ck,ht,aa6,if_false]at h1;cases ha:T.ck g out a d X with
 |none=>rw[ha]at h1;cases h1
 |some ra=>
  rw[ha]at h1;refine⟨ra,ha,h2,λe he=>?_⟩;subst he;exact⟨r,h1,h2,h3⟩
def SH{c:aD}{a b:Code}{q:Bool}(h:pe T g out (.code (.cond c a b):: k) d X)(hq:∀q',c=.const (.bool q')->q=q'):pe T g out (.code (if q then a else b):: k) d X:=by
 obtain⟨r,h1,h2,h3⟩:=h;simp only[gV.ck]at h1;split at h1
 ·obtain rfl:=hq Z6 rfl;exact⟨r,h1,h2,h3⟩
 ·obtain rfl:=hq E rfl;exact⟨r,h1,h2,h3⟩
 clear hq;cases ha:T.ck g out a d X with
 |none=>rw[ha]at h1;cases h1
 |some ra=>
  rw[ha]at h1;cases hb:T.ck g out b d X with
  |none=>rw[hb]at h1;cases h1
  |some rb=>
   rw[hb]at h1;simp only[at4]at h1;cases q with
   |true=>
    refine⟨ra,ha,h2,λe he=>h3 e ?_⟩;subst he;cases rb with
    |none=>simpa using h1.symm
    |some e'=>simp only at h1;split at h1<;>cases h1;rfl
   |false=>
    refine⟨rb,hb,h2,λe he=>h3 e ?_⟩;subst he;cases ra with
    |none=>simpa using h1.symm
    |some e'=>
     simp only at h1;split at h1
     ·rename_i hh;cases h1;rw[hh]
     ·cases h1
def N6{id:Nat}{a:Code}(h:pe T g out (.code (.block id a):: k) d X):∃X',pe T g out (.code a :: .inBlock id :: k) d X':=by
 obtain⟨r,h1,h2,h3⟩:=h;simp only[gV.ck]at h1;have key:∀e,u9 (T.ck g out a d ((id,e):: X)) e=Z6->r=Y e->pe T g out (.code a :: .inBlock id :: k) d ((id,e):: X):=by
  intro e he hr;have hk:=h3 e hr;cases ha:T.ck g out a d ((id,e):: X)with
  |none=>rw[ha]at he;cases he
  |some ra=>
   refine⟨ra,ha,⟨e,X,rfl,λ_=>hk,h2⟩,λe' he'=>?_⟩;subst he';rw[ha]at he;simp only[u9,beq_iff_eq]at he;subst he;exact⟨X,rfl,hk,h2⟩
 split at h1
 ·rename_i hh;exact⟨(id,99):: X,F,hh,⟨99,X,rfl,λh=>absurd h Yo,h2⟩,λe he=>by cases he⟩
 ·split at h1
  ·rename_i hh;exact⟨_,key d hh (by cases h1;rfl)⟩
  ·split at h1
   ·rename_i hh;exact⟨_,key 0 hh (by cases h1;rfl)⟩
   ·split at h1
    ·rename_i hh;exact⟨_,key 1 hh (by cases h1;rfl)⟩
    ·cases h1
def AJ{a:Code}(h:pe T g out (.inLoop a :: k) d X):pe T g out (.code a :: .inLoop a :: k) d X:=by obtain⟨⟨r,h1,h2⟩,h3⟩:=h;refine⟨r,h1,h3,λe he=>?_⟩;obtain rfl:=h2 e he;exact⟨⟨r,h1,h2⟩,h3⟩
def SI{a:Code}(h:pe T g out (.code (.loop a):: k) d X):pe T g out (.code a :: .inLoop a :: k) d X:=by
 obtain⟨r,h1,h2,h3⟩:=h;simp only[gV.ck]at h1;refine AJ (d:=d) ⟨?_,h2⟩;cases ha:T.ck g out a d X with
 |none=>rw[ha]at h1;cases h1
 |some ra=>
  refine⟨ra,rfl,λe he=>?_⟩;subst he;rw[ha]at h1;simp only[at4]at h1;split at h1
  ·assumption
  ·cases h1
def SJ{id:Nat}(h:pe T g out (.code (.exit id):: k) d X)(he:exitTo id k=Y k'):∃X',pe T g out k' d X':=by
 obtain⟨r,h1,h2,h3⟩:=h;simp only[gV.ck]at h1;split at h1
 ·rename_i hh;exact Em hh.2 h2 hh.1 he
 ·cases h1
def ry{ops:Array Oper}(h:ops.all (λo=>T.uh g o d == Y d)=Z6):∀is,VJ T g ops d is d
 | []=>rfl
 |i :: is=>by
  unfold VJ;split
  ·exact ry h is
  ·rename_i o ho;have h1:=Array.all_eq_true.1 h;obtain⟨hl,he⟩:=zbo.1 ho;have:=h1 i hl;rw[he]at this;exact⟨d,by simpa using this,.inr rfl,ry h is⟩
def CB{ops:Array Oper}:∀(suf pre:List Oper) (d e:Nat),ops.toList=pre++suf->T.Z7 g suf d=Y e->VJ T g ops d (List.range' pre.length suf.length) e
 | [],pre,d,e,h,hc=>by simp only[gV.Z7,ac6]at hc;exact hc.symm
 |o :: suf,pre,d,e,h,hc=>by
  rw[List.length_cons,List.range'_succ];have ho:ops[pre.length]?=Y o:=by rw[<-Array.getElem?_toList,h];simp
  unfold VJ;rw[ho];simp only[gV.Z7]at hc;cases hd:T.uh g o d with
  |none=>rw[hd]at hc;cases hc
  |some d1=>
   rw[hd]at hc;simp only[at4]at hc;split at hc
   ·rename_i hg;refine⟨d1,hd,hg.imp (λh=>by simpa using h) id,?_⟩;have:=CB suf (pre++ [o]) d1 e (by rw[h];simp) hc;simpa using this
   ·cases hc
def AK{id:Nat}{ops:Array Oper}{draw:Bool}(h:pe T g out (.code (.region id ops draw):: k) d X):(draw=E->pe T g out (.inRegion ops (List.range ops.size):: k) d X)/\(draw=Z6->∀is,pe T g out (.inRegion ops is :: k) d X):=by
 obtain⟨r,h1,h2,h3⟩:=h;simp only[gV.ck]at h1;split at h1
 ·rename_i hh;have hk:=h3 d (by cases h1;rfl);exact⟨λ_=>⟨d,ry hh _,hk,h2⟩,λ_ is=>⟨d,ry hh _,hk,h2⟩⟩
 ·split at h1
  ·cases h1
  ·rename_i hd;refine⟨λ_=>?_,λh=>absurd h hd⟩;cases hc:T.Z7 g ops.toList d with
   |none=>rw[hc]at h1;cases h1
   |some e=>
    rw[hc]at h1;have:=CB ops.toList [] d e rfl hc;rw[List.length_nil,<-List.range_eq_range',Array.length_toList]at this;exact⟨e,this,h3 e (by cases h1;rfl),h2⟩
def SK{ops:Array Oper}(h:pe T g out (.inRegion ops [] :: k) d X):pe T g out k d X:=by obtain⟨e,h1,h2,_⟩:=h;obtain rfl:e=d:=h1;exact h2
def RY{ops:Array Oper}(h:pe T g out (.inRegion ops (i :: is):: k) d X)(ho:ops[i]?=Y o):∃d1,T.uh g o d=Y d1/\(o.guard=F\/d1=d)/\pe T g out (.inRegion ops is :: k) d1 X:=by obtain⟨e,h1,h2,h3⟩:=h;unfold VJ at h1;rw[ho]at h1;obtain⟨d1,h4,h5,h6⟩:=h1;exact⟨d1,h4,h5,e,h6,h2,h3⟩
def Zo{ops:Array Oper}(h:pe T g out (.inRegion ops (i :: is):: k) d X)(ho:ops[i]?=F):pe T g out (.inRegion ops is :: k) d X:=by obtain⟨e,h1,h2,h3⟩:=h;unfold VJ at h1;rw[ho]at h1;exact⟨e,h1,h2,h3⟩
end
end
section
open Go Go.Conc
def wA(T:gV)(v:aj):Prop:=∀fn a c,v=.func fn a c->fn=.func T.cf
structure sj(T:gV)(fr:ak)(out:Nat):Prop where
 round:fr.roundOf=F
 Ew:∀x∈fr.defers,∃c,x.target=.fn (.func (if T.den fr.fn=Z6 then T.en else T.Co)) c
 kind:fr.kind=.normal\/fr.kind=.deferred
 kC:∃a,T.kC fr.fn a=Y out
 Zp:T.den fr.fn=Z6\/fr.defers= []\/out=0
def py(T:gV)(fr:ak):Nat:=if T.den fr.fn=Z6 then fr.defers.length else 0
structure nN(T:gV)(d:Nat)(fr:ak)(out:Nat):Prop where
 wU:∀n∈T.wU fr.fn,wA T (fr.tmps.getD n undef)
 ok:∃s X,s % 2=d/\s / 2=py T fr/\pe T fr.fn out fr.todo s X
def iC(T:gV)(d:Nat)(fr:ak)(out:Nat):Prop:=
 match fr.mode with
 |.run=>nN T d fr out
 |.returning=>d=out+py T fr
 |.panicking ch=>∀e∈ch,e.recovered=E
def aic(T:gV)(d:Nat)(fr:ak)(out:Nat):Prop:=sj T fr out/\iC T d fr out
def Wt(T:gV):CallKind->Nat->List ak->Prop
 |kd,_, []=>kd=.normal
 |kd,e,c :: rest=>∃out',sj T c out'/\Wt T c.kind out' rest/\
  ((kd=.normal/\c.mode=.run/\∀v,nN T e (c.finish v) out')\/(kd=.deferred/\c.mode≠.run/\iC T e c out'))
def AP(T:gV)(d:Nat)(fr:ak)(cs1:List ak):Prop:=∃out,aic T d fr out/\Wt T fr.kind out cs1
def iY(fr:ak)(cs1:List ak):Prop:=∀c∈fr :: cs1,∀ch,c.mode≠.panicking ch
def kO(P:aB)(T:gV)(d:Nat)(fr:ak)(cs1:List ak)(w:af):Prop:=
 ∃fr' Zu w' es d',(∀cs,stepG P Z6 (G fr (cs1++cs)) w=.go (G fr' (Zu++cs)) w' es)/\AP T d' fr' Zu/\(iY fr' Zu->iY fr cs1/\ad2 d es=d')
def Cx(g:au):Prop:=g.status=.blocked\/g.status=.waiting\/(g.status=.running/\∃d f,g.dying=Y d/\d.calling=E/\d.fatal=Y f)
def AB(P:aB)(fr:ak)(cs1:List ak)(w:af):Prop:=
 ∀cs,(∃o w' es,stepG P Z6 (G fr (cs1++cs)) w=.ended o w' es)\/(∃g' w' es,stepG P Z6 (G fr (cs1++cs)) w=.go g' w' es/\Cx g')\/∃g' g2 w' es,stepG P Z6 (G fr (cs1++cs)) w=.spawn g' g2 w' es
def Ss(T:gV)(fr:ak):Prop:=fr.mode=.run/\∃c k,fr.todo=.code c :: k/\T.tgt fr.fn c=Z6
section
variable {P:aB}{T:gV}{d out:Nat}{fr:ak}{cs1:List ak}{w:af}
def iY.top(h:iY fr' cs1)(hm:∀ch,fr.mode≠.panicking ch):iY fr cs1:=λc hc ch he=>by
 rcases zby.1 hc with rfl|hc
 ·exact hm ch he
 ·exact h c (zbq _ hc) ch he
def sj.todo(h:sj T fr out)(t:List Item):sj T {fr with todo:=t} out:=⟨h.round,h.Ew,h.kind,h.kC,h.Zp⟩
def iT(hf:sj T fr out)(hr:nN T d fr out)(hw:Wt T fr.kind out cs1)(hm:fr.mode=.run){s:Nat}(h1:s % 2=d)(h2:s / 2=py T fr){k:List Item}{X:List (Nat×Nat)}(hk:pe T fr.fn out k s X)
 (hs:∀cs,stepG P Z6 (G fr (cs1++cs)) w=.go (G {fr with todo:=k} (cs1++cs)) w #[]):kO P T d fr cs1 w:=by refine⟨{fr with todo:=k},cs1,w,#[],d,hs,⟨out,⟨hf.todo k,?_⟩,hw⟩,λh=>⟨h.top (λch he=>by rw[hm]at he;cases he),rfl⟩⟩;unfold iC;simp only[hm];exact⟨hr.wU,s,X,h1,h2,hk⟩
def xA(hf:sj T fr out)(hw:Wt T fr.kind out cs1)(hm:fr.mode=.run)(hd:d=out+py T fr)
 (hs:∀cs,stepG P Z6 (G fr (cs1++cs)) w=.go (G {fr with mode:=.returning} (cs1++cs)) w #[]):kO P T d fr cs1 w:=by refine⟨{fr with mode:=.returning},cs1,w,#[],d,hs,⟨out,⟨⟨hf.round,hf.Ew,hf.kind,hf.kC,hf.Zp⟩,?_⟩,hw⟩,λh=>⟨h.top (λch he=>by rw[hm]at he;cases he),rfl⟩⟩;unfold iC;exact hd
def Y5(fr:ak):Prop:=∃ops i is k,fr.todo=.inRegion ops (i :: is):: k
def St(hf:sj T fr out)(hr:nN T d fr out)(hw:Wt T fr.kind out cs1)(hm:fr.mode=.run)(w:af):kO P T d fr cs1 w\/AB P fr cs1 w\/Ss T fr\/Y5 fr:=by
 obtain⟨s,X,rF,uE,hk⟩:=hr.ok;obtain⟨fn,tmps,todo,defers,mode,kind,ro⟩:=fr;obtain rfl:ro=F:=hf.round;obtain rfl:mode=.run:=hm;simp only at hk hf hr hw uE;cases todo with
 |nil=>exact .inl (xA hf hw rfl (by rw[<-rF,<-uE];exact VK hk) λcs=>rfl)
 |cons i k=>
  cases i with
  |inBlock id=>obtain⟨X',h⟩:=GV hk;exact .inl (iT hf hr hw rfl rF uE h λcs=>rfl)
  |inLoop a=>exact .inl (iT hf hr hw rfl rF uE (AJ hk) λcs=>rfl)
  |inRegion ops is=>
   cases is with
   |nil=>exact .inl (iT hf hr hw rfl rF uE (SK hk) λcs=>rfl)
   |cons j is=>exact .inr (.inr (.inr ⟨ops,j,is,k,rfl⟩))
  |code c=>
   cases c with
   |skip=>exact .inl (iT hf hr hw rfl rF uE (SG hk) λcs=>rfl)
   |ret=>exact .inl (xA hf hw rfl (by rw[<-rF,<-uE];exact VL hk) λcs=>rfl)
   |seq a b=>
    cases ht:T.tgt fn (.seq a b)with
    |true=>exact .inr (.inr (.inl ⟨rfl,_,_,rfl,ht⟩))
    |false=>exact .inl (iT hf hr hw rfl rF uE (VM hk ht) λcs=>rfl)
   |cond c a b=>
    by_cases hc:∃q,(bf8 fn tmps (.code (.cond c a b):: k) defers .run kind F).eval c=.bool q
    ·obtain⟨q,hq⟩:=hc;refine .inl (iT hf hr hw rfl rF uE (SH (q:=q) hk λq' e=>?_) λcs=>?_)
     ·subst e;simp only[ay2,Value.bool.injEq]at hq;exact hq.symm
     ·simp only[stepG,G,as0,hq]
    ·refine .inr (.inl λcs=>.inl ⟨.stuck "cond: bool expected" ((bf8 fn tmps (.code (.cond c a b):: k) defers .run kind F).pos P),w,#[],?_⟩);simp only[stepG,G,as0];split
     ·rename_i q hq;exact absurd ⟨q,hq⟩ hc
     ·rfl
   |block id a=>obtain⟨X',h⟩:=N6 hk;exact .inl (iT hf hr hw rfl rF uE h λcs=>rfl)
   |loop a=>exact .inl (iT hf hr hw rfl rF uE (SI hk) λcs=>rfl)
   |exit id=>
    cases he:exitTo id k with
    |some k'=>
     obtain⟨X',h⟩:=SJ hk he;refine .inl (iT hf hr hw rfl rF uE h λcs=>?_);simp only[stepG,G,as0,he,bc7]
    |none=>
     refine .inr (.inl λcs=>.inl ⟨.stuck "exit, goto: no such block or label" ((bf8 fn tmps (.code (.exit id):: k) defers .run kind F).pos P),w,#[],?_⟩);simp only[stepG,G,as0,he,bc7];rfl
   |region id ops draw=>
    cases draw with
    |false=>exact .inl (iT hf hr hw rfl rF uE ((AK hk).1 rfl) λcs=>rfl)
    |true=>
     have hx:(choose (.order fn id)).run P w=.ok (ba8 (.order fn id) (w.tape w.drawn (.order fn id))) {w with drawn:=w.drawn+1}:=by simp[choose,ak0,Question.forced]
     refine .inl ⟨⟨fn,tmps,.inRegion ops (Region.schedule (P.follows .mixedOrders) ops (ba8 (.order fn id) (w.tape w.drawn (.order fn id)))):: k,defers,.run,kind,F⟩,cs1,{w with drawn:=w.drawn+1},#[],d,λcs=>?_,⟨out,⟨hf.todo _,?_⟩,hw⟩,λh=>⟨h.top (λch he=>by cases he),rfl⟩⟩
     ·simp only[stepG,G,as0,hx,ay1,aa6,if_false]
     ·exact⟨hr.wU,s,X,rF,uE,(AK hk).2 rfl _⟩
   |_=>obtain⟨r,h1,_⟩:=hk;simp[gV.ck]at h1
  |_=>exact hk.elim
end
def Gu{e:aC}(h:e∈seen P f es):e∈es:=by
 unfold seen at h;dsimp only at h;rw[<-zbt]at h;have key:∀(l:List aC) (q:Bool) (kept:Array aC) (e:aC),e∈(l.foldl (fun(x:Bool×Array aC) e=>match x with
  |(q,kept)=>match e.loc with
   |.mark (.extern f)=>((P.funcs[f]?).any (·.norace),kept)
   |_=>(q,if q && !e.sync then kept else kept.push e)) (q,kept)).2->e∈kept\/e∈l:=by
  intro l
  induction l with
  |nil=>intro q kept e h;exact .inl h
  |cons x l ih=>
   intro q kept e h;simp only[aw3]at h;split at h
   ·exact(ih _ _ _ h).imp id (zbq _)
   ·rcases ih _ _ _ h with h1|h1
    ·split at h1
     ·exact .inl h1
     ·rcases Array.mem_push.1 h1 with h2|rfl
      ·exact .inl h2
      ·exact .inr (zbz ..)
    ·exact .inr (zbq _ h1)
 rcases key _ _ _ _ h with h1|h1
 ·simp at h1
 ·exact zbv.1 h1
def VN(h:∀e∈es,e.loc≠.mark .disable/\e.loc≠.mark .enable)(d:Nat):ad2 d es=d:=by
 unfold ad2;rw[<-zbt];have key:∀(l:List aC) (d:Nat),(∀e∈l,e.loc≠.mark .disable/\e.loc≠.mark .enable)->l.foldl (λd e=>match e.loc with|.mark .disable=>d+1|.mark .enable=>d-1|_=>d) d=d:=by
  intro l;induction l with
  |nil=>intro d _;rfl
  |cons x l ih=>
   intro d hl;simp only[aw3];have hx:=hl x (zbz ..);split
   ·rename_i hh;exact absurd hh hx.1
   ·rename_i hh;exact absurd hh hx.2
   ·exact ih d λe he=>hl e (zbq _ he)
 exact key _ d λe he=>h e (zbv.1 he)
def Nu(h:∀e∈es,e.loc≠.mark .disable/\e.loc≠.mark .enable)(d:Nat):ad2 d (seen P f es)=d:=VN (λe he=>h e (Gu he)) d
section
variable {P:aB}{fr:ak}{w:af}{s:Sem Next}
def ryd(w:af)(g:Nat):af:={w with heap:=match w.heap[g]? with|some (.pending c e)=>w.heap.setIfInBounds g (.cells c e)|_=>w.heap}
def Kq(hst:∀g,P.stepOf g=F)(g:Nat)(w:af):(∀cs,∃o w' es,early P fr cs F g w=.ended o w' es)\/∀cs,early P fr cs F g w=.go (G fr cs) (ryd w g) #[]:=by
 unfold early;simp only[hst];split
 ·split
  ·rename_i c e he;exact .inr λcs=>by simp[G,ryd,he]
  ·exact .inl λcs=>⟨_,_,_,rfl⟩
 ·exact .inl λcs=>⟨_,_,_,rfl⟩
def uV(s:GStep):Prop:=(∃o w' es,s=.ended o w' es)\/(∃g' w' es,s=.go g' w' es/\Cx g')\/∃g' g2 w' es,s=.spawn g' g2 w' es
def uV.after{s:GStep}(h:uV s)(es:Array aC):uV (s.after es):=by
 rcases h with⟨o,w',es',rfl⟩|⟨g',w',es',rfl,h⟩|⟨g',g2,w',es',rfl⟩
 ·exact .inl ⟨_,_,_,rfl⟩
 ·exact .inr (.inl ⟨_,_,_,rfl,h⟩)
 ·exact .inr (.inr ⟨_,_,_,_,rfl⟩)
def oM(fr:ak)(l:List ah)(m:String)(b:Bool)(w:af):uV (dieOf fr l m b w):=.inr (.inl ⟨_,_,_,rfl,.inr (.inr ⟨rfl,_,_,rfl,rfl,rfl⟩)⟩)
def Ao(fr:ak)(cs:List ak)(m:String)(w:af):uV (endFatal P fr cs F m w):=by
 unfold endFatal;simp only;split
 ·exact oM ..
 ·exact .inl ⟨_,_,_,rfl⟩
 ·exact .inl ⟨_,_,_,rfl⟩
def Am(hst:∀g,P.stepOf g=F)(hk:fr.kind=.normal\/fr.kind=.deferred)(hr:s.runT P w #[]=(.halt h w',es)):
 (∃e es',e.recovered=E/\∀cs,ad9 P Z6 fr cs F s w=.go (G (fr.raise [e]) cs) w' es')\/(∃w2,∀cs,ad9 P Z6 fr cs F s w=.go (G fr cs) w2 #[])\/∀cs,uV (ad9 P Z6 fr cs F s w):=by
 have ID:(fr.kind == ay8)=E:=by rcases hk with h|h<;>rw[h]<;>rfl
 cases h with
 |panic v=>exact .inl ⟨{v,recovered:=E},_,rfl,λcs=>by simp only[ad9,if_true,hr];rfl⟩
 |goexit=>exact .inl ⟨goexitEntry,_,rfl,λcs=>by simp only[ad9,if_true,hr];rfl⟩
 |unsupported u=>
  by_cases hu:∃g,u=.initOrder g
  ·obtain⟨g,rfl⟩:=hu;have e0:seen P fr.fn #[]=#[]:=rfl;rcases Kq (fr:=fr) hst g w' with he|he
   ·refine .inr (.inr λcs=>?_);simp only[ad9,if_true,hr,ID,aa6,if_false];obtain⟨o,w2,yu,he⟩:=he cs;rw[he];exact .inl ⟨_,_,_,rfl⟩
   ·refine .inr (.inl ⟨ryd w' g,λcs=>?_⟩);simp only[ad9,if_true,hr,ID,aa6,if_false];rw[he cs,e0];rfl
  ·refine .inr (.inr λcs=>?_);simp only[ad9,if_true,hr];cases u with
   |initOrder g=>exact absurd ⟨g,rfl⟩ hu
   |_=>exact .inl ⟨_,_,_,rfl⟩
 |fatal m=>exact .inr (.inr λcs=>(by simp only[ad9,if_true,hr];exact(Ao fr cs m w').after _))
 |throw m=>exact .inr (.inr λcs=>(by simp only[ad9,if_true,hr];exact(oM fr [] m E w').after _))
 |blocked=>exact .inr (.inr λcs=>(by simp only[ad9,if_true,hr];exact .inr (.inl ⟨_,_,_,rfl,.inl rfl⟩)))
 |waiting=>exact .inr (.inr λcs=>(by simp only[ad9,if_true,hr];exact .inr (.inl ⟨_,_,_,rfl,.inr (.inl rfl)⟩)))
 |_=>exact .inr (.inr λcs=>(by simp only[ad9,if_true,hr];exact .inl ⟨_,_,_,rfl⟩))
end
end
section
open Go
def GN{info:az->Option TypeInfo}{fs:Array Field}{i:TypeInfo}(h:Made.reckonStruct info fs=Y i):i.methods=#[]:=by unfold Made.reckonStruct at h;simp only[Option.bind_eq_bind,Option.pure_def]at h;obtain⟨st,_,h⟩:=zbr.1 h;split at h<;>(cases h;rfl)
def GQ{info:az->Option TypeInfo}{d:TypeDesc}{i:TypeInfo}(h:Made.reckon info d=Y i):i.methods=#[]:=by
 unfold Made.reckon at h;simp only[Option.bind_eq_bind,Option.pure_def]at h;split at h
 ·obtain⟨j,_,h⟩:=zbr.1 h;split at h
  ·cases h
  ·split at h
   ·cases h
   ·obtain⟨s,_,h⟩:=zbr.1 h;cases h;rfl
  ·obtain⟨s,_,h⟩:=zbr.1 h;cases h;rfl
 ·obtain⟨s,_,h⟩:=zbr.1 h;obtain⟨s,_,h⟩:=zbr.1 h;cases h;rfl
 ·obtain⟨s,_,h⟩:=zbr.1 h;obtain⟨s,_,h⟩:=zbr.1 h;obtain⟨s,_,h⟩:=zbr.1 h;obtain⟨s,_,h⟩:=zbr.1 h;cases h;rfl
 ·obtain⟨s,_,h⟩:=zbr.1 h;obtain⟨s,_,h⟩:=zbr.1 h;cases h;rfl
 ·obtain⟨s,_,h⟩:=zbr.1 h;cases h;rfl
 ·obtain⟨s,_,h⟩:=zbr.1 h;obtain⟨s,_,h⟩:=zbr.1 h;cases h;rfl
 ·exact GN h
 ·cases h
def Ek{t:az}{i:TypeInfo}(h:P.info? t=Y i):P.types[t]?=Y i\/i.methods=#[]:=by
 unfold Tables.info? at h;split at h
 ·exact .inl h
 ·right;have key:∀n,Made.infoAt P.toTables n t=Y i->i.methods=#[]:=by
   intro n hn;cases n with
   |zero=>cases hn
   |succ n=>
    unfold Made.infoAt at hn;split at hn
    ·contradiction
    ·obtain⟨d,_,hn⟩:=zbr.1 hn;exact GQ hn
  exact key _ h
def SD(P:aB)(s:String)(f:ay):Prop:=∃(t:az) (i:TypeInfo) (m:Method) (b:Bool),P.types[t]?=Y i/\m∈i.methods/\m.name=s/\m.func=Y (f,b)
def oN{P:aB}{s:String}:∀(n:Nat) {t:az} {v:aj} {w:af} {es:Array aC} {f:ay} {x:aj} {w':af} {es':Array aC},(method n t v s).runT P w es=(.ok (f,x) w',es')->SD P s f
 | 0,t,v,w,es,f,x,w',es',h=>by cases h
 |n+1,t,v,w,es,f,x,w',es',h=>by
  unfold method at h;have UK:(typeInfo t).runT P w es=(match P.info? t with|some i=>(.ok i w,es)|none=>(.halt (.stuck "no such type") w,es)):=by show (match P.info? t with|some i=>(pure i:Sem TypeInfo)|none=>stuck "no such type").runT P w es=_;cases P.info? t<;>rfl
  rw[fW,UK]at h;cases hi:P.info? t with
  |none=>rw[hi]at h;cases h
  |some i=>
   rw[hi]at h;simp only at h;cases hm:i.methods.find? (·.name == s)with
   |none=>rw[hm]at h;cases h
   |some m=>
    rw[hm]at h;simp only at h;rw[fW]at h;have hmem:=Array.mem_of_find?_eq_some hm;have hname:m.name=s:=by simpa using Array.find?_some hm
    have hty:P.types[t]?=Y i:=by
     rcases Ek hi with h1|h1
     ·exact h1
     ·rw[h1]at hmem;simp at hmem
    obtain⟨r,xO,hr⟩:∃r xO,(follow m.path.toList t (.val v)).runT P w es=(r,xO):=⟨_,_,rfl⟩
    rw[hr]at h;cases r with
    |halt hh w1=>cases h
    |ok xx w1=>
     obtain⟨xt,pl⟩:=xx;simp only at h;cases hf:m.func with
     |none=>
      rw[hf]at h;simp only at h;rw[fW]at h;obtain⟨r3,Va,hr3⟩:∃r e,(pl.get xt).runT P w1 xO=(r,e):=⟨_,_,rfl⟩
      rw[hr3]at h;cases r3 with
      |halt hh w3=>cases h
      |ok y w3=>
       simp only at h;cases y with
       |iface t' v'=>exact oN n h
       |nilIface=>
        have:=(ji (Q:=λ_=>False) program (f:=λp=>(goPanic (.iface p.rt.errorString (strVal "invalid memory address or nil pointer dereference")):Sem (ay×aj))) λ_=>.halt).out h;exact this.elim
       |_=>cases h
     |some fb=>
      obtain⟨g,b⟩:=fb;rw[hf]at h;simp only at h;rw[fW]at h;obtain⟨r3,Va,hr3⟩:∃r e,(receiverAt xt pl b (if m.path.isEmpty=Z6 then Y ((s.splitOn ".").getLastD s)else F)).runT P w1 xO=(r,e):=⟨_,_,rfl⟩
      rw[hr3]at h;cases r3 with
      |halt hh w3=>cases h
      |ok y w3=>
       cases h;exact⟨t,i,m,b,hty,hmem,hname,hf⟩
end
section
open Go Go.Conc
variable {P:aB}{Sb:Nat->Prop}{qt:Prop}
def JV(t:az)(x:Place):aG P Sb qt (x.get t):=by unfold Place.get;exact dx
def Cr:∀(l:List FieldStep) (t:az) (x:Place),aG P Sb qt (follow l t x)
 | [],t,x=>aG.pure
 |s :: l,t,x=>by have ih:=Cr l;unfold follow;repeat' (first|exact JV ..|(repeat' (first|(with_reducible first|exact aG.pure|exact nG ..|exact gK ..|exact K8 ..|exact gM ..|exact rV ..|exact ih ..|refine aG.bind ?_ (λ_=>?_)|refine Ak ?_ ?_)|dsimp only|split|intro _)))
def Vb(a:Array az)(t:az)(p:aj)(x y:ah):aG P Sb qt (Builtin.ssaWrapNilChk_ a t #[p,.string x,.string y]):=by
 cases p with
 |pointer o=>
  cases o with
  |some ad=>exact aG.pure
  |none=>
   refine aG.bind (vQ _) λn=>?_;exact dx
 |_=>exact aG.halt
def Bx(t:az)(x:Place)(b:Bool)(s:Option String):aG P Sb qt (receiverAt t x b s):=by unfold receiverAt;repeat' (first|exact JV ..|exact Vb ..|(repeat' (first|(with_reducible first|exact aG.pure' _|exact nG ..|exact gK ..|exact sU ..|exact gM ..|refine oK ?_|refine aG.bind ?_ (λ_=>?_))|dsimp only|split|intro _)))
def wu:∀(n:Nat) (t:az) (v:aj) (s:String),aG P Sb qt (method n t v s)
 | 0,t,v,s=>aG.halt
 |n+1,t,v,s=>by have ih:=wu n;unfold method;repeat' (first|exact Cr ..|exact Bx ..|exact JV ..|(repeat' (first|(with_reducible first|exact aG.pure' _|exact aG.halt|exact nG ..|exact mF ..|exact iV ..|exact ih ..|refine aG.bind ?_ (λ_=>?_))|dsimp only|split|intro _)))
def Aq(fn:Func)(tmps:Array aj):aG P Sb qt (results fn tmps):=by
 unfold results;refine aG.bind (Gl λr=>?_) λ_=>aG.pure;cases r with
 |tmp t=>exact aG.pure
 |cell a t=>exact aG.bind (gM _) λ_=>sU ..
def qX{α:Type}{s:Sem α}{x:α}(h:aG P (λ_=>False) True s)(hr:s.runT P w #[]=(.ok x w',es))(d:Nat):ad2 d (seen P f es)=d:=by
 refine Nu (λe he=>?_) d;obtain⟨w1,xO,h1,-,-,-,h5⟩:=h.zP (v:=w) (w:=w) ⟨rfl,λ_ _=>rfl,λ_ h=>h.elim,rfl,rfl⟩ (by rw[<-an8 P s w #[],hr]) (λ_ _ _=>rfl) #[];rw[hr]at h1;cases h1;rcases h5 e he with h6|h6
 ·simp at h6
 ·exact h6.2 trivial
end
section
open Go Go.Conc
structure iG(P:aB)(T:gV):Prop where
 pS:∀g,P.stepOf g=F
 two:∀f a b,T.kC f a=Y b->a<2
 kC:∀f a b,T.kC f a=Y b->∃fn c,P.funcs[f]?=Y fn/\(fn.name == "runtime.NumGoroutine")=E/\fn.body=Y c/\∃r,T.ck f b c a []=Y r/\∀e,r=Y e->e % 2=b+e / 2
 Co:T.kC T.Co 0=Y 0/\T.wU T.Co= []
 cf:T.kC T.cf 0=Y 0/\T.wU T.cf= []
 ext:∀f,T.ext f=Z6->∀args w n w' es,(ak4 f args).runT P w #[]=(.ok n w',es)->(∃v,n=.value v)/\∀g d,ad2 d (seen P g es)=d
 Dt:∀args w n w' es,(ak4 T.Dt args).runT P w #[]=(.ok n w',es)->(∃v,n=.value v)/\∀g d,ad2 d (seen P g es)=d+1
 en:∀args w,∃v es,(ak4 T.en args).runT P w #[]=(.ok (.value v) w,es)/\∀g d,ad2 d (seen P g es)=d-1
 JQ:∀s f,T.JQ s=Z6->SD P s f->T.kC f 0=Y 0/\T.wU f= []
section
variable {P:aB}{T:gV}{d d1 s1 out:Nat}{fr:ak}{cs1:List ak}{w:af}{ops:Array Oper}{i:Nat}{is:List Nat}{k:List Item}{o:Oper}{X:List (Nat×Nat)}
def qZ(ht:fr.todo=.inRegion ops (i :: is):: k)(v:aj):fr.finish v={fr with tmps:=(match (ops[i]?).bind (·.dst)with|some t=>fr.tmps.setIfInBounds t v|none=>fr.tmps),todo:=.inRegion ops is :: k}:=by unfold Frame.finish;rw[ht];rfl
def sj.finish(h:sj T fr out)(ht:fr.todo=.inRegion ops (i :: is):: k)(v:aj):sj T (fr.finish v) out:=by rw[qZ ht];exact⟨h.round,h.Ew,h.kind,h.kC,h.Zp⟩
def fL:wA T undef:=λfn a c h=>by cases h
def AD(h:∀n∈T.wU fr.fn,wA T (fr.tmps.getD n undef))(v:aj)(hv:(∀o,ops[i]?=Y o->T.wr fr.fn o=Z6->wA T v))(n:Nat)(hn:n∈T.wU fr.fn):wA T (Array.getD (match (ops[i]?).bind (·.dst)with|some t=>fr.tmps.setIfInBounds t v|none=>fr.tmps) n undef):=by
 cases ho:ops[i]? with
 |none=>simp only[Option.bind_none];exact h n hn
 |some o=>
  simp only[at4];cases hd:o.dst with
  |none=>simp only;exact h n hn
  |some t=>
   simp only;by_cases e:t=n
   ·subst e;have hw:T.wr fr.fn o=Z6:=by unfold gV.wr;rw[hd];simpa using hn
    by_cases hl:t<fr.tmps.size
    ·rw[zbu,ad8 hl];exact hv o ho hw
    ·rw[zbu,Array.getElem?_eq_none (by simpa using Nat.le_of_not_lt hl)];exact fL
   ·have:=h n hn;rw[zbu,zbp e,<-zbu];exact this
def nN.finish(h:nN T d fr out)(ht:fr.todo=.inRegion ops (i :: is):: k)(e1:s1 % 2=d1)(e2:s1 / 2=py T fr)(hk:pe T fr.fn out (.inRegion ops is :: k) s1 X)(v:aj)(hv:(∀o,ops[i]?=Y o->T.wr fr.fn o=Z6->wA T v)):nN T d1 (fr.finish v) out:=by rw[qZ ht];exact⟨AD h.wU v hv,s1,X,e1,e2,hk⟩
def xy(ht:fr.todo=.inRegion ops (i :: is):: k)(v:aj):(fr.finish v).mode=fr.mode/\(fr.finish v).kind=fr.kind:=by rw[qZ ht];exact⟨rfl,rfl⟩
def kX(hf:sj T fr out)(hr:nN T d fr out)(hw:Wt T fr.kind out cs1)(hm:fr.mode=.run)(ht:fr.todo=.inRegion ops (i :: is):: k)(e1:s1 % 2=d1)(e2:s1 / 2=py T fr)(hk:pe T fr.fn out (.inRegion ops is :: k) s1 X)(v:aj)(hv:(∀o,ops[i]?=Y o->T.wr fr.fn o=Z6->wA T v))
 (hs:∀cs,stepG P Z6 (G fr (cs1++cs)) w=.go (G (fr.finish v) (cs1++cs)) w' es) (hd:ad2 d es=d1):kO P T d fr cs1 w:=by obtain⟨m1,m2⟩:=xy ht v;refine⟨fr.finish v,cs1,w',es,d1,hs,⟨out,⟨hf.finish ht v,?_⟩,by rw[m2];exact hw⟩,λh=>⟨h.top (λch he=>by rw[hm]at he;cases he),hd⟩⟩;unfold iC;rw[m1,hm];exact hr.finish ht e1 e2 hk v hv
def GI(hf:sj T fr out)(hw:Wt T fr.kind out cs1)(hm:fr.mode=.run){e:PanicEntry}(he:e.recovered=E)
 (hs:∀cs,stepG P Z6 (G fr (cs1++cs)) w=.go (G (fr.raise [e]) (cs1++cs)) w' es):kO P T d fr cs1 w:=by
 have e0:fr.raise [e]={fr with mode:=.panicking [e]}:=by unfold ay4;rw[hm]
 rw[e0]at hs;refine⟨_,cs1,w',es,d,hs,⟨out,⟨⟨hf.round,hf.Ew,hf.kind,hf.kC,hf.Zp⟩,?_⟩,hw⟩,λh=>absurd rfl (h _ (zbz ..) [e])⟩;unfold iC;simpa using he
def fT{c:Code}(h1:P.funcs[f]?=Y fn)(h2:(fn.name == "runtime.NumGoroutine")=E)(h3:fn.body=Y c)(args:Array aj)(w:af)(es:Array aC):(ak4 f args).runT P w es=(.ok (.enter f args) w,es):=by show af2 P (Sem.program λp=>_) w es=_;simp only[af2];show af2 P (match P.funcs[f]? with|none=>_|some fn=>_) w es=_;rw[h1];simp only[h2,h3,Option.isNone_some,aa6,if_false];rfl
def NQ(hT:iG P T)(hf:sj T fr out)(hr:nN T d fr out)(hw:Wt T fr.kind out cs1)(hm:fr.mode=.run)(ht:fr.todo=.inRegion ops (i :: is):: k)(ho:ops[i]?=Y o)(yp:T.wr fr.fn o=E){b:Nat}(hi:T.kC f d=Y b)(e1:s1 % 2=b)(e2:s1 / 2=py T fr)(hk:pe T fr.fn out (.inRegion ops is :: k) s1 X)(args:Array aj)(ha:∀n∈T.wU f,wA T (args.getD n undef)):
 AP T d (af0 P f args .normal) (fr :: cs1):=by
 obtain⟨fn,c,h1,h2,h3,r,h4,h5⟩:=hT.kC f d b hi;refine⟨b,⟨⟨rfl,(λx hx=>by simp[af0]at hx),.inl rfl,⟨d,hi⟩,.inr (.inl rfl)⟩,?_⟩,out,hf,hw,.inl ⟨rfl,hm,λv=>?_⟩⟩
 ·show nN T d _ b;have hd2:d<2:=by obtain⟨s,X,hs,_⟩:=hr.ok;omega
  refine⟨λn hn=>?_,d, [],Nat.mod_eq_of_lt hd2,?_,?_⟩
  ·simp only[af0]at hn⊢;have:=ha n hn;rw[zbu]at this⊢;rw[aw7];split
   ·exact this
   ·cases hx:(ap6 ((P.funcs[f]?.map (·.ntmps)).getD 0-args.size) undef)[n-args.size]? with
    |none=>exact fL
    |some y=>
     rw[bd3]at hx;split at hx
     ·cases hx;exact fL
     ·cases hx
  ·rw[Nat.div_eq_of_lt hd2];unfold py;split<;>rfl
  ·show pe T f b [.code _] d [];rw[h1];simp only[at4,h3,aa0];exact⟨r,h4,rfl,λe he=>⟨h5 e he,rfl⟩⟩
 ·exact hr.finish ht e1 e2 hk v λo' ho' hw'=>by rw[ho]at ho';cases ho';rw[yp]at hw';cases hw'
end
section
variable {P:aB}{T:gV}{d d1 out:Nat}{fr:ak}{cs1:List ak}{w:af}{ops:Array Oper}{i:Nat}{is:List Nat}{k:List Item}{o:Oper}{X:List (Nat×Nat)}
def Cn(hf:sj T fr out)(hm:fr.mode=.run)(ht:fr.todo=.inRegion ops (i :: is):: k)(ho:ops[i]?=Y o)(Ld:ac3 o (ai5 ops fr.tmps)=Z6)(cs:List ak):stepG P Z6 (G fr cs) w=ad9 P Z6 fr cs F (ad6 fr.eval o) w:=by obtain⟨fn,tmps,todo,defers,mode,kind,ro⟩:=fr;obtain rfl:ro=F:=hf.round;obtain rfl:mode=.run:=hm;obtain rfl:todo=.inRegion ops (i :: is):: k:=ht;simp only[stepG,G,as0,ho,bf4,aa0];simp only at Ld;rw[Ld];simp only[if_true,stepG.oper,Frame.oper?,ho]
def j5(hf:sj T fr out)(hm:fr.mode=.run)(ht:fr.todo=.inRegion ops (i :: is):: k)(Ld:((ops[i]?).map (ac3 · (ai5 ops fr.tmps))).getD E=E)(cs:List ak):stepG P Z6 (G fr cs) w=.go (G (fr.finish undef) cs) w #[]:=by
 obtain⟨fn,tmps,todo,defers,mode,kind,ro⟩:=fr;obtain rfl:ro=F:=hf.round;obtain rfl:mode=.run:=hm;obtain rfl:todo=.inRegion ops (i :: is):: k:=ht;have h:¬(((ops[i]?).map (ac3 · (ai5 ops tmps))).getD E=Z6):=by simp only at Ld;rw[Ld];simp
 exact if_neg h
def VD(hf:sj T fr out):(fr.kind == ay8)=E:=by rcases hf.kind with h|h<;>rw[h]<;>rfl
def uZ(hf:sj T fr out)(ht:fr.todo=.inRegion ops (i :: is):: k)(cs:List ak):
 (∀v,s.runT P w #[]=(.ok (.value v) w',es)->ad9 P Z6 fr cs F s w=.go (G (fr.finish v) cs) w' (seen P fr.fn es))/\
 (s.runT P w #[]=(.ok .skip w',es)->ad9 P Z6 fr cs F s w=.go (G (fr.finish undef) cs) w' (seen P fr.fn es))/\
 (∀x,s.runT P w #[]=(.ok (.defer x) w',es)->ad9 P Z6 fr cs F s w=.go (G ({fr with defers:=x :: fr.defers}.finish undef) cs) w' (seen P fr.fn es))/\
 (∀f args,s.runT P w #[]=(.ok (.enter f args) w',es)->ad9 P Z6 fr cs F s w=.go (G (af0 P f args .normal) (fr :: cs)) w' (seen P fr.fn es)):=by
 have hk:=VD hf;refine⟨λv h=>?_,λh=>?_,λx h=>?_,λf args h=>?_⟩
 ·simp only[ad9,if_true,h,hk,aa6,if_false,aj6,am6];rfl
 ·simp only[ad9,if_true,h,hk,aa6,if_false,aj6,am6];rfl
 ·simp only[ad9,if_true,h,hk,aa6,if_false,aj6,am6];rfl
 ·simp only[ad9,if_true,h,hk,aa6,if_false,aj6,am6,ht];rfl
def Cm(h1:o.op=.call c)(h2:c.callee=.value (.func f)):ad6 fr.eval o=ak4 f (c.args.map fr.eval):=by unfold ad6;rw[h1];simp only[resolve,h2,ay2,am1];show invoke (.fn (.func f) #[]) (#[]++c.args.map fr.eval)=_;simp[invoke]
def uW{b:Builtin}(h1:o.op=.call c)(h2:c.callee=.builtin b):ad6 fr.eval o=builtin b c.argTypes o.type (c.args.map fun|.const _=>Z6|_=>E) (c.args.map fr.eval):=by unfold ad6;rw[h1];simp only[resolve,h2];rfl
def Gs(h1:o.op=.call c)(h2:c.callee=.value (.tmp n)){fn:Fn}{a b:Array aj}(h3:fr.tmps.getD n undef=.func fn a b)(hf:fn=.func T.cf):ad6 fr.eval o=ak4 T.cf (a++c.args.map fr.eval++b):=by unfold ad6;rw[h1];simp only[resolve,h2,ay2,h3,am1];subst hf;rfl
def xl(h1:o.op=.call c)(h2:c.callee=.value (.tmp n))(h3:∀fn a b,fr.tmps.getD n undef≠.func fn a b){nx:Next}:(ad6 fr.eval o).runT P w #[]≠(.ok nx w',es):=by
 intro h;unfold ad6 at h;rw[h1]at h;simp only[resolve,h2,ay2]at h;have key:∀v:aj,(∀fn a b,v≠.func fn a b)->¬af2 P (do let d <-am1 v (c.args.map fr.eval);invoke d.target d.args) w #[]=(.ok nx w',es):=by
  intro v hv h;cases v with
  |func fn a b=>exact hv fn a b rfl
  |nilFunc=>
   have e:(do let d <-am1 .nilFunc (c.args.map fr.eval);invoke d.target d.args)=(ar8 .nilDeref:Sem Next):=rfl;rw[e]at h;have:=(AA (Q:=λ_=>False)).out h;exact this
  |_=>cases h
 exact key _ h3 h
def Ap(h1:o.op=.defer c)(h2:c.callee=.value (.func f))(es:Array aC):(ad6 fr.eval o).runT P w es=(.ok (.defer {target:=.fn (.func f) #[],args:=#[]++c.args.map fr.eval}) w,es):=by unfold ad6;rw[h1];simp only[resolve,h2,ay2,am1];rfl
def xp{x:Deferred}(h:s.runT P w #[]=(.ok (.spawn x) w',es))(cs:List ak):uV (ad9 P Z6 fr cs F s w):=by simp only[ad9,if_true,h];refine uV.after ?_ _;repeat' (first|exact oM ..|exact .inr (.inr ⟨_,_,_,_,rfl⟩)|split)
def VE(h1:o.op=.go c):gR (λn=>∃x,n=Next.spawn x) (ad6 fr.eval o):=by unfold ad6;rw[h1];exact ji _ λ_=>.pure ⟨_,rfl⟩
def xj{r:aD}{s:String}(h1:o.op=.call c)(h2:c.callee=.invoke r s):ad6 fr.eval o=callMethod (fr.eval r) s (c.args.map fr.eval):=by
 unfold ad6;rw[h1];simp only[resolve,h2];have key:∀(v:aj) (Sn:Array aj),invoke (.fn (.method s) #[]) (#[v]++Sn)=callMethod v s Sn:=by
  intro v Sn;have e1:(#[v]++Sn)[0]?=Y v:=by simp[aw7]
  have e2:(#[v]++Sn).extract 1 (#[v]++Sn).size=Sn:=by
   apply Array.ext
   ·simp
   ·intro j h1 h2;simp
  simp only[invoke,e1,e2]
 exact key _ _
def Ea(hT:iG P T){s:String}(hs:T.JQ s=Z6){args:Array aj}{n:Next}(h:(callMethod v s args).runT P w #[]=(.ok n w',es)):
 ∃f args',n=.enter f args'/\T.kC f 0=Y 0/\T.wU f= []/\∀g d,ad2 d (seen P g es)=d:=by
 cases v with
 |iface t x=>
  have e0:callMethod (.iface t x) s args=(do let (f,receiver)<-method ((<-program).types.size+az5) t x s;ak4 f (#[receiver]++args)):=rfl;rw[e0,fW]at h;have e1:program.runT P w #[]=(.ok P w,#[]):=rfl;rw[e1]at h;simp only at h;rw[fW]at h;obtain⟨r,xO,hr⟩:∃r e,(method (P.types.size+az5) t x s).runT P w #[]=(r,e):=⟨_,_,rfl⟩
  rw[hr]at h;cases r with
  |halt hh w1=>cases h
  |ok fx w1=>
   obtain⟨f,rc⟩:=fx;simp only at h;obtain⟨g1,g2⟩:=hT.JQ s f hs (oN _ hr);obtain⟨fn,c,q1,q2,q3,_⟩:=hT.kC f 0 0 g1;rw[fT q1 q2 q3]at h;cases h;exact⟨f,_,rfl,g1,g2,λg d=>qX (wu ..) hr d⟩
 |nilIface=>
  have:=(AA (Q:=λ_=>False)).out h;exact this.elim
 |_=>cases h
end
section
variable {P:aB}{T:gV}{d out:Nat}{fr:ak}{cs1:List ak}{w:af}
def Kg(hT:iG P T)(hf:sj T fr out)(hr:nN T d fr out)(hw:Wt T fr.kind out cs1)(hm:fr.mode=.run)(hs:∀cs,stepG P Z6 (G fr cs) w=ad9 P Z6 fr cs F s w)(hh:s.runT P w #[]=(.halt h w',es)):kO P T d fr cs1 w\/AB P fr cs1 w:=by
 rcases Am (fr:=fr) hT.pS hf.kind hh with⟨e,es',he,hg⟩|⟨w2,hg⟩|hg
 ·exact .inl (GI hf hw hm he λcs=>(hs _).trans (hg _))
 ·refine .inl ⟨fr,cs1,w2,#[],d,λcs=>(hs _).trans (hg _),⟨out,⟨hf,?_⟩,hw⟩,λh=>⟨h,rfl⟩⟩;unfold iC;rw[hm];exact hr
 ·refine .inr λcs=>?_;rw[hs];exact hg _
def VF(hT:iG P T)(hf:sj T fr out)(hr:nN T d fr out)(hw:Wt T fr.kind out cs1)(hm:fr.mode=.run)(hop:Y5 fr)(w:af):kO P T d fr cs1 w\/AB P fr cs1 w:=by
 obtain⟨ops,i,is,k,ht⟩:=hop;obtain⟨s,X,rF,uE,hk⟩:=hr.ok;rw[ht]at hk;cases ho:ops[i]? with
 |none=>
  refine .inl (kX hf hr hw hm ht rF uE (Zo hk ho) undef (λ_ _ _=>fL) (λcs=>j5 hf hm ht (by rw[ho];rfl) _) rfl)
 |some o=>
  obtain⟨s1,h1,h2,h3⟩:=RY hk ho;cases Ld:ac3 o (ai5 ops fr.tmps)with
  |false=>
   have e:s1=s:=by
    rcases h2 with h2|h2
    ·unfold ac3 at Ld;rw[h2]at Ld;cases Ld
    ·exact h2
   subst e;exact .inl (kX hf hr hw hm ht rF uE h3 undef (λ_ _ _=>fL) (λcs=>j5 hf hm ht (by rw[ho];exact Ld) _) rfl)
  |true=>
   have hs:∀cs,stepG P Z6 (G fr cs) w=ad9 P Z6 fr cs F (ad6 fr.eval o) w:=λcs=>Cn hf hm ht ho Ld cs;have e:∃r es,(ad6 fr.eval o).runT P w #[]=(r,es):=⟨_,_,rfl⟩
   obtain⟨r,es,hrun⟩:=e;cases r with
   |halt h w'=>exact Kg hT hf hr hw hm hs hrun
   |ok n w'=>
    have val:∀v,n=.value v->s1 / 2=s / 2->ad2 d (seen P fr.fn es)=s1 % 2->(T.wr fr.fn o=Z6->wA T v)->kO P T d fr cs1 w\/AB P fr cs1 w:=λv hn e2 hd hc=>by subst hn;left;exact kX hf hr hw hm ht rfl (e2.trans uE) h3 v (λo' ho' hw'=>by rw[ho]at ho';cases ho';exact hc hw') (λcs=>(hs _).trans ((uZ hf ht _).1 v hrun)) hd
    have skp:n=.skip->s1 / 2=s / 2->ad2 d (seen P fr.fn es)=s1 % 2->kO P T d fr cs1 w\/AB P fr cs1 w:=λhn e2 hd=>by subst hn;left;exact kX hf hr hw hm ht rfl (e2.trans uE) h3 undef (λ_ _ _=>fL) (λcs=>(hs _).trans ((uZ hf ht _).2.1 hrun)) hd
    have plain:uU o.op=Z6->s1=s->(∀v,n=.value v->T.wr fr.fn o=Z6->wA T v)->kO P T d fr cs1 w\/AB P fr cs1 w:=λhp e hc=>by
     have hd:=qX (f:=fr.fn) (uT (ρ:=fr.eval) hp) hrun d;rcases(NP (ρ:=fr.eval) hp).out hrun with⟨v,hv⟩|hv
     ·exact val v hv (by rw[e]) (by rw[hd,e,rF]) (hc v hv)
     ·exact skp hv (by rw[e]) (by rw[hd,e,rF])
    have ent:∀f b args,n=.enter f args->ad2 d (seen P fr.fn es)=d->T.kC f d=Y b->s1 % 2=b->s1 / 2=s / 2->T.wr fr.fn o=E->(∀m∈T.wU f,wA T (args.getD m undef))->kO P T d fr cs1 w\/AB P fr cs1 w:=λf b args hn WK hi hb e2 yp ha=>by subst hn;exact .inl ⟨af0 P f args .normal,fr :: cs1,w',seen P fr.fn es,d,λcs=>(hs _).trans ((uZ hf ht _).2.2.2 f args hrun),NQ hT hf hr hw hm ht ho yp hi hb (e2.trans uE) h3 args ha,λh=>⟨λc hc=>h c (zbq _ hc),WK⟩⟩
    have adH:∀f b args,T.kC f d=Y b->s1 % 2=b->s1 / 2=s / 2->T.wr fr.fn o=E->(∀m∈T.wU f,wA T (args.getD m undef))->ad6 fr.eval o=ak4 f args->kO P T d fr cs1 w\/AB P fr cs1 w:=λf b args hi hb e2 yp ha he=>by obtain⟨fn,c,g1,g2,g3,_⟩:=hT.kC f d b hi;have jF:=hrun;rw[he,fT g1 g2 g3]at jF;cases jF;exact ent f b args rfl rfl hi hb e2 yp ha
    unfold gV.uh at h1;cases hop:o.op with
    |call c=>
     rw[hop]at h1;simp only at h1;split at h1
     ·cases h1
     ·rename_i yp;have yp:T.wr fr.fn o=E:=by simpa using yp
      have vx:∀v,n=.value v->s1 / 2=s / 2->ad2 d (seen P fr.fn es)=s1 % 2->kO P T d fr cs1 w\/AB P fr cs1 w:=λv hn e2 hd=>val v hn e2 hd λhh=>by rw[yp]at hh;cases hh
      cases hc:c.callee with
      |invoke r nm=>
       rw[hc]at h1;simp only at h1;split at h1
       ·rename_i hh;obtain⟨hme,rfl⟩:=hh;cases h1;have jF:=hrun;rw[xj hop hc]at jF;obtain⟨f,args,hn,hi,qO,hd⟩:=Ea hT hme jF;have hd0:d=0:=rF.symm;subst hd0;exact ent f 0 args hn (hd _ _) hi rfl rfl yp (by rw[qO];intro m hm;cases hm)
       ·cases h1
      |builtin b=>
       rw[hc]at h1;simp only at h1;split at h1
       ·rename_i hb;cases h1;have jF:=hrun;rw[uW hop hc]at jF;have hd:=qX (f:=fr.fn) (Al hb ..) jF d;rcases(Eb hb ..).out jF with⟨v,hv⟩|hv
        ·exact vx v hv rfl (hd.trans rF.symm)
        ·exact skp hv rfl (hd.trans rF.symm)
       ·cases h1
      |value x=>
       cases x with
       |tmp m=>
        rw[hc]at h1;simp only at h1;split at h1
        ·rename_i hh;obtain⟨hm1,rfl⟩:=hh;cases h1;have hd0:d=0:=rF.symm;subst hd0;have qO:=hr.wU m (by simpa using hm1);cases hv:fr.tmps.getD m undef with
         |func fn a b=>
          have hfn:=qO fn a b hv;exact adH T.cf 0 _ hT.cf.1 rfl rfl yp (by rw[hT.cf.2];intro m hm;cases hm) (Gs hop hc hv hfn)
         |_=>exact absurd hrun (xl hop hc (λfn a b=>by rw[hv];intro h;cases h))
        ·cases h1
       |func f=>
        rw[hc]at h1;simp only at h1;split at h1
        ·rename_i ah7;have hex:=Cm (fr:=fr) (o:=o) hop hc;have jF:=hrun;rw[hex]at jF;obtain⟨e,Cl,h1⟩:=zbr.1 h1;have he2:e<2:=by
          by_cases hx:e<2
          ·exact hx
          ·rw[if_neg hx]at h1;cases h1
         rw[if_pos he2]at h1;cases h1;have q1:(e+2*(s / 2))% 2=e:=I
         have q2:(e+2*(s / 2))/ 2=s / 2:=I
         rw[rF]at Cl;unfold gV.fD at Cl;split at Cl
         ·rename_i RU;subst RU;obtain⟨⟨v,hv⟩,hd⟩:=hT.Dt _ _ _ _ _ jF;exact vx v hv q2 (by rw[hd,q1];cases Cl;rfl)
         ·split at Cl
          ·rename_i _ RU;subst RU;obtain⟨v,yu,hx,hd⟩:=hT.en (c.args.map fr.eval) w;rw[hx]at jF;cases jF;split at Cl
           ·cases Cl
           ·exact vx v rfl q2 (by rw[hd,q1];cases Cl;rfl)
          ·split at Cl
           ·rename_i hx;obtain⟨⟨v,hv⟩,hd⟩:=hT.ext f hx _ _ _ _ _ jF;exact vx v hv q2 (by rw[hd,q1];cases Cl;rfl)
           ·refine adH f e _ Cl q1 q2 yp (λm hm=>?_) hex;have:=List.all_eq_true.1 ah7 m hm;rw[zbu,ar4];cases hq:c.args[m]? with
            |none=>exact fL
            |some x=>
             rw[hq]at this;simp only[bf4,aa0]at this⊢;cases x with
             |tmp t=>exact hr.wU t (by simpa[gV.kP]using this)
             |func g=>
              intro fn a' c' he;simp only[ay2,Value.func.injEq]at he;have hg:g=T.cf:=by simpa[gV.kP]using this
              rw[<-he.1,hg]
             |_=>simp[gV.kP]at this
        ·cases h1
       |_=>rw[hc]at h1;cases h1
    |go c=>
     obtain⟨x,rfl⟩:=(VE (fr:=fr) hop).out hrun;refine .inr λcs=>?_;rw[hs];exact xp hrun _
    |defer c=>
     rw[hop]at h1;simp only at h1;cases hc:c.callee with
     |value x=>
      cases x with
      |func f=>
       rw[hc]at h1;simp only at h1;split at h1
       ·cases h1
       rename_i yp;have jF:=Ap (fr:=fr) (P:=P) (w:=w) hop hc #[];have more:∀(ds:List Deferred),ds={target:=.fn (.func f) #[],args:=#[]++c.args.map fr.eval}:: fr.defers->sj T {fr with defers:=ds} out->s1 % 2=d->s1 / 2=py T {fr with defers:=ds}->kO P T d fr cs1 w:=by intro ds hds hf' e1 e2;obtain⟨m1,m2⟩:=xy (fr:={fr with defers:=ds}) ht undef;refine⟨({fr with defers:=ds}:ak).finish undef,cs1,w,seen P fr.fn #[],d,λcs=>(hs _).trans (by rw[hds];exact(uZ hf ht _).2.2.1 _ jF),⟨out,⟨hf'.finish ht undef,?_⟩,by rw[m2];exact hw⟩,λh=>⟨h.top (λch he=>by rw[hm]at he;cases he),rfl⟩⟩;have m3:=m1.trans hm;unfold iC;rw[m3];rw[qZ (fr:={fr with defers:=ds}) ht];exact⟨AD hr.wU undef (λ_ _ _=>fL),s1,X,e1,e2,h3⟩
       split at h1
       ·rename_i mQ;split at h1
        ·rename_i RU;cases h1;left;refine more _ rfl ⟨hf.round,λx hx=>?_,hf.kind,hf.kC,.inl mQ⟩ I ?_
         ·rcases zby.1 hx with rfl|hx
          ·exact⟨#[],by simp only[mQ,if_true,RU]⟩
          ·exact hf.Ew x hx
         ·have:py T fr=fr.defers.length:=by unfold py;rw[if_pos mQ]
          rw[this]at uE;unfold py;simp only[mQ,if_true,List.length_cons];omega
        ·cases h1
       ·rename_i mQ;split at h1
        ·rename_i hh;obtain⟨RU,hz⟩:=hh;cases h1;have hout:out=0:=by
          obtain⟨a,ha⟩:=hf.kC;have h2:=hT.two _ _ _ ha;rcases Nat.lt_or_ge a 1 with h3|h3
          ·obtain rfl:a=0:=I
           rw[hz.1]at ha;cases ha;rfl
          ·obtain rfl:a=1:=I
           rw[hz.2]at ha;cases ha
         left;refine more _ rfl ⟨hf.round,λx hx=>?_,hf.kind,hf.kC,.inr (.inr hout)⟩ rF ?_
         ·rcases zby.1 hx with rfl|hx
          ·exact⟨#[],by simp only[mQ,aa6,if_false,RU]⟩
          ·exact hf.Ew x hx
         ·unfold py at uE⊢;rw[if_neg mQ]at uE;simp only[mQ,aa6,if_false];exact uE
        ·cases h1
      |_=>rw[hc]at h1;cases h1
     |_=>rw[hc]at h1;cases h1
    |move x=>
     rw[hop]at h1;simp only at h1;split at h1
     ·cases h1
     ·rename_i hh;refine plain (by rw[hop];rfl) (by cases h1;rfl) λv hv yp=>?_;have hx:T.kP fr.fn x=Z6:=by
       cases hq:T.kP fr.fn x with
       |true=>rfl
       |false=>exact absurd ⟨yp,hq⟩ hh
      have he:v=fr.eval x:=by unfold ad6 at hrun;rw[hop]at hrun;cases hrun;cases hv;rfl
      subst he;cases x with
      |tmp t=>exact hr.wU t (by simpa[gV.kP]using hx)
      |func g=>
       intro fn a' c' he;simp only[ay2,Value.func.injEq]at he;have hg:g=T.cf:=by simpa[gV.kP]using hx
       rw[<-he.1,hg]
      |_=>simp[gV.kP]at hx
    |assign x=>
     rw[hop]at h1;simp only at h1;split at h1
     ·cases h1
     ·rename_i hh;refine plain (by rw[hop];rfl) (by cases h1;rfl) λv hv yp=>?_;have hx:T.kP fr.fn x=Z6:=by
       cases hq:T.kP fr.fn x with
       |true=>rfl
       |false=>exact absurd ⟨yp,hq⟩ hh
      have he:v=fr.eval x:=by unfold ad6 at hrun;rw[hop]at hrun;cases hrun;cases hv;rfl
      subst he;cases x with
      |tmp t=>exact hr.wU t (by simpa[gV.kP]using hx)
      |func g=>
       intro fn a' c' he;simp only[ay2,Value.func.injEq]at he;have hg:g=T.cf:=by simpa[gV.kP]using hx
       rw[<-he.1,hg]
      |_=>simp[gV.kP]at hx
    |makeFunc fn a b=>
     rw[hop]at h1;simp only at h1;split at h1
     ·cases h1
     ·rename_i hh;refine plain (by rw[hop];rfl) (by cases h1;rfl) λv hv yp=>?_;have he:v=.func fn (a.map fr.eval) (b.map fr.eval):=by unfold ad6 at hrun;rw[hop]at hrun;cases hrun;cases hv;rfl
      subst he;intro fn' a' c' he;cases he;cases fn with
      |func f=>
       have:f=T.cf:=by
        cases hq:f == T.cf with
        |true=>simpa using hq
        |false=>exact absurd ⟨yp,hq⟩ hh
       rw[this]
      |_=>exact absurd ⟨yp,rfl⟩ hh
    |_=>
     rw[hop]at h1;simp only at h1;split at h1
     ·rename_i hh;exact plain (by rw[hop];exact hh.1) (by cases h1;rfl) λv hv yp=>by rw[hh.2]at yp;cases yp
     ·cases h1
end
section
variable {P:aB}{T:gV}{d out:Nat}{fr:ak}{cs1:List ak}{w:af}
def AE(c:ak)(v:aj):(c.finish v).fn=c.fn/\(c.finish v).defers=c.defers/\(c.finish v).mode=c.mode/\(c.finish v).kind=c.kind/\(c.finish v).roundOf=c.roundOf:=by unfold Frame.finish;split<;>exact⟨rfl,rfl,rfl,rfl,rfl⟩
def sj.fin{c:ak}(h:sj T c out)(v:aj):sj T (c.finish v) out:=by obtain⟨e1,e2,e3,e4,e5⟩:=AE c v;exact⟨by rw[e5];exact h.round,by rw[e2,e1];exact h.Ew,by rw[e4];exact h.kind,by rw[e1];exact h.kC,by rw[e2,e1];exact h.Zp⟩
def sj.rai{c:ak}(h:sj T c out)(ch:List PanicEntry):sj T (c.raise ch) out:=by unfold ay4;split<;>exact⟨h.round,h.Ew,h.kind,h.kC,h.Zp⟩
def Leave(fr:ak)(cs1:List ak):Prop:=cs1= []/\fr.mode≠.run/\fr.defers= []
def GJ(hT:iG P T)(hf:sj T fr out)(hmo:iC T d fr out)(hw:Wt T fr.kind out cs1)(hm:fr.mode≠.run)(w:af):kO P T d fr cs1 w\/AB P fr cs1 w\/Leave fr cs1:=by
 have hu:∀cs,stepG P Z6 (G fr cs) w=unwind P Z6 fr cs F w:=λcs=>by simp only[stepG,G]
 obtain⟨a0,RZ⟩:=hf.kC;obtain⟨fn0,c0,g1,g2,g3,_⟩:=hT.kC _ _ _ RZ;cases hd:fr.defers with
 |cons x ds=>
  left;obtain⟨cap,hx⟩:=hf.Ew x (by rw[hd];exact zbz ..);by_cases mQ:T.den fr.fn=Z6
  ·rw[if_pos mQ]at hx;obtain⟨v,es,tI,WK⟩:=hT.en (x.args++cap) w;have hstep:∀cs,stepG P Z6 (G fr cs) w=.go (G {fr with defers:=ds} cs) w (seen P fr.fn es):=λcs=>by rw[hu];unfold unwind;rw[hd];obtain⟨tg,ar⟩:=x;obtain rfl:tg=.fn (.func T.en) cap:=hx;simp only[callDeferred];have e1:(invoke (.fn (.func T.en) cap) ar).runT P w #[]=(.ok (.value v) w,es):=tI;simp only[e1,bb8,aa6,if_false,aj6,am6];rfl
   have Zq:py T fr=ds.length+1:=by unfold py;rw[if_pos mQ,hd];rfl
   have ajV:py T {fr with defers:=ds}=ds.length:=by unfold py;simp only[mQ,if_true]
   refine⟨{fr with defers:=ds},cs1,w,seen P fr.fn es,d-1,λcs=>hstep _,⟨out,⟨⟨hf.round,λy hy=>hf.Ew y (by rw[hd];exact zbq _ hy),hf.kind,hf.kC,.inl mQ⟩,?_⟩,hw⟩,λh=>⟨λc hc ch he=>?_,WK _ _⟩⟩
   ·unfold iC at hmo⊢;simp only;cases uX:fr.mode with
    |run=>exact absurd uX hm
    |returning=>
     rw[uX]at hmo;have Kh:d=out+py T fr:=hmo;show d-1=out+py T _;rw[Zq]at Kh;have e3:∀q:FrameMode,py T {fr with defers:=ds,mode:=q}=ds.length:=λq=>by unfold py;simp only[mQ,if_true]
     rw[e3];omega
    |panicking ch=>rw[uX]at hmo;exact hmo
   ·rcases zby.1 hc with rfl|hc
    ·exact h {c with defers:=ds} (zbz ..) ch he
    ·exact h c (zbq _ hc) ch he
  rw[if_neg mQ]at hx;have hout:out=0:=by
   rcases hf.Zp with h|h|h
   ·exact absurd h mQ
   ·rw[hd]at h;cases h
   ·exact h
  subst hout;have Zq:py T fr=0:=by unfold py;rw[if_neg mQ]
  obtain⟨fn,c,q1,q2,q3,r,q4,q5⟩:=hT.kC _ _ _ hT.Co.1;have hstep:∀cs,stepG P Z6 (G fr cs) w=.go (G (af0 P T.Co (x.args++cap) .deferred) ({fr with defers:=ds}:: cs)) w #[]:=λcs=>by rw[hu];unfold unwind;rw[hd];obtain⟨tg,ar⟩:=x;obtain rfl:tg=.fn (.func T.Co) cap:=hx;simp only[callDeferred];have e1:(invoke (.fn (.func T.Co) cap) ar).runT P w #[]=(.ok (.enter T.Co (ar++cap)) w,#[]):=fT q1 q2 q3 _ _ _;simp only[e1,bb8,aa6,if_false];rfl
  have hf':sj T {fr with defers:=ds} 0:=⟨hf.round,λx hx=>hf.Ew x (by rw[hd];exact zbq _ hx),hf.kind,hf.kC,.inr (.inr rfl)⟩
  refine⟨_,{fr with defers:=ds}:: cs1,w,#[],0,λcs=>hstep _,⟨0,⟨⟨rfl,(λx hx=>by simp[af0]at hx),.inr rfl,⟨0,hT.Co.1⟩,.inr (.inl rfl)⟩,?_⟩,0,hf',hw,.inr ⟨rfl,hm,?_⟩⟩,λh=>⟨λc hc ch he=>?_,?_⟩⟩
  ·show nN T 0 _ 0;refine⟨λn hn=>?_,0, [],rfl,?_,?_⟩
   ·rw[show (af0 P T.Co (x.args++cap) CallKind.deferred).fn=T.Co from rfl,hT.Co.2]at hn;cases hn
   ·unfold py;split<;>rfl
   ·show pe T T.Co 0 [.code _] 0 [];rw[q1];simp only[at4,q3,aa0];exact⟨r,q4,rfl,λe he=>⟨q5 e he,rfl⟩⟩
  ·unfold iC at hmo⊢;simp only;cases uX:fr.mode with
   |run=>exact absurd uX hm
   |returning=>
    show (0:Nat)=0+py T _;have e3:∀q:FrameMode,py T {fr with defers:=ds,mode:=q}=0:=λq=>by unfold py;rw[if_neg mQ]
    rw[e3]
   |panicking ch=>rw[uX]at hmo;exact hmo
  ·rcases zby.1 hc with rfl|hc
   ·exact h {c with defers:=ds} (zbq _ (zbz ..)) ch he
   ·exact h c (zbq _ (zbq _ hc)) ch he
  ·unfold iC at hmo;cases uX:fr.mode with
   |run=>exact absurd uX hm
   |returning=>
    rw[uX]at hmo;have Kh:d=0+py T fr:=hmo;rw[Zq]at Kh;exact Kh
   |panicking ch=>exact absurd uX (h {fr with defers:=ds} (zbq _ (zbz ..)) ch)
 |nil=>
  cases cs1 with
  |nil=>exact .inr (.inr ⟨rfl,hm,hd⟩)
  |cons c rest=>
   obtain⟨out',L6,Zx,iL⟩:=hw;cases uX:fr.mode with
   |run=>exact absurd uX hm
   |panicking ch=>
    left;unfold iC at hmo;rw[uX]at hmo;have JS:fr.catches P=E:=by unfold az9;rw[g1]
    have hk:(c.raise ch).kind=c.kind:=by unfold ay4;split<;>rfl
    have ah8:∃ch',(c.raise ch).mode=.panicking ch'/\∀e∈ch',e.recovered=E:=by
     unfold ay4;split
     ·rename_i ch' AM;refine⟨_,rfl,λe he=>?_⟩;rcases List.mem_append.1 he with he|he
      ·exact hmo e he
      ·rcases iL with⟨_,h2,_⟩|⟨_,_,h3⟩
       ·rw[AM]at h2;cases h2
       ·unfold iC at h3;rw[AM]at h3;exact h3 e he
     ·exact⟨_,rfl,hmo⟩
    obtain⟨ch',hp1,LD⟩:=ah8;refine⟨c.raise ch,rest,w,#[],d,λcs=>?_,⟨out',⟨L6.rai ch,?_⟩,by rw[hk];exact Zx⟩,λh=>absurd hp1 (h _ (zbz ..) ch')⟩
    ·rw[hu];unfold unwind;rw[hd];simp only[uX,JS,aa6,if_false,av2];rfl
    ·unfold iC;rw[hp1];exact LD
   |returning=>
    unfold iC at hmo;rw[uX]at hmo;have adI:py T fr=0:=by unfold py;rw[hd];split<;>rfl
    obtain rfl:d=out:=by have Kh:d=out+py T fr:=hmo;rw[adI]at Kh;exact Kh
    have e0:∃r es,(results fn0 fr.tmps).runT P w #[]=(r,es):=⟨_,_,rfl⟩
    obtain⟨r,es,hrun⟩:=e0;cases r with
    |halt h w'=>
     refine .inr (.inl λcs=>.inl ?_);rw[hu];unfold unwind;rw[hd];simp only[uX,g1,hrun];cases h<;>exact⟨_,_,_,rfl⟩
    |ok v w'=>
     left;have WK:=qX (f:=fr.fn) (Aq fn0 fr.tmps) hrun d;have R1:∀cs,stepG P Z6 (G fr cs) w=(doReturn P Z6 fr cs F v w').after (seen P fr.fn es):=λcs=>by rw[hu];unfold unwind;rw[hd];simp only[uX,g1,hrun]
     rcases iL with⟨hk,hcm,hrv⟩|⟨hk,hcm,Gt⟩
     ·obtain⟨e1,e2,e3,e4,e5⟩:=AE c v;refine⟨c.finish v,rest,w',seen P fr.fn es,d,λcs=>?_,⟨out',⟨L6.fin v,?_⟩,by rw[e4];exact Zx⟩,λh=>⟨λc' AM ch he=>?_,WK⟩⟩
      ·rw[R1];simp only[av2,doReturn,hk,aj6,am6];rfl
      ·unfold iC;rw[e3,hcm];exact hrv v
      ·rcases zby.1 AM with rfl|AM
       ·rw[uX]at he;cases he
       ·rcases zby.1 AM with rfl|AM
        ·rw[hcm]at he;cases he
        ·exact h c' (zbq _ AM) ch he
     ·refine⟨c,rest,w',seen P fr.fn es,d,λcs=>?_,⟨out',⟨L6,Gt⟩,Zx⟩,λh=>⟨λc' AM ch he=>?_,WK⟩⟩
      ·rw[R1];simp only[av2,doReturn,hk];split
       ·rename_i v' g' older hmm;unfold iC at Gt;rw[hmm]at Gt;have:=Gt _ (zbz ..);simp at this
       ·simp only[aj6,am6];rfl
      ·rcases zby.1 AM with rfl|AM
       ·rw[uX]at he;cases he
       ·exact h c' AM ch he
def zT(hT:iG P T)(h:AP T d fr cs1)(w:af):kO P T d fr cs1 w\/AB P fr cs1 w\/Ss T fr\/Leave fr cs1:=by
 obtain⟨out,⟨hf,hmo⟩,hw⟩:=h;by_cases hm:fr.mode=.run
 ·have hr:nN T d fr out:=by unfold iC at hmo;rw[hm]at hmo;exact hmo
  rcases St (P:=P) hf hr hw hm w with h|h|h|h
  ·exact .inl h
  ·exact .inr (.inl h)
  ·exact .inr (.inr (.inl h))
  ·exact(VF hT hf hr hw hm h w).imp id .inl
 ·exact(GJ hT hf hmo hw hm w).imp id (Or.imp id .inr)
end
section
variable {P:aB}{T:gV}
def xY{a:au}{o:Outcome}(h:stepG P Z6 a w=.ended o w' es):(runT P (solo a w) 0).1=.ended o w':=by simp[runT,solo,Array.swapAt!,Array.swapAt,h,GStep.es]
def gI{a:au}{o:Outcome}(hs:a.status=.running)(h:stepG P Z6 a w=.ended o w' es):step P (solo a w)=.ended o w':=by rw[step,stepT_solo hs,xY h]
def endWith_ended(w:af)(n:Nat)(b:ah)(o:Outcome):∃o' w' es,endWith w n b o=.ended o' w' es:=by unfold endWith;dsimp only;repeat' (first|exact⟨_,_,_,rfl⟩|split)
def Ec{a:au}(hs:a.status=.blocked):∃o w',step P (solo a w)=.ended o w':=by
 have h1:runnable (solo a w).gs (solo a w).world.os.mono= []:=by simp[solo,runnable_eq,Goroutine.canRun,List.range_succ,hs]
 unfold step stepT move;simp only[solo]at h1⊢;simp[ask,askOn,h1,due,ahead,pure,hs];obtain⟨o,w',es,he⟩:=endWith_ended w 2 (bytes ("fatal error: all goroutines are asleep - deadlock!\n")) (.fatal "all goroutines are asleep - deadlock!");rw[he];exact⟨_,_,rfl⟩
def Ed{a:au}(hs:a.status=.waiting):step P (solo a w)=.next (solo a w):=by
 have h1:runnable (solo a w).gs (solo a w).world.os.mono= []:=by simp[solo,runnable_eq,Goroutine.canRun,List.range_succ,hs]
 unfold step stepT move;simp only[solo]at h1⊢;simp[ask,askOn,h1,due,ahead,pure,hs]
def Ee(fr:ak)(d:Dying)(f:Fatal)(w:af)(hc:d.calling=E):(∃o w' es,writeOn P fr d f w=.ended o w' es)\/∃g' w' es,writeOn P fr d f w=.go g' w' es/\Cx g':=by
 unfold writeOn;dsimp only;split
 ·exact .inl ⟨_,_,_,rfl⟩
 ·split
  ·exact .inr ⟨_,_,_,rfl,.inr (.inr ⟨rfl,_,_,rfl,hc,rfl⟩)⟩
  ·exact .inr ⟨_,_,_,rfl,.inl rfl⟩
  ·exact .inl ⟨_,_,_,rfl⟩
  ·exact .inl ⟨_,_,_,rfl⟩
def NR{m:Machine}(h:Cx g)(hs:step P (solo g w)=.next m):∃g' w',m=solo g' w'/\Cx g':=by
 rcases h with h|h|⟨h,d,f,h1,h2,h3⟩
 ·obtain⟨o,w',he⟩:=Ec (P:=P) (w:=w) h;rw[he]at hs;cases hs
 ·rw[Ed h]at hs;cases hs;exact⟨g,w,rfl,.inr (.inl h)⟩
 ·have e:stepG P Z6 g w=writeOn P g.frame d f w:=by obtain⟨fr,cs,st,dy,off⟩:=g;obtain⟨todo,texts,calling,pending,re,hand,fatal⟩:=d;simp only at h1 h2 h3;subst h1 h2 h3;rfl
  rcases Ee (P:=P) g.frame d f w h2 with⟨o,w',es,he⟩|⟨g',w',es,he,hd⟩
  ·rw[gI h (e.trans he)]at hs;cases hs
  ·rw[av6 h (e.trans he)]at hs;cases hs;exact⟨g',w',rfl,hd⟩
def tC:∀(n:Nat) {g:au} {w:af} {fr:ak} {cs:List ak} {w':af},Cx g->runN P n (solo g w)≠.next (lone fr cs w')
 | 0,g,w,fr,cs,w',h,hr=>by
   rw[ar7]at hr;simp only[runN,am5,solo,Machine.mk.injEq,Array.mk.injEq,List.cons.injEq,and_true]at hr;obtain⟨_,rfl⟩:=hr;rcases h with h|h|⟨_,d,f,h1,_⟩
   ·cases h
   ·cases h
   ·cases h1
 |n+1,g,w,fr,cs,w',h,hr=>by
  unfold runN at hr;cases hs:step P (solo g w)with
  |ended o w2=>rw[hs]at hr;cases hr
  |next m=>
   rw[hs]at hr;obtain⟨g',w2,rfl,hd⟩:=NR h hs;exact tC n hd hr
def tD:∀(n:Nat) {m:Machine} {fr:ak} {cs:List ak} {w':af},1<m.gs.size->runN P n m≠.next (lone fr cs w')
 | 0,m,fr,cs,w',h,hr=>by simp only[runN,am5]at hr;subst hr;simp[lone]at h
 |n+1,m,fr,cs,w',h,hr=>by
  unfold runN at hr;cases hs:step P m with
  |ended o w2=>rw[hs]at hr;cases hr
  |next m2=>
   rw[hs]at hr;exact tD n (Nat.lt_of_lt_of_le h (stepT_size P m m2 Z6 hs)) hr
inductive LR(P:aB):ak->List ak->af->List (ay×String×Array aC)->ak->List ak->af->Prop
 |refl {fr:ak} {c:List ak} {w:af}:LR P fr c w [] fr c w
 |step {fr gC fr':ak} {c c1 c':List ak} {w w1 w':af} {es:Array aC} {l:List (ay×String×Array aC)}:(∀cs,stepG P Z6 (G fr (c++cs)) w=.go (G gC (c1++cs)) w1 es)->LR P gC c1 w1 l fr' c' w'->LR P fr c w ((fr.fn,fr.place,es):: l) fr' c' w'
def adJ(d:Nat)(l:List (ay×String×Array aC)):Nat:=l.foldl (λd x=>ad2 d x.2.2) d
def dm(P:aB):ak:={fn:=P.funcs.size,tmps:=#[undef],todo:= [.call {target:=.nil,args:=#[]} E "fmt's door: nowhere" #[]],defers:= [],mode:=.run,kind:=.normal}
def NS:Extern.next "fmt's door: nowhere" =F:=Yl
def lP{cs':List ak}(h:lone fr cs w=lone fr' cs' w'):fr=fr'/\cs=cs'/\w=w':=by simp only[lone,Machine.mk.injEq,Array.mk.injEq,List.cons.injEq,Goroutine.mk.injEq]at h;obtain⟨h1,⟨⟨h2,h3,_⟩,_⟩,_⟩:=h;exact⟨h2,h3,h1⟩
def xq(hT:iG P T)(hS:AP T d fr [])(hl:Leave fr []):runN P (n+1) (lone fr [dm P] w)≠.next (lone fr' (c'++ [dm P]) w'):=by
 obtain⟨out,⟨hf,hmo⟩,hw⟩:=hS;obtain⟨_,hm,hd⟩:=hl;have hk:fr.kind=.normal:=hw;obtain⟨a0,RZ⟩:=hf.kC;obtain⟨fn0,c0,g1,g2,g3,_⟩:=hT.kC _ _ _ RZ;intro hr;have over:∀(x:ak) (w1:af),(∀w,∃o w2 es,stepG P Z6 (G x []) w=.ended o w2 es)->step P (lone fr [dm P] w)=.next (lone x [] w1)->False:=by
  intro x w1 hx hs;unfold runN at hr;rw[hs]at hr;simp only at hr;cases n with
  |zero=>
   simp only[runN,am5]at hr;have:=(lP hr).2.1;simp at this
  |succ n=>
   unfold runN at hr;obtain⟨o,w2,es,he⟩:=hx w1;rw[ar7,gI rfl he]at hr;cases hr
 cases uX:fr.mode with
 |run=>exact hm uX
 |panicking ch=>
  refine over ((dm P).raise ch) w (λw=>?_) (by
   rw[ar7];refine av6 (es:=#[]) rfl ?_;have JS:fr.catches P=E:=by unfold az9;rw[g1]
   simp only[stepG,G,uX,unwind,hd,JS,aa6,if_false])
  have JS:((dm P).raise ch).catches P=Z6:=by
   have e1:P.funcs[((dm P).raise ch).fn]?=F:=by show P.funcs[P.funcs.size]?=F;simp
   have e2: "fmt's door: nowhere".startsWith "fmt's door" =Z6:=Yl
   have e3:((dm P).raise ch).todo= [.call {target:=.nil,args:=#[]} E "fmt's door: nowhere" #[]]:=rfl;unfold az9;rw[e1,e3];simp only[e2]
  have hx:∃o w2 es,unwind P Z6 ((dm P).raise ch) [] F w=.ended o w2 es:=by unfold unwind;rw[show ((dm P).raise ch).defers= []from rfl,show ((dm P).raise ch).mode=.panicking ch from rfl];simp only[JS,if_true];exact⟨_,_,_,rfl⟩
  exact hx
 |returning=>
  have e0:∃r es,(results fn0 fr.tmps).runT P w #[]=(r,es):=⟨_,_,rfl⟩
  obtain⟨r,es,hrun⟩:=e0;cases r with
  |halt h w1=>
   have he:∃o w2 es,stepG P Z6 (G fr [dm P]) w=.ended o w2 es:=by simp only[stepG,G,uX,unwind,hd,g1,hrun];cases h<;>exact⟨_,_,_,rfl⟩
   obtain⟨o,w2,es,he⟩:=he;unfold runN at hr;rw[ar7,gI rfl he]at hr;cases hr
  |ok v w1=>
   refine over ((dm P).finish v) w1 (λw=>?_) (by rw[ar7];refine av6 (es:=seen P fr.fn es) rfl ?_;simp only[stepG,G,uX,unwind,hd,g1,hrun,doReturn,hk,aj6,am6])
   have hx:∃o w2 es,as0 P Z6 Z6 ((dm P).finish v) [] F w=.ended o w2 es:=by simp only[dm,Frame.finish,as0,NS,bc7];exact⟨_,_,_,rfl⟩
   exact hx
def Cq(hT:iG P T){fr':ak}{c':List ak}{w':af}(hp:iY fr' c'):∀(n:Nat) {d:Nat} {fr:ak} {c:List ak} {w:af},AP T d fr c->
 runN P n (lone fr (c++ [dm P]) w)=.next (lone fr' (c'++ [dm P]) w')->
 (∀(k:Nat) (f:ak) (q:List ak) (u:af),k<n->runN P k (lone fr (c++ [dm P]) w)=.next (lone f q u)->¬Ss T f)->
 iY fr c/\∃l d',LR P fr c w l fr' c' w'/\AP T d' fr' c'/\adJ d l=d'
 | 0,d,fr,c,w,hS,hr,_=>by simp only[runN,am5]at hr;obtain⟨rfl,h2,rfl⟩:=lP hr;obtain rfl:c=c':=zbw h2;exact⟨hp, [],d,.refl,hS,rfl⟩
 |n+1,d,fr,c,w,hS,hr,hn=>by
  rcases zT hT hS w with h|h|h|h
  ·obtain⟨gC,c1,w1,es,d1,hs,tN,hd⟩:=h;have hst:step P (lone fr (c++ [dm P]) w)=.next (lone gC (c1++ [dm P]) w1):=av6 (a:=G fr (c++ [dm P])) rfl (hs _)
   have hr':=hr;unfold runN at hr';rw[hst]at hr';obtain⟨hp1,l,d',hl,hS',hd'⟩:=Cq hT hp n tN hr' (λk f q u hk hk'=>hn (k+1) f q u I (by unfold runN;rw[hst];exact hk'));obtain⟨YB,he⟩:=hd hp1;refine⟨YB,_,d',.step hs hl,hS',?_⟩;rw[<-hd',<-he];rfl
  ·exfalso;rcases h [dm P]with⟨o,w1,es,he⟩|⟨g1,w1,es,he,hg⟩|⟨g1,g2,w1,es,he⟩
   ·unfold runN at hr;rw[ar7,gI rfl he]at hr;cases hr
   ·unfold runN at hr;rw[ar7,av6 rfl he]at hr;exact tC n hg hr
   ·unfold runN at hr;have e2:step P (lone fr (c++ [dm P]) w)=.next (duo g1 g2 w1 F):=by rw[ar7,step,stepT_solo rfl,runT_solo_spawn he]
    rw[e2]at hr;exact tD n (by simp[duo]) hr
  ·exact absurd h (hn 0 fr _ w I rfl)
  ·exfalso;have hc:=h.1;subst hc;exact xq hT hS h hr
end
def dE(d:Nat)(e:aC):Nat:=match e.loc with|.mark .disable=>d+1|.mark .enable=>d-1|_=>d
def deaf_push(d:Nat)(es:Array aC)(e:aC):ad2 d (es.push e)=dE (ad2 d es) e:=by unfold ad2;rw[Array.foldl_push];rfl
def AF(d:Nat)(es:Array aC)(l:List aA)(wr sy:Bool):ad2 d (es++l.toArray.map λa=>(⟨.cell a,wr,sy⟩:aC))=ad2 d es:=by
 unfold ad2;rw[Array.foldl_append];generalize Array.foldl _ d es=x;rw[<-zbt,List.map_toArray];show List.foldl _ x (l.map λa=>(⟨.cell a,wr,sy⟩:aC))=x;induction l with
 |nil=>rfl
 |cons a l ih=>simpa using ih
inductive BT{α:Type}:Bool->Sem α->Prop
 |pure {a:α}:BT E (.pure a)
 |load {b:Bool} {m:Mode} {a:aA} {k:aj->Sem α}:(∀v,BT b (k v))->BT b (.load m a k)
 |store {b:Bool} {m:Mode} {a:aA} {v:aj} {k:Sem α}:BT b k->BT b (.store m a v k)
 |new {b:Bool} {o:Obj} {k:Nat->Sem α}:(∀r,BT b (k r))->BT b (.new o k)
 |shape {b:Bool} {r:Nat} {k:Option (az×Nat)->Sem α}:(∀s,BT b (k s))->BT b (.shape r k)
 |freeze {b:Bool} {a:aA} {n:Nat} {k:Sem α}:BT b k->BT b (.freeze a n k)
 |frozen {b:Bool} {a:aA} {k:Bool->Sem α}:(∀q,BT b (k q))->BT b (.frozen a k)
 |getObj {b:Bool} {r:Nat} {k:Obj->Sem α}:(∀o,BT b (k o))->BT b (.getObj r k)
 |setObj {b:Bool} {r:Nat} {o:Obj} {k:Sem α}:BT b k->BT b (.setObj r o k)
 |choose {b:Bool} {q:Question} {k:Nat->Sem α}:(∀n,BT b (k n))->BT b (.choose q k)
 |sys {b:Bool} {c:Sys} {k:SysRet->Sem α}:(∀r,BT b (k r))->BT b (.sys c k)
 |program {b:Bool} {k:aB->Sem α}:(∀p,BT b (k p))->BT b (.program k)
 |mark {b:Bool} {m:Mark} {k:Sem α}:m≠.disable->m≠.enable->BT b k->BT b (.mark m k)
 |Dt {k:Sem α}:BT Z6 k->BT E (.mark .disable k)
 |en {k:Sem α}:BT E k->BT Z6 (.mark .enable k)
 |halt {b:Bool} {h:Halt}:BT b (.halt h)
def NM.bt{α β:Type}{s:Sem α}{f:α->Sem β}(h:NM s)(hf:∀a,BT b (f a)):BT b (s >>= f):=by
 show BT b (s.bind f);induction h with
 |pure=>exact hf _
 |load _ ih=>exact .load λv=>ih v
 |store _ ih=>exact .store ih
 |new _ ih=>exact .new λr=>ih r
 |shape _ ih=>exact .shape λs=>ih s
 |freeze _ ih=>exact .freeze ih
 |frozen _ ih=>exact .frozen λb=>ih b
 |getObj _ ih=>exact .getObj λo=>ih o
 |setObj _ ih=>exact .setObj ih
 |choose _ ih=>exact .choose λn=>ih n
 |sys _ ih=>exact .sys λn=>ih n
 |program _ ih=>exact .program λp=>ih p
 |mark h1 h2 _ ih=>exact .mark h1 h2 ih
 |halt=>exact .halt
def BT.deaf{α:Type}{s:Sem α}(h:BT b s)(d:Nat):∀{w:af} {es:Array aC} {a:α} {w':af} {es':Array aC},s.runT P w es=(.ok a w',es')->ad2 d es'=if b then ad2 d es-1 else ad2 d es:=by
 have push:∀{es:Array aC} {e:aC},e.loc≠.mark .disable->e.loc≠.mark .enable->ad2 d (es.push e)=ad2 d es:=λh1 h2=>by
  rw[deaf_push];unfold dE;split
  ·rename_i hh;exact absurd hh h1
  ·rename_i hh;exact absurd hh h2
  ·rfl
 induction h with
 |pure=>intro w es a w' es' hr;cases hr;rfl
 |load _ ih=>
  intro w es a w' es' hr;simp only[af2]at hr;split at hr
  ·rw[ih _ hr,push XI XI]
  ·split at hr
   ·rw[ih _ hr,AF]
   ·cases hr
 |store _ ih=>
  intro w es a w' es' hr;rename_i m c v k _;cases v<;>simp only[af2]at hr<;>first|(cases hr;done)|(split at hr<;>split at hr<;>first|(cases hr;done)|(rw[ih hr,push XI XI])|(rw[ih hr,AF]))
 |new _ ih=>intro w es a w' es' hr;exact ih _ hr
 |shape _ ih=>intro w es a w' es' hr;exact ih _ hr
 |freeze _ ih=>intro w es a w' es' hr;exact ih hr
 |frozen _ ih=>intro w es a w' es' hr;exact ih _ hr
 |getObj _ ih=>
  intro w es a w' es' hr;simp only[af2]at hr;split at hr
  ·cases hr
  ·rw[ih _ hr,push XI XI]
  ·cases hr
 |setObj _ ih=>
  intro w es a w' es' hr;simp only[af2]at hr;split at hr
  ·cases hr
  ·rw[ih hr,push XI XI]
  ·cases hr
 |choose _ ih=>intro w es a w' es' hr;simp only[af2]at hr;split at hr<;>exact ih _ hr
 |sys _ ih=>intro w es a w' es' hr;rw[ih _ hr,push XI XI]
 |program _ ih=>intro w es a w' es' hr;exact ih _ hr
 |mark h1 h2 _ ih=>intro w es a w' es' hr;rw[ih hr,push (by simpa using h1) (by simpa using h2)]
 |Dt _ ih=>
  intro w es a w' es' hr;rw[ih hr,deaf_push];simp[dE]
 |en _ ih=>
  intro w es a w' es' hr;rw[ih hr,deaf_push];simp[dE]
 |halt=>intro w es a w' es' hr;cases hr
def u5(h:∀e∈es,∀m,e.loc=.mark m->e.sync=Z6)(d:Nat):ad2 d (seen P f es)=ad2 d es:=by
 unfold seen;dsimp only;have key:∀(l:List aC) (q:Bool) (kept:Array aC),(∀e∈l,∀m,e.loc=.mark m->e.sync=Z6)->ad2 d (l.foldl (fun(x:Bool×Array aC) e=>match x with
  |(q,kept)=>match e.loc with
   |.mark (.extern f)=>((P.funcs[f]?).any (·.norace),kept)
   |_=>(q,if q && !e.sync then kept else kept.push e)) (q,kept)).2=l.foldl dE (ad2 d kept):=by
  intro l
  induction l with
  |nil=>intro q kept _;rfl
  |cons x l ih=>
   intro q kept hl;have hl':=λe he=>hl e (zbq _ he);simp only[aw3];split
   ·rename_i hh;rw[ih _ _ hl'];congr 1;unfold dE;rw[hh]
   ·rename_i hh;rw[ih _ _ hl'];congr 1;split
    ·rename_i hq;unfold dE;split
     ·rename_i h1;have:=hl x (zbz ..) _ h1;simp[this]at hq
     ·rename_i h1;have:=hl x (zbz ..) _ h1;simp[this]at hq
     ·rfl
    ·rw[deaf_push]
 rw[<-zbt];refine Eq.trans (key es.toList ((P.funcs[f]?).any (·.norace)) #[] (λe he=>h e (zbv.1 he))) ?_;show List.foldl dE d es.toList=Array.foldl _ d es;rw[zbt];rfl
def Ki{α:Type}(s:Sem α):∀{w:af} {es:Array aC},(∀e∈es,∀m,e.loc=.mark m->e.sync=Z6)->∀e∈(s.runT P w es).2,∀m,e.loc=.mark m->e.sync=Z6:=by
 have push:∀{es:Array aC} {e0:aC},(∀e∈es,∀m,e.loc=.mark m->e.sync=Z6)->(∀m,e0.loc=.mark m->e0.sync=Z6)->∀e∈es.push e0,∀m,e.loc=.mark m->e.sync=Z6:=λh h1 e he=>(Array.mem_push.1 he).elim (h e) λx=>x▸h1;have app:∀{es:Array aC} (l:List aA) (wr sy:Bool),(∀e∈es,∀m,e.loc=.mark m->e.sync=Z6)->∀e∈es++l.toArray.map (λa=>(⟨.cell a,wr,sy⟩:aC)),∀m,e.loc=.mark m->e.sync=Z6:=λl wr sy h e he=>by
  rcases Array.mem_append.1 he with h1|h1
  ·exact h e h1
  ·obtain⟨a,_,rfl⟩:=Array.mem_map.1 h1;intro m hm;cases hm
 induction s with
 |pure _=>intro w es h;exact h
 |load _ _ _ ih=>
  intro w es h;simp only[af2];split
  ·exact ih _ (push h (λm hm=>by cases hm))
  ·split
   ·exact ih _ (app _ _ _ h)
   ·exact h
 |store m a v k ih=>
  intro w es h;cases v<;>simp only[af2]<;>first|exact h|(split<;>first|(split<;>first|exact h|exact ih (push h (λm hm=>by cases hm))|exact ih (app _ _ _ h)))
 |new _ _ ih=>intro w es h;exact ih _ h
 |shape _ _ ih=>intro w es h;exact ih _ h
 |freeze _ _ _ ih=>intro w es h;exact ih h
 |frozen _ _ ih=>intro w es h;exact ih _ h
 |getObj _ _ ih=>
  intro w es h;simp only[af2];split
  ·exact h
  ·exact ih _ (push h (λm hm=>by cases hm))
  ·exact h
 |setObj _ _ _ ih=>
  intro w es h;simp only[af2];split
  ·exact h
  ·exact ih (push h (λm hm=>by cases hm))
  ·exact h
 |choose _ _ ih=>intro w es h;simp only[af2];split<;>exact ih _ h
 |sys _ _ ih=>intro w es h;exact ih _ (push h (λm hm=>by cases hm))
 |program _ ih=>intro w es h;exact ih _ h
 |mark _ _ ih=>intro w es h;exact ih (push h (λm hm=>rfl))
 |halt _=>intro w es h;exact h
def oP(hf:P.funcs[f]?=Y fn)(hname:(fn.name == "runtime.NumGoroutine")=E)(hb:fn.body.isNone=Z6)(hn:ai6 fn=F)(he:al9 fn=Y e)(args:Array aj)(w:af):
 (ak4 f args).runT P w #[]=(do pure (at6 (<-e args)):Sem Next).runT P w #[⟨.mark (.extern f),E,Z6⟩]:=by show af2 P (Sem.program λp=>_) w #[]=_;simp only[af2];show af2 P (match P.funcs[f]? with|none=>_|some fn=>_) w #[]=_;rw[hf];simp only[hname,hb,hn,he,aa6,if_false,if_true];rfl
def Zr(hf:P.funcs[f]?=Y fn)(hname:(fn.name == "runtime.NumGoroutine")=E)(hb:fn.body.isNone=Z6)(hn:ai6 fn=F)(he:al9 fn=Y e)
 (Ob:∀args,BT E (do pure (at6 (<-e args)):Sem Next)) (args:Array aj) (w:af) (n:Next) (w':af) (es:Array aC) (hr:(ak4 f args).runT P w #[]=(.ok n w',es)):(∃v,n=.value v)/\∀g d,ad2 d (seen P g es)=d:=by
 rw[oP hf hname hb hn he]at hr;have h0:∀e∈(#[⟨.mark (.extern f),E,Z6⟩]:Array aC),∀m,e.loc=.mark m->e.sync=Z6:=λe he m _=>by simp at he;rw[he]
 refine⟨?_,λg d=>?_⟩
 ·rcases(AG (e args)).out hr with h|h
  ·exact h
  ·subst h;have:=(ji (Q:=λn=>∃v,n=at6 v) (e args) (f:=λv=>bb4 (at6 v)) λ_=>.pure ⟨_,rfl⟩).out hr;exact this
 ·have h1:=Ki (P:=P) (do pure (at6 (<-e args)):Sem Next) (w:=w) h0;rw[hr]at h1;rw[u5 h1,(Ob args).deaf d hr];rfl
def BT.then{α β:Type}{s:Sem α}{f:α->Sem β}(h:BT b s)(hf:∀a,BT E (f a)):BT b (s >>= f):=by
 show BT b (s.bind f);induction h with
 |pure=>exact hf _
 |load _ ih=>exact .load λv=>ih v
 |store _ ih=>exact .store ih
 |new _ ih=>exact .new λr=>ih r
 |shape _ ih=>exact .shape λs=>ih s
 |freeze _ ih=>exact .freeze ih
 |frozen _ ih=>exact .frozen λb=>ih b
 |getObj _ ih=>exact .getObj λo=>ih o
 |setObj _ ih=>exact .setObj ih
 |choose _ ih=>exact .choose λn=>ih n
 |sys _ ih=>exact .sys λn=>ih n
 |program _ ih=>exact .program λp=>ih p
 |mark h1 h2 _ ih=>exact .mark h1 h2 ih
 |Dt _ ih=>exact .Dt ih
 |en _ ih=>exact .en ih
 |halt=>exact .halt
def Ef{s:Sem aj}(h:BT E s):BT E (do pure (at6 (<-s)):Sem Next):=h.then λ_=>.pure
def fM{s:Sem aj}(h:NM s):BT E (do pure (at6 (<-s)):Sem Next):=h.bt λ_=>.pure
def Su{β:Type}{f:Unit->Sem β}(h:BT Z6 (f ())):BT E (mark .disable >>= f):=.Dt h
def Sv{β:Type}{f:Unit->Sem β}(h:BT E (f ())):BT Z6 (mark .enable >>= f):=.en h
def Eg(t:aw1)(a:aA):NM (ay3 t a):=by unfold ay3;(repeat' (first|(with_reducible first|exact NM.pure' _|exact Lp ..|exact qH ..|refine NM.bind ?_ (λ_=>?_)|refine qI ?_ ?_)|dsimp only|split|intro _))
def Lq{α:Type}{f:α->Sem Bool}(h:∀a,NM (f a)):∀(l:List α),NM (l.anyM f)
 | []=>.pure
 |a :: l=>by
  unfold List.anyM;refine NM.bind (h a) λb=>?_;cases b
  ·exact Lq h l
  ·exact .pure
def wB(a:aA):NM (as6 a):=by unfold as6;repeat' (first|exact Lq (λ_=>rj _) _|(repeat' (first|(with_reducible first|exact rj ..|exact qH ..|exact Cy ..|exact GK ..|refine NM.bind ?_ (λ_=>?_)|refine qI ?_ ?_)|dsimp only|split|intro _)))
def Lr(t:aw1)(args:Array aj):NM (aq0 t args):=by
 rcases args with⟨_|⟨a0,_|⟨a1,_|⟨a2,_|⟨a3,l⟩⟩⟩⟩⟩ <;>first|exact NM.halt|skip
 refine NM.bind (lm a0) λa=>?_;repeat' (first|exact wB _|exact Eg ..|(repeat' (first|(with_reducible first|exact NM.pure' _|exact NM.halt|exact nT ..|exact iI ..|exact qH ..|exact AH ..|exact lm ..|refine NM.bind ?_ (λ_=>?_)|refine qI ?_ ?_)|dsimp only|split|intro _)))
def wD(op:IntKind->Int->Int->Sem aj)(hop:∀k x y,NM (op k x y))(k:IntKind)(b:Bool)(args:Array aj):NM (al4 op k b args):=by
 rcases args with⟨_|⟨a0,_|⟨a1,_|⟨a2,l⟩⟩⟩⟩ <;>first|exact NM.halt|skip
 refine NM.bind (lm a0) λa=>?_;repeat' (first|exact hop ..|exact Eg ..|(repeat' (first|(with_reducible first|exact NM.pure' _|exact NM.halt|exact nT ..|exact Sw ..|exact lm ..|refine NM.bind ?_ (λ_=>?_))|dsimp only|split|intro _)))
def adK(args:Array aj):NM (Extern.Race.at_ args):=by unfold Extern.Race.at_;(repeat' (first|(with_reducible first|exact NM.pure' _|exact iI ..)|dsimp only|split|intro _))
def ru(m:aA->Mark)(h1:∀a,m a≠.disable)(h2:∀a,m a≠.enable)(args:Array aj):NM (am7 m args):=NM.bind (adK args) λa=>.mark (h1 a) (h2 a) .pure
def Kj(args:Array aj):NM (au8 args):=by
 rcases args with⟨_|⟨a0,_|⟨a1,l⟩⟩⟩ <;>first|exact NM.halt|skip
 cases a0<;>first|exact NM.halt|skip
 show NM (if _ then _ else _);(repeat' (first|(with_reducible first|exact NM.pure' _|exact NM.halt|exact Cz ..|refine NM.bind ?_ (λ_=>?_)|refine qI ?_ ?_)|dsimp only|split|intro _))
def Kk(args:Array aj):NM (as5 args):=.pure
def Kl(h:String->Halt)(args:Array aj):NM (as2 h args):=by
 rcases args with⟨_|⟨a0,_|⟨a1,l⟩⟩⟩ <;>first|exact NM.halt|skip
 cases a0<;>first|exact NM.halt|skip
 rename_i s;show NM (match String.fromUTF8? s with|some m=>_|none=>_);(repeat' (first|(with_reducible first|exact NM.halt|exact qH ..)|dsimp only|split|intro _))
def VG(args:Array aj):NM (aq9 args):=by unfold aq9 bg8;(repeat' (first|(with_reducible first|exact NM.pure' _|exact Zs ..|exact iI ..|refine NM.bind ?_ (λ_=>?_))|dsimp only|split|intro _))
def GL(args:Array aj):NM (ay6 args):=by unfold ay6;(repeat' (first|(with_reducible first|exact NM.pure' _|exact Lp ..|exact iI ..|exact qH ..|refine NM.bind ?_ (λ_=>?_))|dsimp only|split|intro _))
def sn(args:Array aj):BT E (ak1 args):=by
 unfold ak1;refine Su ((GL args).bt λx=>?_);obtain⟨a,n⟩:=x;dsimp only;split
 ·exact NM.bt .halt λ_=>NM.bt (nT ..) λ_=>Sv .pure
 ·exact NM.bt (nT ..) λ_=>Sv .pure
def su(args:Array aj):BT E (al3 args):=by unfold al3;refine Su ((GL args).bt λx=>?_);obtain⟨a,n⟩:=x;exact NM.bt (qJ ..) λ_=>NM.bt (nT ..) λ_=>Sv .pure
def GM(hf:P.funcs[f]?=Y fn)(hname:(fn.name == "runtime.NumGoroutine")=E)(hb:fn.body.isNone=Z6)(hn:ai6 fn=F)(he:al9 fn=Y (λ_=>do mark m;pure Extern.Race.none_))
 (hδ:∀d,dE d ⟨.mark m,E,Z6⟩=δ d) (args:Array aj) (w:af) (n:Next) (w':af) (es:Array aC) (hr:(ak4 f args).runT P w #[]=(.ok n w',es)):(∃v,n=.value v)/\∀g d,ad2 d (seen P g es)=δ d:=by rw[oP hf hname hb hn he]at hr;have e:(do pure (at6 (<-(do mark m;pure Extern.Race.none_:Sem aj))):Sem Next).runT P w #[⟨.mark (.extern f),E,Z6⟩]=(.ok (.value Extern.Race.none_) w,#[⟨.mark (.extern f),E,Z6⟩,⟨.mark m,E,Z6⟩]):=rfl;rw[e]at hr;cases hr;refine⟨⟨_,rfl⟩,λg d=>?_⟩;rw[u5 (λe he m _=>by simp at he;rcases he with rfl|rfl<;>rfl),<-hδ];rfl
def VH(hf:P.funcs[f]?=Y fn)(hname:(fn.name == "runtime.NumGoroutine")=E)(hb:fn.body.isNone=Z6)(hn:ai6 fn=F)(he:al9 fn=Y (λ_=>do mark m;pure Extern.Race.none_))
 (hδ:∀d,dE d ⟨.mark m,E,Z6⟩=δ d) (args:Array aj) (w:af):∃v es,(ak4 f args).runT P w #[]=(.ok (.value v) w,es)/\∀g d,ad2 d (seen P g es)=δ d:=by
 have e:(ak4 f args).runT P w #[]=(.ok (.value Extern.Race.none_) w,#[⟨.mark (.extern f),E,Z6⟩,⟨.mark m,E,Z6⟩]):=by rw[oP hf hname hb hn he];rfl
 exact⟨_,_,e,(GM hf hname hb hn he hδ args w _ _ _ e).2⟩
def Sy(t:aw1)(args:Array aj):NM (au9 t args):=by
 rcases args with⟨_|⟨a0,_|⟨a1,l⟩⟩⟩ <;>first|exact NM.halt|skip
 exact NM.bind (lm a0) λa=>Eg ..
def NT(args:Array aj):NM (ax1 args):=by
 rcases args with⟨_|⟨a0,_|⟨a1,_|⟨a2,l⟩⟩⟩⟩ <;>first|exact NM.halt|skip
 exact NM.bind (lm a0) λa=>NM.bind (nT ..) λ_=>.pure
variable {P:aB}{Sb:Nat->Prop}{qt:Prop}
def Gp{α:Type}{s:Sem α}{x:α}(h:∀(w:af) (es:Array aC),s.runT P w es=(.ok x w,es)):aG P Sb qt s:=by constructor;intro v w y v' hs hr hg es;rw[<-an8 P s v #[],h]at hr;cases hr;exact⟨w,es,h w es,hs,rfl,I,λe he=>.inl he⟩
def Gq{c:Code}(h1:P.funcs[f]?=Y fn)(h2:(fn.name == "runtime.NumGoroutine")=E)(h3:fn.body=Y c)(args:Array aj):aG P Sb qt (ak4 f args):=Gp (fT h1 h2 h3 args)
def rZ(hf:P.funcs[f]?=Y fn)(hname:(fn.name == "runtime.NumGoroutine")=E)(hb:fn.body.isNone=Z6)(hn:ai6 fn=F)(he:al9 fn=Y e)(args:Array aj)(w:af)(es:Array aC):
 (ak4 f args).runT P w es=(do pure (at6 (<-e args)):Sem Next).runT P w (es.push ⟨.mark (.extern f),E,Z6⟩):=by show af2 P (Sem.program λp=>_) w es=_;simp only[af2];show af2 P (match P.funcs[f]? with|none=>_|some fn=>_) w es=_;rw[hf];simp only[hname,hb,hn,he,aa6,if_false,if_true];rfl
def Y1(hf:P.funcs[f]?=Y fn)(hname:(fn.name == "runtime.NumGoroutine")=E)(hb:fn.body.isNone=Z6)(hn:ai6 fn=F)(he:al9 fn=Y e)(h:∀args,aG P Sb False (e args))(args:Array aj):aG P Sb False (ak4 f args):=by constructor;intro v w y v' hs hr hg es;rw[<-an8 P _ v #[],rZ hf hname hb hn he,an8]at hr;obtain⟨w',es',h1,h2,h3,h4,h5⟩:=(dw (h args)).zP hs hr hg (es.push ⟨.mark (.extern f),E,Z6⟩);exact⟨w',es',by rw[rZ hf hname hb hn he];exact h1,h2,h3,h4,mC (F8 _ _ _ (λh=>h.elim)) h5⟩
def oL(m:Mark):aG P Sb False (mark m):=qz (λh=>h.elim) .pure
def DV(t:aw1)(a:aA):aG P Sb qt (ay3 t a):=by unfold ay3;exact dx
def Lc{α:Type}{f:α->Sem Bool}(h:∀a,aG P Sb qt (f a)):∀(l:List α),aG P Sb qt (l.anyM f)
 | []=>aG.pure
 |a :: l=>by
  unfold List.anyM;refine aG.bind (h a) λb=>?_;cases b
  ·exact Lc h l
  ·exact aG.pure
def wo(a:aA):aG P Sb qt (as6 a):=by unfold as6;repeat' (first|exact Lc (λ_=>vP _) _|(repeat' (first|(with_reducible first|exact vP ..|exact Cf ..|exact mF ..|exact mG|refine aG.bind ?_ (λ_=>?_)|refine Ak ?_ ?_)|dsimp only|split|intro _)))
def K5(t:aw1)(args:Array aj):aG P Sb qt (aq0 t args):=by
 rcases args with⟨_|⟨a0,_|⟨a1,_|⟨a2,_|⟨a3,l⟩⟩⟩⟩⟩ <;>first|exact aG.halt|skip
 refine aG.bind (gM a0) λa=>?_;repeat' (first|exact wo _|exact DV ..|(repeat' (first|(with_reducible first|exact aG.pure' _|exact aG.halt|exact kr ..|exact qA ..|exact gM ..|refine oK ?_|exact rY|exact mG|refine aG.bind ?_ (λ_=>?_)|refine Ak ?_ ?_)|dsimp only|split|intro _)))
def vO(op:IntKind->Int->Int->Sem aj)(hop:∀k x y,aG P Sb qt (op k x y))(k:IntKind)(b:Bool)(args:Array aj):aG P Sb qt (al4 op k b args):=by
 rcases args with⟨_|⟨a0,_|⟨a1,_|⟨a2,l⟩⟩⟩⟩ <;>first|exact aG.halt|skip
 refine aG.bind (gM a0) λa=>?_;repeat' (first|exact hop ..|exact DV ..|(repeat' (first|(with_reducible first|exact aG.pure' _|exact aG.halt|exact kr ..|exact uN ..|exact gM ..|refine aG.bind ?_ (λ_=>?_))|dsimp only|split|intro _)))
def ac5(args:Array aj):aG P Sb qt (Extern.Race.at_ args):=by unfold Extern.Race.at_;exact dx
def qW(m:aA->Mark)(args:Array aj):aG P Sb False (am7 m args):=aG.bind (ac5 args) λa=>aG.bind (oL _) λ_=>aG.pure
def JC(args:Array aj):aG P Sb qt (au8 args):=by
 rcases args with⟨_|⟨a0,_|⟨a1,l⟩⟩⟩ <;>first|exact aG.halt|skip
 cases a0<;>first|exact aG.halt|skip
 show aG P Sb qt (if _ then _ else _);exact dx
def JD(args:Array aj):aG P Sb qt (as5 args):=aG.pure
def JE(h:String->Halt)(args:Array aj):aG P Sb qt (as2 h args):=by
 rcases args with⟨_|⟨a0,_|⟨a1,l⟩⟩⟩ <;>first|exact aG.halt|skip
 cases a0<;>first|exact aG.halt|skip
 rename_i s;show aG P Sb qt (match String.fromUTF8? s with|some m=>_|none=>_);exact dx
def RQ:aG P Sb qt (sys (.clock 1)):=by
 constructor;intro v w x v' hs hr hg es;have e:∀(w:af) (es:Array aC),(sys (.clock 1)).runT P w es=(.ok (.int ((w.os.mono+w.tick:Nat):Int)) w.later,es.push ⟨.output,Z6,E⟩):=λw es=>rfl;rw[<-an8 P _ v #[],e]at hr;simp only[Result.ok.injEq]at hr;obtain⟨rfl,rfl⟩:=hr;have hd:v.later.drawn=v.drawn+1:=rfl;have ht:w.tick=v.tick:=by unfold World.tick;have h0:=hg 0 (by rw[hd];omega) (.extern "clock.advance" 0);simp only[Nat.add_zero]at h0;rw[h0]
 refine⟨w.later,_,by rw[e,ht,hs.os],?_,rfl,by rw[hd];show w.drawn+1=_;omega,mC ⟨λx a hx hl=>?_,λ_=>⟨XI,XI⟩⟩ λe he=>.inl he⟩
 ·refine⟨hs.size,hs.same,hs.gZ,?_,hs.out⟩;show ({v.os with wall:=v.os.wall+v.tick,mono:=v.os.mono+v.tick}:Os)={w.os with wall:=w.os.wall+w.tick,mono:=w.os.mono+w.tick};rw[ht,hs.os]
 ·simp[ag8,aw5]at hx;subst hx;cases hl
def U0(args:Array aj):aG P Sb qt (aq9 args):=by unfold aq9 bg8;repeat' (first|exact RQ|(repeat' (first|(with_reducible first|exact aG.pure' _|exact nG ..|refine aG.bind ?_ (λ_=>?_))|dsimp only|split|intro _)))
def Gr(args:Array aj):aG P Sb qt (ay6 args):=by unfold ay6;exact dx
def rS(args:Array aj):aG P Sb False (ak1 args):=by
 unfold ak1;refine aG.bind (oL _) λ_=>aG.bind (Gr args) λx=>?_;obtain⟨a,n⟩:=x;dsimp only;split
 ·exact aG.bind aG.halt λ_=>aG.bind (kr ..) λ_=>aG.bind (oL _) λ_=>aG.pure
 ·exact aG.bind (kr ..) λ_=>aG.bind (oL _) λ_=>aG.pure
def rT(args:Array aj):aG P Sb False (al3 args):=by unfold al3;refine aG.bind (oL _) λ_=>aG.bind (Gr args) λx=>?_;obtain⟨a,n⟩:=x;exact aG.bind (mE ..) λ_=>aG.bind (kr ..) λ_=>aG.bind (oL _) λ_=>aG.pure
def Rz(t:aw1)(args:Array aj):aG P Sb qt (au9 t args):=by
 rcases args with⟨_|⟨a0,_|⟨a1,l⟩⟩⟩ <;>first|exact aG.halt|skip
 exact aG.bind (gM a0) λa=>DV ..
def Nd(args:Array aj):aG P Sb qt (ax1 args):=by
 rcases args with⟨_|⟨a0,_|⟨a1,_|⟨a2,l⟩⟩⟩⟩ <;>first|exact aG.halt|skip
 exact aG.bind (gM a0) λa=>aG.bind (kr ..) λ_=>aG.pure
def RE(m:Mark)(x:aj):aG P Sb False (do mark m;pure x:Sem aj):=aG.bind (oL m) λ_=>aG.pure
end
section
open Go Go.Conc
section
variable {P:aB}{T:gV}
def IU(hT:iG P T){a b:Nat}(hi:T.kC f a=Y b)(h2:a<2)(args:Array aj)(ha:∀n∈T.wU f,wA T (args.getD n undef)):AP T a (af0 P f args .normal) []:=by
 obtain⟨fn,c,h1,_,h3,r,h4,h5⟩:=hT.kC f a b hi;refine⟨b,⟨⟨rfl,(λx hx=>by simp[af0]at hx),.inl rfl,⟨a,hi⟩,.inr (.inl rfl)⟩,?_⟩,rfl⟩;show nN T a _ b;refine⟨λn hn=>?_,a, [],Nat.mod_eq_of_lt h2,?_,?_⟩
 ·simp only[af0]at hn⊢;have:=ha n hn;rw[zbu]at this⊢;rw[aw7];split
  ·exact this
  ·cases hx:(ap6 ((P.funcs[f]?.map (·.ntmps)).getD 0-args.size) undef)[n-args.size]? with
   |none=>exact fL
   |some y=>
    rw[bd3]at hx;split at hx
    ·cases hx;exact fL
    ·cases hx
 ·rw[Nat.div_eq_of_lt h2];unfold py;split<;>rfl
 ·show pe T f b [.code _] a [];rw[h1];simp only[at4,h3,aa0];exact⟨r,h4,rfl,λe he=>⟨h5 e he,rfl⟩⟩
end
section
variable {P:aB}{Sb:Nat->Prop}{α β:Type}
def aG.Wy{s:Sem α}{f:α->Sem β}(h:aG P Sb False s)(hf:∀a v v',s.run P v=.ok a v'->aG P Sb False (f a)):aG P Sb False (s >>= f):=by
 constructor;intro v w x v' hs hr hg es;rw[run_bind]at hr;cases h1:s.run P v with
 |halt _ _=>rw[h1]at hr;cases hr
 |ok a v1=>
  rw[h1]at hr;simp only at hr;obtain⟨t1,d1⟩:=nF s h1;obtain⟨t2,d2⟩:=nF (f a) hr;obtain⟨w1,xO,q1,q2,q3,q4,q5⟩:=h.zP hs h1 (λk hk q=>hg k I q) es;obtain⟨w2,yu,r1,r2,r3,r4,r5⟩:=(hf a v v1 h1).zP q2 hr (λk hk q=>by have:=hg (k+(v1.drawn-v.drawn)) I q;rw[t1,q3,q4,show v1.drawn+k=v.drawn+(k+(v1.drawn-v.drawn)) by omega,show w.drawn+(v1.drawn-v.drawn)+k=w.drawn+(k+(v1.drawn-v.drawn)) by omega];exact this) xO
  refine⟨w2,yu,by rw[fW,q1];exact r1,r2,r3.trans q3,I,λe he=>?_⟩;rcases r5 e he with h3|h3
  ·exact q5 e h3
  ·exact .inr h3
end
structure oW(P:aB)(T:gV)(Sb:Nat->Prop):Prop where
 sda:P.follows .staticDataAhead=Z6
 ext:∀f,T.ext f=Z6->∀args,aG P Sb False (ak4 f args)
 Dt:∀args,aG P Sb False (ak4 T.Dt args)
 en:∀args,aG P Sb False (ak4 T.en args)
def StepT(P:aB)(Sb:Nat->Prop)(fr:ak)(c:List ak):Prop:=∃(α:Type) (s:Sem α),aG P Sb False s/\∀(cs:List ak),
 (∀w x w' es,s.runT P w #[]=(.ok x w',es)->∀gC c1 w1 xO,stepG P Z6 (G fr (c++cs)) w=.go (G gC c1) w1 xO->w1=w'/\∀u u' es',s.runT P u #[]=(.ok x u',es')->stepG P Z6 (G fr (c++cs)) u=.go (G gC c1) u' (seen P fr.fn es'))/\
 (∀w h w' es,s.runT P w #[]=(.halt h w',es)->∀gC c1 w1 xO,stepG P Z6 (G fr (c++cs)) w=.go (G gC (c1++cs)) w1 xO->¬iY gC c1)
section
variable {P:aB}{T:gV}{Sb:Nat->Prop}{d out:Nat}{fr:ak}{c:List ak}
def cx(h:∀cs w,stepG P Z6 (G fr (c++cs)) w=.go (G gC (c1++cs)) w #[]):StepT P Sb fr c:=by refine⟨Unit,.pure (),aG.pure,λcs=>⟨λw x w' es hr gC c1 w1 xO hs=>?_,λw h w' es hr=>by cases hr⟩⟩;cases hr;rw[h]at hs;cases hs;refine⟨rfl,λu u' es' hu=>?_⟩;cases hu;exact h cs u
def xh(h:∀cs w,∃o w' es,stepG P Z6 (G fr (c++cs)) w=.ended o w' es):StepT P Sb fr c:=by refine⟨Unit,.pure (),aG.pure,λcs=>⟨λw x w' es hr gC c1 w1 xO hs=>?_,λw h w' es hr=>by cases hr⟩⟩;obtain⟨o,w2,yu,he⟩:=h cs w;rw[he]at hs;cases hs
def Ns(hst:∀g,P.stepOf g=F)(rF:P.follows .staticDataAhead=Z6)(g:Nat)(w:af)(cs:List ak):∃o w' es,early P fr cs F g w=.ended o w' es:=by unfold early;simp only[rF,hst,ay1,aa6,if_false];exact⟨_,_,_,rfl⟩
def RR(hst:∀g,P.stepOf g=F)(rF:P.follows .staticDataAhead=Z6)(hk:fr.kind=.normal\/fr.kind=.deferred)(hr:s.runT P w #[]=(.halt h w',es))(cs:List ak)(hs:ad9 P Z6 fr (c++cs) F s w=.go (G gC (c1++cs)) w1 xO)(hm:fr.mode=.run):¬iY gC c1:=by
 have dead:∀{x:GStep},uV x->x=.go (G gC (c1++cs)) w1 xO->False:=λhd he=>by
  rcases hd with⟨o,w2,yu,h1⟩|⟨g',w2,yu,h1,h2⟩|⟨g',g2,w2,yu,h1⟩
  ·rw[h1]at he;cases he
  ·rw[h1]at he;cases he;rcases h2 with h2|h2|⟨_,d,f,h2,_⟩ <;>cases h2
  ·rw[h1]at he;cases he
 by_cases hu:∃g,h=.unsupported (.initOrder g)
 ·obtain⟨g,rfl⟩:=hu;exfalso;have ID:(fr.kind == ay8)=E:=by rcases hk with h|h<;>rw[h]<;>rfl
  simp only[ad9,if_true,hr,ID,aa6,if_false]at hs;obtain⟨o,w2,yu,he⟩:=Ns (fr:=fr) hst rF g w' (c++cs);rw[he]at hs;cases hs
 ·rcases Am (fr:=fr) hst hk hr with⟨e,es',he,hg⟩|⟨w2,hg⟩|hg
  ·rw[hg]at hs;have e0:fr.raise [e]={fr with mode:=.panicking [e]}:=by unfold ay4;rw[hm]
   rw[e0]at hs;simp only[av1]at hs;have hf:gC={fr with mode:=.panicking [e]}:=by have:=congrArg Goroutine.frame hs.1;exact this.symm
   intro hn;exact hn gC (zbz ..) [e] (by rw[hf])
  ·exfalso;cases h with
   |unsupported u=>
    have l5:=hg (c++cs);simp only[ad9,if_true,hr]at l5;cases u with
    |initOrder g=>exact hu ⟨g,rfl⟩
    |_=>cases l5
   |panic v=>
    have l5:=hg (c++cs);simp only[ad9,if_true,hr,aj6]at l5;simp only[av1]at l5;have e1:=congrArg (λg=>g.frame.mode) l5.1;simp only[G,ay4,hm]at e1;cases e1
   |goexit=>
    have l5:=hg (c++cs);simp only[ad9,if_true,hr,aj6]at l5;simp only[av1]at l5;have e1:=congrArg (λg=>g.frame.mode) l5.1;simp only[G,ay4,hm]at e1;cases e1
   |fatal m=>
    have l5:=hg (c++cs);simp only[ad9,if_true,hr]at l5;rcases(Ao (P:=P) fr (c++cs) m w').after (seen P fr.fn (if fr.kind == .early then #[]else es))with⟨o,w3,Va,h1⟩|⟨g',w3,Va,h1,h2⟩|⟨g',g2,w3,Va,h1⟩
    ·rw[h1]at l5;cases l5
    ·rw[h1]at l5;cases l5;rcases h2 with h2|h2|⟨_,d,f,h2,_⟩ <;>cases h2
    ·rw[h1]at l5;cases l5
   |throw m=>
    have l5:=hg (c++cs);simp only[ad9,if_true,hr]at l5;rcases(oM fr [] m E w').after (seen P fr.fn (if fr.kind == .early then #[]else es))with⟨o,w3,Va,h1⟩|⟨g',w3,Va,h1,h2⟩|⟨g',g2,w3,Va,h1⟩
    ·exact absurd (h1.symm.trans l5) (by intro h;cases h)
    ·have h3:=h1.symm.trans l5;cases h3;rcases h2 with h2|h2|⟨_,d,f,h2,_⟩ <;>cases h2
    ·exact absurd (h1.symm.trans l5) (by intro h;cases h)
   |blocked=>
    have l5:=hg (c++cs);simp only[ad9,if_true,hr,aj6]at l5;cases l5
   |waiting=>
    have l5:=hg (c++cs);simp only[ad9,if_true,hr,aj6]at l5;cases l5
   |_=>
    have l5:=hg (c++cs);simp only[ad9,if_true,hr]at l5;cases l5
  ·exact λ_=>dead (hg (c++cs)) hs
def Ck{n:Next}(Ww:∀d,n≠Next.spawn d)(hk:fr.kind=.normal\/fr.kind=.deferred){v:af}{esv esw:Array aC}(hv:s.runT P v #[]=(.ok n v1,esv))(hw:s.runT P w #[]=(.ok n w1,esw))(h:ad9 P Z6 fr cs F s v=.go g1 v2 es):v2=v1/\ad9 P Z6 fr cs F s w=.go g1 w1 (seen P fr.fn esw):=by
 have ID:(fr.kind == ay8)=E:=by rcases hk with h|h<;>rw[h]<;>rfl
 simp only[ad9,if_true,hv,ID,aa6,if_false]at h;simp only[ad9,if_true,hw,ID,aa6,if_false];cases n<;>simp only at h⊢<;>(repeat' (split at h)) <;>first
  |(simp only[aj6,av1]at h⊢;obtain⟨h1,h2,h3⟩:=h;exact⟨h2.symm,h1,trivial,XI⟩)
  |(simp[aj6]at h;done)
  |exact absurd rfl (Ww _)
end
section
variable {P:aB}{T:gV}{Sb:Nat->Prop}{d out:Nat}{fr:ak}{c:List ak}
def Bw(hT:iG P T){s:String}(hs:T.JQ s=Z6)(v:aj)(args:Array aj):aG P Sb False (callMethod v s args):=by
 cases v with
 |iface t x=>
  have e0:callMethod (.iface t x) s args=(do let (f,receiver)<-method ((<-program).types.size+az5) t x s;ak4 f (#[receiver]++args)):=rfl;rw[e0];refine aG.Wy sS λp v v' hp=>?_;refine aG.Wy (wu ..) λfx v1 v2 hr=>?_;obtain⟨f,rc⟩:=fx;obtain⟨r,es,hr'⟩:∃r es,(method (p.types.size+az5) t x s).runT P v1 #[]=(r,es):=⟨_,_,rfl⟩
  have e1:r=.ok (f,rc) v2:=by have:=an8 P (method (p.types.size+az5) t x s) v1 #[];rw[hr',hr]at this;exact this
  subst e1;obtain⟨g1,g2⟩:=hT.JQ s f hs (oN _ hr');obtain⟨fn,c,q1,q2,q3,_⟩:=hT.kC f 0 0 g1;exact Gq q1 q2 q3 _
 |nilIface=>
  show aG P Sb False (ar8 RuntimeError.nilDeref);exact iV _
 |_=>exact aG.halt
def JR(ρ:aD->aj)(cl:Call)(t:az):aG P Sb False (resolve ρ cl t):=by
 unfold resolve;dsimp only;split
 ·exact aG.pure
 ·exact aG.pure
 ·unfold am1;split
  ·exact aG.pure
  ·exact aG.pure
  ·exact aG.halt
def ac7(hT:iG P T)(hG:oW P T Sb)(hr:nN T d fr out){s s1:Nat}(h1:T.uh fr.fn o s=Y s1):aG P Sb False (ad6 fr.eval o):=by
 have body:∀f a b args,T.kC f a=Y b->aG P Sb False (ak4 f args):=λf a b args hi=>by obtain⟨fn,cc,g1,g2,g3,_⟩:=hT.kC f a b hi;exact Gq g1 g2 g3 args
 unfold gV.uh at h1;cases hop:o.op with
 |call cl=>
  rw[hop]at h1;simp only at h1;split at h1
  ·cases h1
  ·cases hc:cl.callee with
   |invoke r nm=>
    rw[hc]at h1;simp only at h1;split at h1
    ·rename_i hh;rw[xj hop hc];exact Bw hT hh.1 _ _
    ·cases h1
   |builtin b=>
    rw[hc]at h1;simp only at h1;split at h1
    ·rename_i hb;rw[uW hop hc];exact Al hb ..
    ·cases h1
   |value x=>
    cases x with
    |tmp m=>
     rw[hc]at h1;simp only at h1;split at h1
     ·rename_i hh;have qO:=hr.wU m (by simpa using hh.1);cases hv:fr.tmps.getD m undef with
      |func fn a b=>
       have hfn:=qO fn a b hv;rw[Gs (T:=T) hop hc hv hfn];exact body _ _ _ _ hT.cf.1
      |_=>
       refine .qU ⟨λv x v' hx=>?_⟩;obtain⟨r,es,hr'⟩:∃r es,(ad6 fr.eval o).runT P v #[]=(r,es):=⟨_,_,rfl⟩
       have e1:r=.ok x v':=by have:=an8 P (ad6 fr.eval o) v #[];rw[hr',hx]at this;exact this
       subst e1;exact xl hop hc (λfn a b=>by rw[hv];intro h;cases h) hr'
     ·cases h1
    |func f=>
     rw[hc]at h1;simp only at h1;split at h1
     ·obtain⟨e,Cl,h1⟩:=zbr.1 h1;rw[Cm (fr:=fr) (o:=o) hop hc];unfold gV.fD at Cl;split at Cl
      ·rename_i RU;subst RU;exact hG.Dt _
      ·split at Cl
       ·rename_i _ RU;subst RU;exact hG.en _
       ·split at Cl
        ·rename_i hx;exact hG.ext f hx _
        ·exact body _ _ _ _ Cl
     ·cases h1
    |_=>rw[hc]at h1;cases h1
 |go cl=>
  unfold ad6;rw[hop];exact aG.bind (JR ..) λ_=>aG.pure
 |defer cl=>
  rw[hop]at h1;simp only at h1;cases hc:cl.callee with
  |value x=>
   cases x with
   |func f=>exact Gp λw es=>Ap hop hc es
   |_=>rw[hc]at h1;cases h1
  |_=>rw[hc]at h1;cases h1
 |move x=>exact uT (by rw[hop];rfl)
 |assign x=>exact uT (by rw[hop];rfl)
 |makeFunc fn a b=>exact uT (by rw[hop];rfl)
 |_=>
  rw[hop]at h1;simp only at h1;split at h1
  ·rename_i hh;exact uT (by rw[hop];exact hh.1)
  ·cases h1
def RV(hT:iG P T)(hG:oW P T Sb)(hf:sj T fr out)(hr:nN T d fr out)(hm:fr.mode=.run)(hop:Y5 fr):StepT P Sb fr c:=by
 obtain⟨ops,i,is,k,ht⟩:=hop;obtain⟨s,X,rF,uE,hk⟩:=hr.ok;rw[ht]at hk;cases ho:ops[i]? with
 |none=>exact cx (c1:=c) λcs w=>j5 hf hm ht (by rw[ho];rfl) _
 |some o=>
  obtain⟨s1,h1,h2,h3⟩:=RY hk ho;cases Ld:ac3 o (ai5 ops fr.tmps)with
  |false=>exact cx (c1:=c) λcs w=>j5 hf hm ht (by rw[ho];exact Ld) _
  |true=>
   have hs:∀cs w,stepG P Z6 (G fr cs) w=ad9 P Z6 fr cs F (ad6 fr.eval o) w:=λcs w=>Cn hf hm ht ho Ld cs;refine⟨Next,ad6 fr.eval o,ac7 hT hG hr h1,λcs=>⟨λw x w' es hrun gC c1 w1 xO hst=>?_,λw h w' es hrun gC c1 w1 xO hst=>?_⟩⟩
   ·rw[hs]at hst;by_cases hsp:∃d,x=Next.spawn d
    ·obtain⟨dd,rfl⟩:=hsp;exfalso;rcases xp (fr:=fr) hrun (c++cs)with⟨o,w2,yu,h1⟩|⟨g',w2,yu,h1,h2⟩|⟨g',g2,w2,yu,h1⟩
     ·rw[h1]at hst;cases hst
     ·rw[h1]at hst;cases hst;rcases h2 with h2|h2|⟨_,d,f,h2,_⟩ <;>cases h2
     ·rw[h1]at hst;cases hst
    ·have Ww:∀d,x≠Next.spawn d:=λd e=>hsp ⟨d,e⟩;refine⟨(Ck Ww hf.kind hrun hrun hst).1,λu u' es' hu=>?_⟩;rw[hs];exact(Ck Ww hf.kind hrun hu hst).2
   ·rw[hs]at hst;exact RR hT.pS hG.sda hf.kind hrun cs hst hm
def Nt(hT:iG P T)(hG:oW P T Sb)(hf:sj T fr out)(hr:nN T d fr out)(hm:fr.mode=.run):StepT P Sb fr c:=by
 have EY:=hr;have hf0:=hf;obtain⟨s,X,rF,uE,hk⟩:=hr.ok;obtain⟨fn,tmps,todo,defers,mode,kind,ro⟩:=fr;obtain rfl:ro=F:=hf.round;obtain rfl:mode=.run:=hm;simp only at hk hf hr uE;cases todo with
 |nil=>exact cx (gC:={fn,tmps,todo:= [],defers,mode:=.returning,kind,roundOf:=F}) (c1:=c) λcs w=>rfl
 |cons i k=>
  cases i with
  |inBlock id=>exact cx (gC:={fn,tmps,todo:=k,defers,mode:=.run,kind,roundOf:=F}) (c1:=c) λcs w=>rfl
  |inLoop a=>exact cx (gC:={fn,tmps,todo:=.code a :: .inLoop a :: k,defers,mode:=.run,kind,roundOf:=F}) (c1:=c) λcs w=>rfl
  |inRegion ops is=>
   cases is with
   |nil=>exact cx (gC:={fn,tmps,todo:=k,defers,mode:=.run,kind,roundOf:=F}) (c1:=c) λcs w=>rfl
   |cons j is=>exact RV hT hG hf0 EY rfl ⟨ops,j,is,k,rfl⟩
  |code cd=>
   cases cd with
   |skip=>exact cx (gC:={fn,tmps,todo:=k,defers,mode:=.run,kind,roundOf:=F}) (c1:=c) λcs w=>rfl
   |ret=>exact cx (gC:={fn,tmps,todo:=.code .ret :: k,defers,mode:=.returning,kind,roundOf:=F}) (c1:=c) λcs w=>rfl
   |seq a b=>exact cx (gC:={fn,tmps,todo:=.code a :: .code b :: k,defers,mode:=.run,kind,roundOf:=F}) (c1:=c) λcs w=>rfl
   |cond cd a b=>
    by_cases hc:∃q,(bf8 fn tmps (.code (.cond cd a b):: k) defers .run kind F).eval cd=.bool q
    ·obtain⟨q,hq⟩:=hc;exact cx (gC:={fn,tmps,todo:=.code (if q then a else b):: k,defers,mode:=.run,kind,roundOf:=F}) (c1:=c) λcs w=>by simp only[stepG,G,as0,hq]
    ·refine xh λcs w=>⟨.stuck "cond: bool expected" ((bf8 fn tmps (.code (.cond cd a b):: k) defers .run kind F).pos P),w,#[],?_⟩
     simp only[stepG,G,as0];split
     ·rename_i q hq;exact absurd ⟨q,hq⟩ hc
     ·rfl
   |block id a=>exact cx (gC:={fn,tmps,todo:=.code a :: .inBlock id :: k,defers,mode:=.run,kind,roundOf:=F}) (c1:=c) λcs w=>rfl
   |loop a=>exact cx (gC:={fn,tmps,todo:=.code a :: .inLoop a :: k,defers,mode:=.run,kind,roundOf:=F}) (c1:=c) λcs w=>rfl
   |exit id=>
    cases he:exitTo id k with
    |some k'=>
     exact cx (gC:={fn,tmps,todo:=k',defers,mode:=.run,kind,roundOf:=F}) (c1:=c) λcs w=>by simp only[stepG,G,as0,he,bc7]
    |none=>
     refine xh λcs w=>⟨.stuck "exit, goto: no such block or label" ((bf8 fn tmps (.code (.exit id):: k) defers .run kind F).pos P),w,#[],?_⟩
     simp only[stepG,G,as0,he,bc7];rfl
   |region id ops draw=>
    cases draw with
    |false=>exact cx (gC:={fn,tmps,todo:=.inRegion ops (List.range ops.size):: k,defers,mode:=.run,kind,roundOf:=F}) (c1:=c) λcs w=>rfl
    |true=>
     have hst:∀cs (w:af),stepG P Z6 (G ⟨fn,tmps,.code (.region id ops Z6):: k,defers,.run,kind,F⟩ (c++cs)) w=.go (G ⟨fn,tmps,.inRegion ops (Region.schedule (P.follows .mixedOrders) ops (ba8 (.order fn id) (w.tape w.drawn (.order fn id)))):: k,defers,.run,kind,F⟩ (c++cs)) {w with drawn:=w.drawn+1} #[]:=λcs w=>by
      have hx:(choose (.order fn id)).run P w=.ok (ba8 (.order fn id) (w.tape w.drawn (.order fn id))) {w with drawn:=w.drawn+1}:=by simp[choose,ak0,Question.forced]
      simp only[stepG,G,as0,hx,ay1,aa6,if_false]
     have hrt:∀(w:af),(choose (.order fn id)).runT P w #[]=(.ok (ba8 (.order fn id) (w.tape w.drawn (.order fn id))) {w with drawn:=w.drawn+1},#[]):=λw=>rfl;refine⟨Nat,choose (.order fn id),vQ _,λcs=>⟨λw x w' es hrun gC c1 w1 xO hs=>?_,λw h w' es hrun=>by rw[hrt]at hrun;cases hrun⟩⟩;rw[hrt]at hrun;cases hrun;rw[hst]at hs;cases hs;refine⟨rfl,λu u' es' hu=>?_⟩;rw[hrt]at hu;simp only[Prod.mk.injEq,Result.ok.injEq]at hu;obtain⟨⟨h1,h2⟩,h3⟩:=hu;subst h2 h3;rw[hst,h1];rfl
   |_=>obtain⟨r,h1,_⟩:=hk;simp[gV.ck]at h1
  |_=>exact hk.elim
def DW(hT:iG P T)(hG:oW P T Sb)(hf:sj T fr out)(hw:Wt T fr.kind out c)(hm:fr.mode≠.run)(hl:¬Leave fr c):StepT P Sb fr c:=by
 have hu:∀cs w,stepG P Z6 (G fr cs) w=unwind P Z6 fr cs F w:=λcs w=>by simp only[stepG,G]
 obtain⟨a0,RZ⟩:=hf.kC;obtain⟨fn0,c0,g1,g2,g3,_⟩:=hT.kC _ _ _ RZ;cases hd:fr.defers with
 |cons x ds=>
  obtain⟨cap,hx⟩:=hf.Ew x (by rw[hd];exact zbz ..);by_cases mQ:T.den fr.fn=Z6
  ·rw[if_pos mQ]at hx;have hstep:∀cs w v es,(ak4 T.en (x.args++cap)).runT P w #[]=(.ok (.value v) w,es)->stepG P Z6 (G fr cs) w=.go (G {fr with defers:=ds} cs) w (seen P fr.fn es):=λcs w v es tI=>by rw[hu];unfold unwind;rw[hd];obtain⟨tg,ar⟩:=x;obtain rfl:tg=.fn (.func T.en) cap:=hx;simp only[callDeferred];have e1:(invoke (.fn (.func T.en) cap) ar).runT P w #[]=(.ok (.value v) w,es):=tI;simp only[e1,bb8,aa6,if_false,aj6,am6];rfl
   refine⟨Next,ak4 T.en (x.args++cap),hG.en _,λcs=>⟨λw y w' es hrun gC c1 w1 xO hs=>?_,λw h w' es hrun=>?_⟩⟩
   ·obtain⟨v,yu,tI,_⟩:=hT.en (x.args++cap) w;rw[hstep _ _ _ _ tI]at hs;rw[tI]at hrun;cases hrun;simp only[av1]at hs;obtain⟨h1,rfl,h3⟩:=hs;refine⟨rfl,λu u' es' ZY=>?_⟩;obtain⟨v',Va,ac8,_⟩:=hT.en (x.args++cap) u;rw[ac8]at ZY;have e2:u'=u/\es'=Va:=by simp only[Prod.mk.injEq,Result.ok.injEq]at ZY;exact⟨ZY.1.2.symm,ZY.2.symm⟩
    rw[hstep _ _ _ _ ac8,e2.1,e2.2,h1]
   ·obtain⟨v,yu,tI,_⟩:=hT.en (x.args++cap) w;rw[tI]at hrun;cases hrun
  ·rw[if_neg mQ]at hx;obtain⟨fn,cc,q1,q2,q3,_⟩:=hT.kC _ _ _ hT.Co.1;refine cx (gC:=af0 P T.Co (x.args++cap) .deferred) (c1:={fr with defers:=ds}:: c) λcs w=>?_;rw[hu];unfold unwind;rw[hd];obtain⟨tg,ar⟩:=x;obtain rfl:tg=.fn (.func T.Co) cap:=hx;simp only[callDeferred];have e1:(invoke (.fn (.func T.Co) cap) ar).runT P w #[]=(.ok (.enter T.Co (ar++cap)) w,#[]):=fT q1 q2 q3 _ _ _;simp only[e1,bb8,aa6,if_false];rfl
 |nil=>
  cases c with
  |nil=>exact absurd ⟨rfl,hm,hd⟩ hl
  |cons cl rest=>
   obtain⟨out',L6,Zx,iL⟩:=hw;cases uX:fr.mode with
   |run=>exact absurd uX hm
   |panicking ch=>
    have JS:fr.catches P=E:=by unfold az9;rw[g1]
    refine cx (gC:=cl.raise ch) (c1:=rest) λcs w=>?_;rw[hu];unfold unwind;rw[hd];simp only[uX,JS,aa6,if_false,av2];rfl
   |returning=>
    have R1:∀cs w v w' es,(results fn0 fr.tmps).runT P w #[]=(.ok v w',es)->stepG P Z6 (G fr cs) w=(doReturn P Z6 fr cs F v w').after (seen P fr.fn es):=λcs w v w' es hrun=>by rw[hu];unfold unwind;rw[hd];simp only[uX,g1,hrun]
    refine⟨aj,results fn0 fr.tmps,Aq ..,λcs=>⟨λw x w' es hrun gC c1 w1 xO hs=>?_,λw h w' es hrun gC c1 w1 xO hs=>?_⟩⟩
    ·rw[R1 _ _ _ _ _ hrun]at hs;have key:∃Eo c2,∀w',doReturn P Z6 fr ((cl :: rest)++cs) F x w'=.go (G Eo c2) w' #[]:=by
      rcases iL with⟨hk,hcm,hrv⟩|⟨hk,hcm,Gt⟩
      ·exact⟨cl.finish x,rest++cs,λw'=>by simp only[av2,doReturn,hk];rfl⟩
      ·refine⟨cl,rest++cs,λw'=>?_⟩;simp only[av2,doReturn,hk];split
       ·rename_i v' g' older hmm;unfold iC at Gt;rw[hmm]at Gt;have:=Gt _ (zbz ..);simp at this
       ·rfl
     obtain⟨Eo,c2,hk2⟩:=key;rw[hk2]at hs;simp only[aj6,av1]at hs;obtain⟨h1,rfl,h3⟩:=hs;refine⟨rfl,λu u' es' ZY=>?_⟩;rw[R1 _ _ _ _ _ ZY,hk2];simp only[aj6,am6,h1]
    ·exfalso;rw[hu]at hs;unfold unwind at hs;rw[hd]at hs;simp only[uX,g1,hrun]at hs;cases h<;>cases hs
def DY(hT:iG P T)(hG:oW P T Sb)(h:AP T d fr c)(hl:¬Leave fr c):StepT P Sb fr c:=by
 obtain⟨out,⟨hf,hmo⟩,hw⟩:=h;by_cases hm:fr.mode=.run
 ·have hr:nN T d fr out:=by unfold iC at hmo;rw[hm]at hmo;exact hmo
  exact Nt hT hG hf hr hm
 ·exact DW hT hG hf hw hm hl
end
def Eh:List ay:= [34,27,26,29,28,30,21,22,
 66,67,49,68,36,47,83,69,106,
 84,128,50,48,39,51,40,55,43,
 86,88,89,52,53,54,87,72,73,41,42,76,
 90,91,92,74,75,115,130,150,85,129,
 37,38,70,71]
def Ei:List ay:= [5,13,57,32,33,56,59,63,65,97,101,105,131,93,94,132,95,58,96,98,99,60,61,62,103,100,102,64,133,104,8,11,7,6,31,24,45,35,16,15,46,14,9,10,12,23,44,82,17,18,19,20,25,
 77,78,116,172,169,170,171,79,117]
def Ej:List ay:= [121,123,144,143,146]
def heard:List ay:= [108,110,112,113,134,135,136,137,138,139,140,
 145,125,126,127,147,142,148,149,152,151,153,
 122,124,141]
def Sz(fs:List ay)(f:ay)(d:Nat):Option Nat:=if f=111 then(if d=1 then Y 0 else F)else if f=114 then(if d=1 then Y 1 else F)else if fs.contains f=Z6 then(if d=0 then Y 0 else F)else if Ej.contains f=Z6 then(if d<2 then Y d else F)else F
def adL(f:ay):List Nat:=if f=47 then [27,5,31]else if f=84 then [1,6]else if f=128 then [1,11]else []
def WM(fs:List ay):gV:=⟨λf=>heard.contains f,Sz fs,107,109,adL,83,38,λ_ _=>E,λf=>f == 117,λs=>s == "MayWrite"⟩
def vi:gV:=WM (Eh++Ei)
noncomputable def okF(T:gV)(f:ay)(a:Nat):Bool:=
 match T.kC f a,prog.funcs[f]? with
 |some b,Y fn=>match fn.body with
  |some c=>!(fn.name == "runtime.NumGoroutine")&&(match T.ck f b c a []with|some F=>Z6|some (Y e)=>e % 2 == b+e / 2|none=>E)
  |none=>E
 |none,_=>Z6
 |_,_=>E
def VI{T:gV}{a b:Nat}(h:okF T f a=Z6)(hi:T.kC f a=Y b):∃fn c,prog.funcs[f]?=Y fn/\(fn.name == "runtime.NumGoroutine")=E/\fn.body=Y c/\∃r,T.ck f b c a []=Y r/\∀e,r=Y e->e % 2=b+e / 2:=by
 unfold okF at h;rw[hi]at h;split at h
 ·rename_i b' fn h1 h2;cases h1;split at h
  ·rename_i c hc;simp only[az7]at h;obtain⟨h3,h4⟩:=h;refine⟨fn,c,h2,by simpa using h3,hc,?_⟩;cases hk:T.ck f b c a []with
   |none=>rw[hk]at h4;cases h4
   |some r=>
    refine⟨r,rfl,λe he=>?_⟩;subst he;rw[hk]at h4;simpa using h4
  ·cases h
 ·rename_i h1;cases h1
 ·cases h
def SC:∀g,prog.stepOf g=F:=by
 have h:(prog.funcs.all λf=>match f.body with|some c=>(readies c).isEmpty|none=>Z6)=Z6:=Yl
 intro g;unfold Program.stepOf;rw[Array.findIdx?_eq_none_iff];intro f hf;have h1:=zbs.1 h f hf;cases hb:f.body with
 |none=>rfl
 |some c=>
  rw[hb]at h1;have:readies c= []:=by simpa using h1
  simp[this]
def NU(h:SD prog "MayWrite" f):f=116\/f=172\/f=169:=by
 obtain⟨t,i,m,b,h1,h2,h3,h4⟩:=h;have hall:(prog.types.all λi=>i.methods.all λm=>!(m.name == "MayWrite")||(match m.func with|some (f,_)=>f == 116 || f == 172 || f == 169|none=>Z6))=Z6:=Yl
 have g1:=zbs.1 hall i (Array.mem_of_getElem? h1);have g2:=zbs.1 g1 m h2;rw[h4,h3]at g2;simpa[or_assoc]using g2
def xZ(hf:prog.funcs[f]?=Y fn)(Ob:∀args,BT E (do pure (at6 (<-e args)):Sem Next))(h1:(fn.name == "runtime.NumGoroutine")=E:=by kernel_rfl)(h2:fn.body.isNone=Z6:=by kernel_rfl)(h3:ai6 fn=F:=by kernel_rfl)(h4:al9 fn=Y e:=by kernel_rfl)(args:Array aj)(w:af)(n:Next)(w':af)(es:Array aC)(hr:(ak4 f args).runT prog w #[]=(.ok n w',es)):(∃v,n=.value v)/\∀g d,ad2 d (seen prog g es)=d:=Zr hf h1 h2 h3 h4 Ob args w n w' es hr
def Da:iG prog vi:=by
 have h:((111 :: 114 ::(Eh++Ei++Ej)).all λf=>okF vi f 0 && okF vi f 1)=Z6:=Yl
 have two:∀f a b,Sz (Eh++Ei) f a=Y b->a<2/\f∈(111 :: 114 ::(Eh++Ei++Ej)):=by
  intro f a b hi;unfold Sz at hi;split at hi
  ·rename_i e;split at hi
   ·rename_i e2;exact⟨I,by rw[e];exact zbz ..⟩
   ·cases hi
  ·split at hi
   ·rename_i e;split at hi
    ·rename_i e2;exact⟨I,by rw[e];exact zbq _ (zbz ..)⟩
    ·cases hi
   ·split at hi
    ·rename_i e;split at hi
     ·rename_i e2;exact⟨I,zbq _ (zbq _ (List.mem_append_left _ (zbx.1 e)))⟩
     ·cases hi
    ·split at hi
     ·rename_i e;split at hi
      ·rename_i e2;exact⟨e2,zbq _ (zbq _ (List.mem_append_right _ (zbx.1 e)))⟩
      ·cases hi
     ·cases hi
 refine⟨SC,λf a b hi=>(two f a b hi).1,λf a b hi=>?_,⟨Yl,rfl⟩,⟨Yl,rfl⟩,λf hf=>?_,?_,?_,λs f hs hn=>?_⟩
 ·obtain⟨h1,h2⟩:=two f a b hi;have h3:=List.all_eq_true.1 h f h2;simp only[az7]at h3;refine VI ?_ hi;rcases Nat.lt_or_ge a 1 with h4|h4
  ·obtain rfl:a=0:=I
   exact h3.1
  ·obtain rfl:a=1:=I
   exact h3.2
 ·have hm:f∈heard:=zbx.1 hf;simp only[heard,List.mem_cons,List.not_mem_nil,or_false]at hm;rcases hm with rfl|rfl|rfl|rfl|rfl|rfl|rfl|rfl|rfl|rfl|rfl|rfl|rfl|rfl|rfl|rfl|rfl|rfl|rfl|rfl|rfl|rfl|rfl|rfl|rfl
  ·exact xZ (e:=aq0 (.int .i32)) func108 λargs=>fM (Lr ..)
  ·exact xZ (e:=am7 .acquire) func110 λargs=>fM (ru _ (λ_=>XI) (λ_=>XI) _)
  ·exact xZ (e:=am7 .releaseMerge) func112 λargs=>fM (ru _ (λ_=>XI) (λ_=>XI) _)
  ·exact xZ (e:=al4 (au2 .add) .i32 Z6) func113 λargs=>fM (wD _ (λ_ _ _=>qJ ..) ..)
  ·exact xZ (e:=au8) func134 λargs=>fM (Kj _)
  ·exact xZ (e:=as5) func135 λargs=>fM (Kk _)
  ·exact xZ (e:=as2 .throw) func136 λargs=>fM (Kl _ _)
  ·exact xZ (e:=aq9) func137 λargs=>fM (VG _)
  ·exact xZ (e:=ak1) func138 λargs=>Ef (sn _)
  ·exact xZ (e:=as2 .fatal) func139 λargs=>fM (Kl _ _)
  ·exact xZ (e:=al3) func140 λargs=>Ef (su _)
  ·exact xZ (e:=am7 .read) func145 λargs=>fM (ru _ (λ_=>XI) (λ_=>XI) _)
  ·exact xZ (e:=am7 .write) func125 λargs=>fM (ru _ (λ_=>XI) (λ_=>XI) _)
  ·exact xZ (e:=λ_=>pure (.bool E)) func126 λargs=>fM (.pure)
  ·exact xZ (e:=ak1) func127 λargs=>Ef (sn _)
  ·exact xZ (e:=al3) func147 λargs=>Ef (su _)
  ·exact xZ (e:=as2 .fatal) func142 λargs=>fM (Kl _ _)
  ·exact xZ (e:=au9 (.int .u64)) func148 λargs=>fM (Sy ..)
  ·exact xZ (e:=aq0 (.int .u64)) func149 λargs=>fM (Lr ..)
  ·exact xZ (e:=al4 (au2 .add) .u64 Z6) func152 λargs=>fM (wD _ (λ_ _ _=>qJ ..) ..)
  ·exact xZ (e:=al4 (az4 .or) .u64 E) func151 λargs=>fM (wD _ (λ_ _ _=>Km ..) ..)
  ·exact xZ (e:=ax1) func153 λargs=>fM (NT _)
  ·exact xZ (e:=Extern.Synctest.none_) func122 λargs=>fM .halt
  ·exact xZ (e:=Extern.Synctest.none_) func124 λargs=>fM .halt
  ·exact xZ (e:=Extern.Synctest.none_) func141 λargs=>fM .halt
 ·exact GM (m:=.disable) (δ:=λd=>d+1) func107 Yl Yl Yl Yl λd=>rfl
 ·exact VH (m:=.enable) (δ:=λd=>d-1) func109 Yl Yl Yl Yl λd=>rfl
 ·have e:s= "MayWrite" :=by simpa[vi,WM]using hs
  subst e;rcases NU hn with rfl|rfl|rfl<;>exact⟨Yl,rfl⟩
section
variable {P:aB}{T:gV}{Sb:Nat->Prop}{d:Nat}{fr gC:ak}{c c1:List ak}{v v1 w:af}{es:Array aC}
def uM(hT:iG P T)(hG:oW P T Sb)(hS:AP T d fr c)(hl:¬Leave fr c)(hs:cK Sb v w)(hv:∀cs,stepG P Z6 (G fr (c++cs)) v=.go (G gC (c1++cs)) v1 es)(hp:iY gC c1)(hag:K4 v w (v1.drawn-v.drawn)):
 (v1.tape=v.tape/\v.drawn<=v1.drawn)/\∃w1 es',(∀cs,stepG P Z6 (G fr (c++cs)) w=.go (G gC (c1++cs)) w1 es')/\cK Sb v1 w1/\w1.tape=w.tape/\w1.drawn=w.drawn+(v1.drawn-v.drawn)/\∀e∈es',EvP Sb e:=by
 obtain⟨α,s,hg,hst⟩:=DY hT hG hS hl;obtain⟨r,esv,hrun⟩:∃r es,s.runT P v #[]=(r,es):=⟨_,_,rfl⟩
 cases r with
 |halt h v'=>exact absurd hp ((hst []).2 v h v' esv hrun gC c1 v1 es (hv []))
 |ok x v'=>
  obtain⟨rfl,_⟩:=(hst []).1 v x v' esv hrun gC (c1++ []) v1 es (hv []);have hr:s.run P v=.ok x v1:=by rw[<-an8 P s v #[],hrun]
  obtain⟨m1,m2⟩:=nF s hr;obtain⟨w1,es',h1,h2,h3,h4,h5⟩:=hg.zP hs hr hag #[];refine⟨⟨m1,m2⟩,w1,seen P fr.fn es',λcs=>?_,h2,h3,h4,λe he=>?_⟩
  ·exact((hst cs).1 v x v1 esv hrun gC (c1++cs) v1 es (hv cs)).2 w w1 es' h1
  ·rcases h5 e (Gu he)with h6|h6
   ·simp at h6
   ·exact h6.1
def wt(v:af)(tp:Nat->Question->Nat)(n:Nat):af:={v with tape:=tp,drawn:=n}
def ac9(v:af)(tp Cp:Nat->Question->Nat)(n n':Nat):wt (wt v tp n) Cp n'=wt v Cp n':=rfl
def JU(v:af)(tp:Nat->Question->Nat)(n:Nat):cK (λ_=>False) v (wt v tp n):=⟨rfl,λ_ _=>rfl,λ_ h=>h.elim,rfl,rfl⟩
def Wz{v:af}(h:cK (λ_=>False) v w):w=wt v w.tape w.drawn:=by
 obtain⟨hh,ht,hd,ho,hu⟩:=v;obtain⟨hh',ht',hd',ho',hu'⟩:=w;have e1:hh=hh':=by apply an1;intro i;exact h.same i (λh=>h)
 have e2:ho=ho':=h.os;have e3:hu=hu':=h.out;subst e1 e2 e3;rfl
def tB(hT:iG P T)(G5:∀g c,T.tgt g c=E)(hp:iY fr' c')(hS:AP T d fr c)(hr:runN P (n+1) (lone fr (c++ [dm P]) v)=.next (lone fr' (c'++ [dm P]) w')):
 ¬Leave fr c/\∃gC c1 v1 es d1,(∀cs,stepG P Z6 (G fr (c++cs)) v=.go (G gC (c1++cs)) v1 es)/\AP T d1 gC c1/\iY gC c1/\ad2 d es=d1/\runN P n (lone gC (c1++ [dm P]) v1)=.next (lone fr' (c'++ [dm P]) w'):=by
 have Rx:¬Leave fr c:=λh=>by have hc:=h.1;subst hc;exact xq hT hS h hr
 refine⟨Rx,?_⟩;rcases zT hT hS v with h|h|h|h
 ·obtain⟨gC,c1,v1,es,d1,hs,tN,hd⟩:=h;have hst:step P (lone fr (c++ [dm P]) v)=.next (lone gC (c1++ [dm P]) v1):=av6 (a:=G fr (c++ [dm P])) rfl (hs _)
  have hr':=hr;unfold runN at hr';rw[hst]at hr';obtain⟨hp1,_⟩:=Cq hT hp n tN hr' (λk f' q u _ _ ht=>by obtain⟨_,c,k',_,h⟩:=ht;rw[G5]at h;cases h)
  exact⟨gC,c1,v1,es,d1,hs,tN,hp1,(hd hp1).2,hr'⟩
 ·exfalso;rcases h [dm P]with⟨o,w1,es,he⟩|⟨g1,w1,es,he,hg⟩|⟨g1,g2,w1,es,he⟩
  ·unfold runN at hr;rw[ar7,gI rfl he]at hr;cases hr
  ·unfold runN at hr;rw[ar7,av6 rfl he]at hr;exact tC n hg hr
  ·unfold runN at hr;have e2:step P (lone fr (c++ [dm P]) v)=.next (duo g1 g2 w1 F):=by rw[ar7,step,stepT_solo rfl,runT_solo_spawn he]
   rw[e2]at hr;exact tD n (by simp[duo]) hr
 ·obtain⟨_,c,k',_,h⟩:=h;rw[G5]at h;cases h
 ·exact absurd h Rx
def Reach(P:aB)(Q:ak->List ak->af->Prop)(fr:ak)(c:List ak)(v:af):Prop:=∃N fr' c' v',runN P N (lone fr (c++ [dm P]) v)=.next (lone fr' (c'++ [dm P]) v')/\Q fr' c' v'/\iY fr' c'
def oO(hs:∀cs,stepG P Z6 (G fr (c++cs)) v=.go (G gC (c1++cs)) v1 es):step P (lone fr (c++ [dm P]) v)=.next (lone gC (c1++ [dm P]) v1):=av6 (a:=G fr (c++ [dm P])) rfl (hs _)
def xu(hT:iG P T)(hG:oW P T (λ_=>False))(G5:∀g c,T.tgt g c=E){Q:ak->List ak->af->Prop}(hQ:∀fr c v tp n,Q fr c v->Q fr c (wt v tp n)):∀(N:Nat) {d:Nat} {fr:ak} {c:List ak} {v:af} {fr':ak} {c':List ak} {v':af} (tp:Nat->Question->Nat) (n:Nat),AP T d fr c->iY fr' c'->Q fr' c' v'->
 runN P N (lone fr (c++ [dm P]) v)=.next (lone fr' (c'++ [dm P]) v')->(∀m q,v.tape (v.drawn+m) q=tp (n+m) q)->Reach P Q fr c (wt v tp n)
 | 0,d,fr,c,v,fr',c',v',tp,n,hS,hp,hq,hr,ha=>by simp only[runN,am5]at hr;obtain⟨rfl,h2,rfl⟩:=lP hr;obtain rfl:c=c':=zbw h2;exact⟨0,fr,c,wt v tp n,rfl,hQ _ _ _ _ _ hq,hp⟩
 |N+1,d,fr,c,v,fr',c',v',tp,n,hS,hp,hq,hr,ha=>by
  obtain⟨Rx,gC,c1,v1,es,d1,hs,tN,hp1,_,CO⟩:=tB hT G5 hp hS hr;obtain⟨⟨m1,m2⟩,w1,es',g1,g2,g3,g4,_⟩:=uM hT hG hS Rx (JU v tp n) hs hp1 (λk _ q=>ha k q);have e1:=Wz g2;obtain⟨N',f2,c2,u2,h1,h2,h3⟩:=xu hT hG G5 hQ N (v:=v1) tp (n+(v1.drawn-v.drawn)) tN hp hq CO (λm q=>by have:=ha (m+(v1.drawn-v.drawn)) q;rw[m1,show v1.drawn+m=v.drawn+(m+(v1.drawn-v.drawn)) by omega,show n+(v1.drawn-v.drawn)+m=n+(m+(v1.drawn-v.drawn)) by omega];exact this)
  have e2:w1=wt v1 tp (n+(v1.drawn-v.drawn)):=by rw[e1,g3,g4];rfl
  refine⟨N'+1,f2,c2,u2,?_,h2,h3⟩;unfold runN;rw[oO g1,e2];exact h1
inductive Ev(P:aB)(Q:ak->List ak->af->Prop):ak->List ak->af->Prop
 |done {fr:ak} {c:List ak} {v:af}:Q fr c v->iY fr c->Ev P Q fr c v
 |step {fr:ak} {c:List ak} {v:af} (wv:(Nat->Question->Nat)->Nat->ak) (C:(Nat->Question->Nat)->Nat->List ak) (W:(Nat->Question->Nat)->Nat->af) (P6:(Nat->Question->Nat)->Nat->Array aC):¬Leave fr c->
  (∀tp n cs,stepG P Z6 (G fr (c++cs)) (wt v tp n)=.go (G (wv tp n) (C tp n++cs)) (W tp n) (P6 tp n))->(∀tp n,iY (wv tp n) (C tp n))->(∀tp n,Ev P Q (wv tp n) (C tp n) (W tp n))->Ev P Q fr c v
def Y6(P:aB)(T:gV)(Q:ak->List ak->af->Prop)(x:ak×List ak×af):Prop:=
 (∃d,AP T d x.1 x.2.1)/\¬Ev P Q x.1 x.2.1 x.2.2/\∀tp n,Reach P Q x.1 x.2.1 (wt x.2.2 tp n)
def R2(hT:iG P T)(hG:oW P T (λ_=>False))(G5:∀g c,T.tgt g c=E)(hQ:∀fr c v tp n,Q fr c v->Q fr c (wt v tp n))(x:ak×List ak×af)(hx:Y6 P T Q x):
 ∃(y:ak×List ak×af) (tp:Nat->Question->Nat) (k:Nat),Y6 P T Q y/\∀(Cp:Nat->Question->Nat) (n':Nat),(∀m,m<k->∀q,Cp (n'+m) q=tp m q)->∃es,∀cs,stepG P Z6 (G x.1 (x.2.1++cs)) (wt x.2.2 Cp n')=.go (G y.1 (y.2.1++cs)) (wt y.2.2 Cp (n'+k)) es:=by
 obtain⟨fr,c,v⟩:=x;obtain⟨⟨d,hS⟩,hE,hR⟩:=hx;simp only at hS hE hR;have hnq:∀tp n,iY fr c->¬Q fr c (wt v tp n):=λtp n hp hq=>hE (.done (by have:=hQ _ _ _ v.tape v.drawn hq;exact this) hp);have Rx:¬Leave fr c:=λhl=>by
  obtain⟨N,fr',c',v',h1,h2,h3⟩:=hR (λ_ _=>0) 0;cases N with
  |zero=>
   simp only[runN,am5]at h1;obtain⟨rfl,h5,rfl⟩:=lP h1;obtain rfl:c=c':=zbw h5;exact hnq _ _ h3 h2
  |succ N=>exact(tB hT G5 h3 hS h1).1 hl
 have h1:∃tp n,¬∃gC c1 v1 es,(∀cs,stepG P Z6 (G fr (c++cs)) (wt v tp n)=.go (G gC (c1++cs)) v1 es)/\iY gC c1/\Ev P Q gC c1 v1:=by
  apply ah0;intro hno;have ha:=λtp n=>ah0 λh=>hno ⟨tp,n,h⟩;exact hE (.step (λtp n=>(ha tp n).choose) (λtp n=>(ha tp n).choose_spec.choose) (λtp n=>(ha tp n).choose_spec.choose_spec.choose) (λtp n=>(ha tp n).choose_spec.choose_spec.choose_spec.choose) Rx
   (λtp n=>(ha tp n).choose_spec.choose_spec.choose_spec.choose_spec.1) (λtp n=>(ha tp n).choose_spec.choose_spec.choose_spec.choose_spec.2.1) (λtp n=>(ha tp n).choose_spec.choose_spec.choose_spec.choose_spec.2.2))
 obtain⟨tp,n,h1⟩:=h1;obtain⟨N,fr',c',v',h2,h3,h4⟩:=hR tp n;cases N with
 |zero=>
  exfalso;simp only[runN,am5]at h2;obtain⟨rfl,h5,rfl⟩:=lP h2;obtain rfl:c=c':=zbw h5;exact hnq _ _ h4 h3
 |succ N=>
  obtain⟨_,gC,c1,v1,es,d1,hs,tN,hp1,_,CO⟩:=tB hT G5 h4 hS h2;obtain⟨⟨m1,m2⟩,_⟩:=uM hT hG hS Rx (JU (wt v tp n) tp n) hs hp1 (λk _ q=>rfl);have go:∀(Cp:Nat->Question->Nat) (n':Nat),(∀m,m<v1.drawn-n->∀q,Cp (n'+m) q=tp (n+m) q)->∃es,∀cs,stepG P Z6 (G fr (c++cs)) (wt v Cp n')=.go (G gC (c1++cs)) (wt v1 Cp (n'+(v1.drawn-n))) es:=λCp n' ha=>by
   obtain⟨_,w1,es',g1,g2,g3,g4,_⟩:=uM hT hG hS Rx (JU (wt v tp n) Cp n') hs hp1 (λk hk q=>(ha k hk q).symm);refine⟨es',λcs=>?_⟩;have e2:w1=wt v1 Cp (n'+(v1.drawn-n)):=by rw[Wz g2,g3,g4];rfl
   rw[<-e2];exact g1 cs
  refine⟨(gC,c1,v1),λm=>tp (n+m),v1.drawn-n,⟨⟨d1,tN⟩,λhe=>h1 ⟨gC,c1,v1,es,hs,hp1,he⟩,λCp n'=>?_⟩,go⟩;let tq:Nat->Question->Nat:=λm=>if m<v1.drawn-n then tp (n+m)else Cp (n'+(m-(v1.drawn-n)))
  obtain⟨yu,E4⟩:=go tq 0 (λm hm q=>by simp only[tq,Nat.zero_add,hm,if_true]);obtain⟨N2,f2,c2,u2,q1,q2,q3⟩:=hR tq 0;cases N2 with
  |zero=>
   exfalso;simp only[runN,am5]at q1;obtain⟨rfl,h5,rfl⟩:=lP q1;obtain rfl:c=c2:=zbw h5;exact hnq _ _ q3 q2
  |succ N2=>
   unfold runN at q1;rw[oO E4]at q1;simp only at q1;have:=xu hT hG G5 hQ N2 Cp n' tN q3 q2 q1 (λm q=>by show tq (0+(v1.drawn-n)+m) q=_;simp only[tq,Nat.zero_add];rw[if_neg I,show v1.drawn-n+m-(v1.drawn-n)=m by omega])
   rw[ac9]at this;exact this
def Nc(hT:iG P T)(hG:oW P T (λ_=>False))(G5:∀g c,T.tgt g c=E)(hQ:∀fr c v tp n,Q fr c v->Q fr c (wt v tp n))(hS:AP T d fr c)(hR:∀tp n,Reach P Q fr c (wt v tp n)):Ev P Q fr c v:=by
 apply ah0;intro hE;have hx0:Y6 P T Q (fr,c,v):=⟨⟨d,hS⟩,hE,hR⟩
 have nx:=fun(x:{x // Y6 P T Q x})=>R2 hT hG G5 hQ x.1 x.2;let f:{x // Y6 P T Q x}->{x // Y6 P T Q x}:=λx=>⟨(nx x).choose,(nx x).choose_spec.choose_spec.choose_spec.1⟩
 let σ:Nat->{x // Y6 P T Q x}:=λi=>Nat.rec ⟨(fr,c,v),hx0⟩ (λ_ x=>f x) i;let tps:Nat->Nat->Question->Nat:=λi=>(nx (σ i)).choose_spec.choose;let k:Nat->Nat:=λi=>(nx (σ i)).choose_spec.choose_spec.choose;have hgo:∀i (Cp:Nat->Question->Nat) (n':Nat),(∀m,m<k i->∀q,Cp (n'+m) q=tps i m q)->∃es,∀cs,stepG P Z6 (G (σ i).1.1 ((σ i).1.2.1++cs)) (wt (σ i).1.2.2 Cp n')=.go (G (σ (i+1)).1.1 ((σ (i+1)).1.2.1++cs)) (wt (σ (i+1)).1.2.2 Cp (n'+k i)) es:=λi=>(nx (σ i)).choose_spec.choose_spec.choose_spec.2;let D:Nat->Nat:=λi=>Nat.rec 0 (λi s=>s+k i) i;have hD:∀i,D (i+1)=D i+k i:=λi=>rfl;have hmono:∀i j,i<=j->D i<=D j:=by
  intro i j h;induction j with
  |zero=>obtain rfl:i=0:=I
         exact zbn _
  |succ j ih=>
   rcases Nat.lt_or_ge j i with h1|h1
   ·obtain rfl:i=j+1:=I
    exact zbn _
   ·have:=ih h1;rw[hD];omega
 let tz:Nat->Question->Nat:=λm q=>open Classical in if h:∃i,D i<=m/\m<D (i+1)then tps h.choose (m-D h.choose) q else 0
 have htz:∀i m,m<k i->∀q,tz (D i+m) q=tps i m q:=by
  intro i m hm q;have hex:∃j,D j<=D i+m/\D i+m<D (j+1):=⟨i,I,by rw[hD];omega⟩
  have hj:=hex.choose_spec;have e:hex.choose=i:=by
   generalize hex.choose=j at hj;rcases Nat.lt_trichotomy j i with h|h|h
   ·have:=hmono (j+1) i h;omega
   ·exact h
   ·have:=hmono (i+1) j h;rw[hD]at this;omega
  have e3:tz (D i+m) q=tps hex.choose (D i+m-D hex.choose) q:=dif_pos hex;rw[e3,e,Nat.add_sub_cancel_left]
 have hrun:∀i,runN P i (lone fr (c++ [dm P]) (wt v tz 0))=.next (lone (σ i).1.1 ((σ i).1.2.1++ [dm P]) (wt (σ i).1.2.2 tz (D i))):=by
  intro i;induction i with
  |zero=>rfl
  |succ i ih=>
   obtain⟨es,hs⟩:=hgo i tz (D i) (htz i);rw[runN_add,ih];simp only[runN];rw[oO hs]
 obtain⟨N,fr',c',v',h1,h2,h3⟩:=hR tz 0;rw[hrun N]at h1;simp only[am5]at h1;obtain⟨e1,e2,e3⟩:=lP h1;have ZS:=zbw e2;rw[<-e1,<-ZS,<-e3]at h2;rw[<-e1,<-ZS]at h3;have hb:=(σ N).2.2.1;exact hb (.done (by have:=hQ _ _ _ (σ N).1.2.2.tape (σ N).1.2.2.drawn h2;exact this) h3)
end
end
section
open Go Go.Conc Go.ConcN
structure kM(Shun:Loc->Prop)(t:Trace):Prop where
 clean:∀said,¬Race said t
 known:∀i a,touchAt t i=Y a->a.loc.isMemory=Z6->Knows t 0 i\/(Shun a.loc/\a.kind=.atomic)
 over:t.HandedOver
def KR(Sb:Nat->Prop)(l:Loc):Prop:=∃a,l=.cell a/\Sb a.block
section
variable {Shun:Loc->Prop}{t u:Trace}
def uu.ace(h:uu Shun t):kM Shun t:=⟨h.clean,h.known,h.over⟩
def kM.ab9(h:kM Shun t)(hd:Deaf t 0=0):uu Shun t:=⟨h.clean,h.known,h.over,hd⟩
def kM.app0(h:kM Shun t)(hu:∀op∈u,op.g=0)(hs:∀op∈u,∀b,op.act.touch?=Y b->Shun b.loc->b.kind≠.plain):kM Shun (t++u):=by
 refine⟨λsaid=>aw4 (h.clean said) hu λi a ha op hop b hb hc=>?_,λi a ha hm=>?_,handedOver_app h.over λop hop=>.inl (hu op hop)⟩
 ·rcases h.known i a ha hc.2.1 with hk|⟨hsa,hka⟩
  ·exact hk
  ·have hkb:=hs op hop b hb (hc.1▸hsa);obtain⟨_,_,_,iL⟩:=hc;rw[hka]at iL;rcases iL with x|x|⟨_,x,_⟩
   ·cases x
   ·exact absurd x hkb
   ·cases x
 ·obtain⟨x,hx,Ru⟩:=at8 ha;rcases ae1 hx with⟨_,hx'⟩|⟨_,YY⟩
  ·exact(h.known i a (by rw[touchAt_of hx'];exact Ru) hm).imp (·.app u) id
  ·have:=knows_own hx;rw[hu x YY]at this;exact .inl this
def kM.appMute{g:Nat}(h:kM Shun t)(hu:∀op∈u,op.g=g)(hn:∀op∈u,op.act.touch?=F):kM Shun (t++u):=by
 refine⟨λsaid=>aw4 (h.clean said) hu λi a _ op hop b hb _=>(by rw[hn op hop]at hb;cases hb),λi a ha hm=>?_,handedOver_app h.over λop hop=>.inr (hn op hop)⟩;obtain⟨x,hx,Ru⟩:=at8 ha;rcases ae1 hx with⟨_,hx'⟩|⟨_,YY⟩
 ·exact(h.known i a (by rw[touchAt_of hx'];exact Ru) hm).imp (·.app u) id
 ·rw[hn x YY]at Ru;cases Ru
def kM.own{Sb:Nat->Prop}(h:kM (KR Sb) t){fn:ay}(hes:∀e∈es,EvP Sb e):kM (KR Sb) (t++ac0 0 fn pos es):=by refine h.app0 (λop hop=>by obtain⟨e,_,rfl⟩:=ad4 hop;rfl) (λop hop b hb hs hk=>?_);obtain⟨e,he,rfl⟩:=ad4 hop;obtain⟨a,ha,hsb⟩:=hs;exact hes e he b a hb ha hk hsb
def kM.mute(h:kM Shun t){g:Nat}{fn:ay}{pos:String}{es:Array aC}(hm:∀e∈es,e.mute=Z6):kM Shun (t++ac0 g fn pos es):=
 h.appMute (g:=g) (λop hop=>by obtain⟨e,_,rfl⟩:=ad4 hop;rfl) (λop hop=>by obtain⟨e,he,rfl⟩:=ad4 hop;exact touch_mute (hm e he))
end
structure Crowd(P:aB)(T:gV)(Sb:Nat->Prop)(d:Nat)(fr:ak)(c cs:List ak)(gs:Array au)(t:Trace)(q:Nat->Nat):Prop where
 at0:gs[0]?=Y (G fr (c++cs))
 stk:AP T d fr c
 deaf:Deaf t 0=d
 lv:Leavers P t gs q
 past:kM (KR Sb) t
 bd:∀(i:Nat) (op:MemOp),t[i]?=Y op->op.g<gs.size
def JB{g:Nat}{fn:ay}(h:∀(i:Nat) (op:MemOp),t[i]?=Y op->op.g<n)(hg:g<n)(i:Nat)(op:MemOp)(hi:(t++ac0 g fn pos es)[i]?=Y op):op.g<n:=by
 rcases ae1 hi with⟨_,h1⟩|⟨_,h1⟩
 ·exact h i op h1
 ·obtain⟨e,_,rfl⟩:=ad4 h1;exact hg
section
variable {P:aB}{T:gV}{Sb:Nat->Prop}
def Bh(h:stepG P Z6 g w=.go (G gC c1) w1 es)(gs0:gs[0]?=Y g)(sl:Option (Nat×Nat)):runT P (crowd gs w sl) 0=(.next (crowd ((gs.map (woken P g (G gC c1) w1)).setIfInBounds 0 (G gC c1)) w1 sl),ac0 0 g.frame.fn g.frame.place es):=bd4 (P:=P) (sl:=sl) (i:=0) gs0 (show stepG P (0 == 0) g w=_ from h)
def Nb(hT:iG P T)(hG:oW P T Sb)(G5:∀g c,T.tgt g c=E){c:List ak}{v:af}(hE:Ev P Q fr c v):∀(M d:Nat) (gs:Array au) (w:af) (sl:Option (Nat×Nat)) (t:Trace) (q:Nat->Nat),sumTo gs.size q=M->cK Sb v w->Crowd P T Sb d fr c cs gs t q->
 ∃N gs' fr' c' v' w' sl' t' q' d',runNT P N (crowd gs w sl) t=(.next (crowd gs' w' sl'),t')/\gs'.size=gs.size/\Q fr' c' v'/\cK Sb v' w'/\Crowd P T Sb d' fr' c' cs gs' t' q':=by
 induction hE with
 |done hq hp=>
  intro M d gs w sl t q hM hs hC;exact⟨0,gs,_,_,_,w,sl,t,q,d,rfl,rfl,hq,hs,hC⟩
 |step wv C W P6 Rx hstep hnp hev ih=>
  rename_i fr c v;intro M;induction M using Nat.strongRecOn with
  |_ M ihM=>
   intro d gs w sl t q hM hs hC;have h0:=hC.at0;have hL:=hC.lv;have Y0:0<gs.size:=(zbo.1 h0).1;have VV:∀g∈gs,awake g:=by
    intro g hg;obtain⟨i,hi,rfl⟩:=Array.mem_iff_getElem.1 hg;rcases zb0 i with rfl|hpos
    ·have:gs[0]=G fr (c++cs):=by simpa[ad7 hi]using h0
     rw[this];exact awake_of (.inl rfl)
    ·exact awake_of ((hL.old i _ hpos (ad7 hi)).status.elim .inl λx=>.inr (.inr x))
   obtain⟨i,g,n,sl',hi,hg,hst⟩:=crowd_pick (P:=P) (w:=w) (sl:=sl) VV ⟨0,_,h0,rfl⟩;rcases zb0 i with rfl|hpos
   ·obtain rfl:g=G fr (c++cs):=by rw[h0]at hi;exact(ah9 hi).symm
    have E4:cK Sb (wt v w.tape n) (w.at n):=⟨hs.size,hs.same,hs.gZ,hs.os,hs.out⟩
    obtain⟨_,w1,es',g1,g2,g3,g4,g5⟩:=uM hT hG hC.stk Rx E4 (hstep w.tape n) (hnp w.tape n) (λk _ q=>rfl);have N8:AP T (ad2 d es') (wv w.tape n) (C w.tape n):=by
     rcases zT hT hC.stk (w.at n)with h|h|h|h
     ·obtain⟨gC,c1,w2,yu,d1,hs1,tN,hd⟩:=h;have e0:=(g1 []).symm.trans (hs1 []);simp only[List.append_nil,av1]at e0;obtain⟨e1,rfl,rfl⟩:=e0;have ef:wv w.tape n=gC:=congrArg Goroutine.frame e1;have ec:C w.tape n=c1:=congrArg Goroutine.callers e1;have hp1:=hnp w.tape n;rw[ef,ec]at hp1⊢;rw[(hd hp1).2];exact tN
     ·exfalso;rcases h []with⟨o,w2,yu,he⟩|⟨g2,w2,yu,he,hdg⟩|⟨ga,gb,w2,yu,he⟩
      ·rw[g1]at he;cases he
      ·rw[g1]at he;cases he;rcases hdg with h2|h2|⟨_,dd,f,h2,_⟩ <;>cases h2
      ·rw[g1]at he;cases he
     ·obtain⟨_,cc,k',_,h⟩:=h;rw[G5]at h;cases h
     ·exact absurd h Rx
    have zU:=Bh (g1 cs) h0 sl';have hsz:((gs.map (woken P (G fr (c++cs)) (G (wv w.tape n) (C w.tape n++cs)) w1)).setIfInBounds 0 (G (wv w.tape n) (C w.tape n++cs))).size=gs.size:=XI
    obtain⟨N,gs',fr',c',v',w',Tf,t',q',d',r1,r2,r3,r4,r5⟩:=ih w.tape n (sumTo gs.size q) (ad2 d es') ((gs.map (woken P (G fr (c++cs)) (G (wv w.tape n) (C w.tape n++cs)) w1)).setIfInBounds 0 (G (wv w.tape n) (C w.tape n++cs))) w1 sl' (t++ac0 0 fr.fn fr.place es') q (by rw[hsz]) g2
     ⟨by simp[Y0],N8,by rw[Deaf_own,hC.deaf],⟨λj x hj hx=>by
         have hne:0≠j:=I
         rw[zbp hne,ar4]at hx;obtain⟨y,hy,rfl⟩:=zb1.1 hx;have hq:=hL.old j y hj hy;rw[bf0 hq,ao0 t I _ (λop hop=>by obtain⟨e,_,rfl⟩:=ad4 hop;rfl)];exact hq,λj hj=>by rw[ao0 t (g':=0) (by simp at hj;omega) _ (λop hop=>by obtain⟨e,_,rfl⟩:=ad4 hop;rfl)];exact hL.above j (by simpa using hj)⟩,hC.past.own g5,λj op hj=>by rw[hsz];exact JB hC.bd Y0 j op hj⟩
    refine⟨N+1,gs',fr',c',v',w',Tf,t',q',d',?_,r2.trans hsz,r3,r4,r5⟩;simp only[runNT,hst,zU];exact r1
   ·have hq:=hL.old i g hpos hi;have hi0:(i == 0)=E:=by simp;omega
    have hlt:i<gs.size:=(zbo.1 hi).1;cases KZ:q i with
    |zero=>rw[KZ]at hq;rw[hq.1]at hg;cases hg
    |succ k=>
     rw[KZ]at hq;rcases hq with⟨hf,_⟩|⟨_,g',es,hm,Ry,fX⟩
     ·rw[hf]at hg;cases hg
     have zU:=bd4 (P:=P) (sl:=sl') (i:=i) hi (by rw[hi0];exact Ry (w.at n));have hsz:((gs.map (woken P g g' (w.at n))).setIfInBounds i g').size=gs.size:=XI
     have hsum:sumTo gs.size (ay5 q i k)+(k+1)=sumTo gs.size q+k:=by have:=sumTo_upd q k id hlt;simpa[KZ]using this
     obtain⟨N,gs',fr',c',v',w',Tf,t',q',d',r1,r2,r3,r4,r5⟩:=ihM (sumTo gs.size (ay5 q i k)) I d ((gs.map (woken P g g' (w.at n))).setIfInBounds i g') (w.at n) sl' (t++ac0 i g.frame.fn g.frame.place es) (ay5 q i k) (by rw[hsz])
      ⟨hs.size,hs.same,hs.gZ,hs.os,hs.out⟩
      ⟨by
        have hne:i≠0:=I
        rw[zbp hne,ar4,h0];simp[woken_run (show (G fr (c++cs)).status=.running from rfl)],hC.stk,by rw[ao0 t (g':=i) I _ (λop hop=>by obtain⟨e,_,rfl⟩:=ad4 hop;rfl)];exact hC.deaf,⟨λj x hj hx=>by
        by_cases hji:i=j
        ·subst hji;rw[ad8 (by simpa using hlt)]at hx;obtain rfl:=ah9 hx;rw[Go.ConcN.upd_same,Deaf_own];exact fX
        ·rw[zbp hji,ar4]at hx;obtain⟨y,hy,rfl⟩:=zb1.1 hx;have hqj:=hL.old j y hj hy;rw[bf0 hqj,Go.ConcN.upd_ne q k (Ne.symm hji),ao0 t hji _ (λop hop=>by obtain⟨e,_,rfl⟩:=ad4 hop;rfl)];exact hqj,λj hj=>by rw[ao0 t (g':=i) (by simp at hj;omega) _ (λop hop=>by obtain⟨e,_,rfl⟩:=ad4 hop;rfl)];exact hL.above j (by simpa using hj)⟩,hC.past.mute hm,λj op hj=>by rw[hsz];exact JB hC.bd hlt j op hj⟩
     refine⟨N+1,gs',fr',c',v',w',Tf,t',q',d',?_,r2.trans hsz,r3,r4,r5⟩;simp only[runNT,hst,zU];exact r1
end
noncomputable def gZ(Sb:Nat->Prop)(w:af):af:={w with heap:=w.heap.mapIdx λi o=>open Classical in if Sb i then(match o with|.cells c t _=>.pending c t|o=>o)else o}
def pF(Sb:Nat->Prop)(w:af):Prop:=∀b,Sb b->∃c t,c.size≠0/\w.heap[b]?=Y (.cells c t (0,0))
section
variable {P:aB}{T:gV}{Sb:Nat->Prop}
def EG(h:pF Sb w):cK Sb (gZ Sb w) w:=by
 refine⟨by simp[gZ],λi hi=>?_,λi hi=>?_,rfl,rfl⟩
 ·simp only[gZ,aw8,if_neg hi];cases w.heap[i]? <;>rfl
 ·obtain⟨c,t,h0,h1⟩:=h i hi;refine⟨c,t,h0,?_,h1⟩;simp only[gZ,aw8,h1,bf4,if_pos hi]
def P4{v:af}(h:cK (λ_=>False) v w):v.heap=w.heap:=by apply an1;intro i;exact h.same i λh=>h
def DG(hT:iG P T)(hG:∀Sb,oW P T Sb)(G5:∀g c,T.tgt g c=E)(hQ:∀fr c v tp n,Q fr c v->Q fr c (wt v tp n)){c:List ak}{q:Nat->Nat}(hC:Crowd P T Sb d fr c cs gs t q)(hw:pF Sb w)(hR:∀tp n,Reach P Q fr c (wt (gZ Sb w) tp n))(sl:Option (Nat×Nat)):
 ∃N gs' fr' c' v' w' sl' t' q' d',runNT P N (crowd gs w sl) t=(.next (crowd gs' w' sl'),t')/\gs'.size=gs.size/\Q fr' c' v'/\cK Sb v' w'/\Crowd P T Sb d' fr' c' cs gs' t' q':=
 Nb hT (hG Sb) G5 (Nc hT (hG _) G5 hQ hC.stk hR) _ d gs w sl t q rfl (EG hw) hC
def mW{m1:Machine}{t1:Trace}:∀(a:Nat) {m:Machine} {t:Trace} (b:Nat),runNT P a m t=(.next m1,t1)->runNT P (a+b) m t=runNT P b m1 t1
 | 0,m,t,b,h=>by simp only[runNT,Prod.mk.injEq,am5]at h;obtain⟨rfl,rfl⟩:=h;rw[Nat.zero_add]
 |a+1,m,t,b,h=>by
  rw[Nat.add_right_comm];simp only[runNT]at h⊢;cases hs:stepT P m with
  |mk s ops=>
   rw[hs]at h;cases s with
   |next m'=>simp only at h⊢;exact mW a b h
   |ended o w=>simp only at h;cases h
def DH(gs:Array au)(h:gs.size=1):Leavers P #[] gs (λ_=>0):=⟨λi g hi hg=>by have:=(zbo.1 hg).1;omega,λj _=>rfl⟩
def EH(hS:AP T 0 fr []):Crowd P T (λ_=>False) 0 fr [] [] #[G fr []] #[] (λ_=>0):=by
 refine⟨rfl,hS,rfl,DH _ rfl,⟨λsaid=>?_,λi a ha=>?_,λi g hg=>?_⟩,λi op h=>by simp at h⟩
 ·rintro⟨i,j,_,⟨a,b,ha,_⟩,_⟩;simp[Trace.act?]at ha
 ·obtain⟨x,hx,_⟩:=at8 ha;simp at hx
 ·simp[Trace.g?]at hg
def Hj{Post:aj->af->Prop}:∀(M:Nat) (d:Nat) (gs:Array au) (w:af) (sl:Option (Nat×Nat)) (t:Trace) (q:Nat->Nat),sumTo gs.size q=M->Crowd P T Sb d fr [] [] gs t q->(∀n,stepG P Z6 (G fr []) (w.at n)=.ended (.done x) (w.at n) #[]/\Post x (w.at n))->
 ∃N last o w' t',runNT P (N+1) (crowd gs w sl) t=(.ended o w',t')/\runN P N (crowd gs w sl)=.next last/\step P last=.ended o w'/\Conc.Good P Post last o w' t':=by
 intro M;induction M using Nat.strongRecOn with
 |_ M ihM=>
  intro d gs w sl t q hM hC hend;have h0:=hC.at0;have hL:=hC.lv;have Y0:0<gs.size:=(zbo.1 h0).1;have VV:∀g∈gs,awake g:=by
   intro g hg;obtain⟨i,hi,rfl⟩:=Array.mem_iff_getElem.1 hg;rcases zb0 i with rfl|hpos
   ·have:gs[0]=G fr ([]++ []):=by simpa[ad7 hi]using h0
    rw[this];exact awake_of (.inl rfl)
   ·exact awake_of ((hL.old i _ hpos (ad7 hi)).status.elim .inl λx=>.inr (.inr x))
  obtain⟨i,g,n,sl',hi,hg,hst⟩:=crowd_pick (P:=P) (w:=w) (sl:=sl) VV ⟨0,_,h0,rfl⟩;rcases zb0 i with rfl|hpos
  ·obtain rfl:g=G fr []:=by rw[h0]at hi;exact(ah9 hi).symm
   obtain⟨he,hp⟩:=hend n;have zU:=runT_many_ended (P:=P) (sl:=sl') (i:=0) hi (show stepG P (0 == 0) (G fr []) (w.at n)=_ from he);have hP':=hC.past.own (fn:=fr.fn) (pos:=fr.place) (es:=#[]) (λe he=>by simp at he);have ht0:stepT P (crowd gs w sl)=(.ended (.done x) (w.at n),ac0 0 fr.fn fr.place #[]):=hst.trans zU;refine⟨0,crowd gs w sl,.done x,w.at n,t++ac0 0 fr.fn fr.place #[],by simp only[runNT,ht0],rfl,by rw[step,ht0],x,rfl,hp,hP'.clean,hP'.over,⟨λy hy=>?_,rfl⟩,λj y hy hj=>?_⟩
   ·obtain⟨j,hj⟩:=List.mem_iff_getElem?.1 hy;rw[List.getElem?_drop]at hj;exact⟨_,(hL.old (1+j) y I (by simpa[crowd]using hj)).leaves⟩
   ·have hq:=hL.old j y I hy;refine⟨q j,?_⟩;have e:(t++ac0 0 fr.fn fr.place #[]).deaf j (t++ac0 0 fr.fn fr.place #[]).size=Deaf t j:=
     ao0 t (g:=j) (g':=0) I _ (λop hop=>by obtain⟨e,_,rfl⟩:=ad4 hop;rfl)
    rw[e];exact hq.hears _
  ·have hq:=hL.old i g hpos hi;have hi0:(i == 0)=E:=by simp;omega
   have hlt:i<gs.size:=(zbo.1 hi).1;cases KZ:q i with
   |zero=>rw[KZ]at hq;rw[hq.1]at hg;cases hg
   |succ k=>
    rw[KZ]at hq;rcases hq with⟨hf,_⟩|⟨_,g',es,hm,Ry,fX⟩
    ·rw[hf]at hg;cases hg
    have zU:=bd4 (P:=P) (sl:=sl') (i:=i) hi (by rw[hi0];exact Ry (w.at n));have hsz:((gs.map (woken P g g' (w.at n))).setIfInBounds i g').size=gs.size:=XI
    have hsum:sumTo gs.size (ay5 q i k)+(k+1)=sumTo gs.size q+k:=by have:=sumTo_upd q k id hlt;simpa[KZ]using this
    obtain⟨N,last,o,w',t',r1,r2,r3,r4⟩:=ihM (sumTo gs.size (ay5 q i k)) I d ((gs.map (woken P g g' (w.at n))).setIfInBounds i g') (w.at n) sl' (t++ac0 i g.frame.fn g.frame.place es) (ay5 q i k) (by rw[hsz])
     ⟨by
       have hne:i≠0:=I
       rw[zbp hne,ar4,h0];simp[woken_run (show (G fr []).status=.running from rfl)],hC.stk,by rw[ao0 t (g':=i) I _ (λop hop=>by obtain⟨e,_,rfl⟩:=ad4 hop;rfl)];exact hC.deaf,⟨λj x hj hx=>by
       by_cases hji:i=j
       ·subst hji;rw[ad8 (by simpa using hlt)]at hx;obtain rfl:=ah9 hx;rw[Go.ConcN.upd_same,Deaf_own];exact fX
       ·rw[zbp hji,ar4]at hx;obtain⟨y,hy,rfl⟩:=zb1.1 hx;have hqj:=hL.old j y hj hy;rw[bf0 hqj,Go.ConcN.upd_ne q k (Ne.symm hji),ao0 t hji _ (λop hop=>by obtain⟨e,_,rfl⟩:=ad4 hop;rfl)];exact hqj,λj hj=>by rw[ao0 t (g':=i) (by simp at hj;omega) _ (λop hop=>by obtain⟨e,_,rfl⟩:=ad4 hop;rfl)];exact hL.above j (by simpa using hj)⟩,hC.past.mute hm,λj op hj=>by rw[hsz];exact JB hC.bd hlt j op hj⟩ (λn'=>hend n')
    have ac4:stepT P (crowd gs w sl)=(.next (crowd ((gs.map (woken P g g' (w.at n))).setIfInBounds i g') (w.at n) sl'),ac0 i g.frame.fn g.frame.place es):=hst.trans zU;refine⟨N+1,last,o,w',t',?_,?_,r3,r4⟩
    ·rw[show N+1+1=(N+1)+1 from rfl];simp only[runNT,ac4]at r1⊢;exact r1
    ·rw[runN_succ_next ac4];exact r2
end
end
section
open Go Go.Conc
def To(P:aB)(Q:ak->List ak->af->Prop)(fr:ak)(c:List ak)(w:af):Prop:=∀cs,∃fr' c' w',Q fr' c' w'/\Steps P (lone fr (c++cs) w) (lone fr' (c'++cs) w')
section
variable {P:aB}{Q Q':ak->List ak->af->Prop}{fr gC b:ak}{c c1:List ak}{w w1:af}{a:Act}{k:List Item}{x rest:Code}
def To.done(h:Q fr c w):To P Q fr c w:=λ_=>⟨fr,c,w,h,.refl P _⟩
def To.then(h:To P Q fr c w)(hq:∀fr c w,Q fr c w->To P Q' fr c w):To P Q' fr c w:=λcs=>by obtain⟨f1,c1,w1,h1,s1⟩:=h cs;obtain⟨f2,c2,w2,h2,s2⟩:=hq f1 c1 w1 h1 cs;exact⟨f2,c2,w2,h2,s1.trans s2⟩
def To.step(hs:∀cs,step P (lone fr (c++cs) w)=.next (lone gC (c1++cs) w1))(h:To P Q gC c1 w1):To P Q fr c w:=λcs=>by obtain⟨f2,c2,w2,h2,s2⟩:=h cs;exact⟨f2,c2,w2,h2,.head (hs cs) s2⟩
def To.code{R:Act->af->Prop}(hx:x.wp P (Exit.then R λ_ _ _=>False) a w)(h:∀a' w',R a' w'->To P Q (b.at a' k) c w'):To P Q (b.at a (.code x :: k)) c w:=λcs=>by
 obtain⟨e,a',w',hq,xH⟩:=hx b k (c++cs);cases e with
 |normal=>
  obtain⟨f2,c2,w2,h2,s2⟩:=h a' w' hq cs;exact⟨f2,c2,w2,h2,Steps.trans xH s2⟩
 |_=>exact hq.elim
def To.dU(h:∀K:Act->af->Prop,(∀a w,To P Q (b.at a (.code rest :: k)) c w->K a w)->x.wp P (Exit.then K λ_ _ _=>False) a w):To P Q (b.at a (.code (x.seq rest):: k)) c w:=
 .step (λ_=>step_seq) (.code (h _ λ_ _ h=>h) λ_ _ h=>h)
def To.last{R:Act->af->Prop}(hx:x.wp P (λe a w=>(e=.normal\/e=.ret)/\R a w) a w)(hk:k= [])(h:∀a' todo w',R a' w'->To P Q {b.at a' todo with mode:=.returning} c w'):To P Q (b.at a (.code x :: k)) c w:=λcs=>by
 subst hk;obtain⟨e,a',w',⟨he,hq⟩,xH⟩:=hx b [] (c++cs);rcases he with rfl|rfl
 ·obtain⟨f2,c2,w2,h2,s2⟩:=h a' [] w' hq cs;exact⟨f2,c2,w2,h2,Steps.trans xH (.head step_end s2)⟩
 ·obtain⟨todo,hst⟩:=xH;obtain⟨f2,c2,w2,h2,s2⟩:=h a' todo w' hq cs;exact⟨f2,c2,w2,h2,Steps.trans hst s2⟩
def To.region{id:Nat}{ops:Array Oper}(h:To P Q (b.at a (.inRegion ops (List.range ops.size):: k)) c w):To P Q (b.at a (.code (.region id ops E):: k)) c w:=.step (λ_=>step_region) h
def To.over{ops:Array Oper}(h:To P Q (b.at a k) c w):To P Q (b.at a (.inRegion ops [] :: k)) c w:=.step (λ_=>step_region_end) h
def To.ops{ops:Array Oper}{is:List Nat}{R:Act->af->Prop}(hx:wpOps P ops (Exit.then R λ_ _ _=>False) is a w)(h:∀a' w',R a' w'->To P Q (b.at a' k) c w'):To P Q (b.at a (.inRegion ops is :: k)) c w:=λcs=>by
 obtain⟨e,a',w',hq,xH⟩:=wp_ops is a w hx b k (c++cs);cases e with
 |normal=>
  obtain⟨f2,c2,w2,h2,s2⟩:=h a' w' hq cs;exact⟨f2,c2,w2,h2,Steps.trans xH s2⟩
 |_=>exact hq.elim
def qK(h:o.guard=F)(f:Nat->Option Bool):ac3 o f=Z6:=by unfold ac3;rw[h]
def y9{ops:Array Oper}{P6:Exit->Act->af->Prop}(j:Nat):wpOps P ops P6 (List.range' j (ops.toList.drop j).length)=wpList P ops P6 (ops.toList.drop j):=wpOps_eq_wpList _ j λi=>by rw[List.getElem?_drop];simp
def To.VZ{ops:Array Oper}(h:∀K:Act->af->Prop,(∀a w,To P Q (b.at a k) c w->K a w)->wpOps P ops (Exit.then K λ_ _ _=>False) is a w):To P Q (b.at a (.inRegion ops is :: k)) c w:=.ops (h _ λ_ _ h=>h) λ_ _ h=>h
def To.op{ops:Array Oper}(ho:ops[i]?=Y o)(hw:ac3 o (ai5 ops a.tmps)=Z6)(hr:(ad6 a.eval o).run P w=.ok (.value v) w1)(h:To P Q (b.at (a.put o.dst v) (.inRegion ops is :: k)) c w1):To P Q (b.at a (.inRegion ops (i :: is):: k)) c w:=by refine .step (λcs=>step_lone_go ?_) h;rw[stepG_op ho hw];simp only[ad9,Sem.runT_eq,if_true,hr];rw[au0,ho];rfl
def To.enter{ops:Array Oper}{i:Nat}{is:List Nat}{o:Oper}{f:ay}{args:Array aj}(ho:ops[i]?=Y o)(hw:ac3 o (ai5 ops a.tmps)=Z6)(hr:(ad6 a.eval o).run P w=.ok (.enter f args) w1)(h:To P Q (af0 P f args .normal) (b.at a (.inRegion ops (i :: is):: k):: c) w1):To P Q (b.at a (.inRegion ops (i :: is):: k)) c w:=by refine .step (c1:=b.at a (.inRegion ops (i :: is):: k):: c) (λcs=>step_lone_go ?_) h;rw[stepG_op ho hw];simp only[ad9,Sem.runT_eq,if_true,hr];rfl
def To.leave(hl:fr.leaving P w (.returned v))(h:To P Q (cl.finish v) c w):To P Q fr (cl :: c) w:=.step (λ_=>step_leave_returned hl) h
def eM{ops:Array Oper}(ho:ops[i]?=Y o):(b.at a (.inRegion ops (i :: is):: k)).finish v=b.at (a.put o.dst v) (.inRegion ops is :: k):=by rw[au0,ho];rfl
def enter_at{body:Code}(hf:P.funcs[f]?=Y fn)(hb:fn.body=Y body)(args:Array aj):af0 P f args .normal=({fn:=f,tmps:=#[],todo:= [],defers:= [],mode:=.run,kind:=.normal,roundOf:=F}:ak).at ⟨args++ap6 (fn.ntmps-args.size) undef, []⟩ [.code body]:=by simp[af0,Frame.at,hf,hb]
def To.reach(h:To P Q fr c w)(hn:∀fr c w,Q fr c w->iY fr c):Reach P Q fr c w:=by obtain⟨f2,c2,w2,h2,n,hn2⟩:=h [dm P];exact⟨n,f2,c2,w2,hn2,h2,hn _ _ _ h2⟩
end
end
end Go.Proofs.YteoahlieielcdaaGreat
