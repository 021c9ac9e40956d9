import Derived.Test.YteoahlieielcdaaGreatV4
set_option linter.all false
set_option maxRecDepth 100000
namespace Go.Proofs.YteoahlieielcdaaGreat
open Go.Proofs.Tryz
open Go Go.Conc
abbrev zbi:=@List.mem_cons_of_mem
abbrev zbj:=@Array.all_eq_true_iff_forall_mem
abbrev zbk:=@List.contains_iff_mem
variable{f:FuncId}
def DU:List FuncId:= [34,27,26,29,28,30,21,22,
 66,67,49,68,36,47,83,69,106,
 84,128,50,48,39,51,40,55,43,
 86,88,89,52,53,54,87,72,73,41,42,76,
 90,91,92,74,75,115,130,150,85,129,
 37,38,70,71]
def DV:List FuncId:= [8,11,7,6,31,24,45,35,16,15,46,14,9,10,12,23,44,82,17,18,19,20,25,
 77,78,116,172,169,170,171,79,117]
def DW:List FuncId:= [121,123,144,143,146]
def heard:List FuncId:= [108,110,112,113,134,135,136,137,138,139,140,
 145,125,126,127,147,142,148,149,152,151,153,
 122,124,141]
def QJ(fs:List FuncId)(f:FuncId)(d:Nat):Option Nat:=if f=111 then(if d=1 then some 0 else none)else if f=114 then(if d=1 then some 1 else none)else if fs.contains f=true then(if d=0 then some 0 else none)else if DW.contains f=true then(if d<2 then some d else none)else none
def abC(f:FuncId):List Nat:=if f=47 then [27,5,31]else if f=84 then [1,6]else if f=128 then [1,11]else []
def UL(fs:List FuncId):gI:=⟨fun f=>heard.contains f,QJ fs,107,109,abC,83,38,fun _ _=>false,fun f=>f == 117,fun s=>s == "MayWrite"⟩
def w7:gI:=UL (DU++DV)
noncomputable def okF(T:gI)(f:FuncId)(a:Nat):Bool:=
 match T.j8 f a,prog.funcs[f]? with
 |some b,some fn=>match fn.body with
  |some c=>!(fn.name == "runtime.NumGoroutine")&&(match T.ck f b c a []with|some none=>true|some (some e)=>e % 2 == b+e / 2|none=>false)
  |none=>false
 |none,_=>true
 |_,_=>false
theorem TE{T:gI}{a b:Nat}(h:okF T f a=true)(hi:T.j8 f a=some b):∃fn c,prog.funcs[f]?=some fn/\(fn.name == "runtime.NumGoroutine")=false/\fn.body=some c/\∃r,T.ck f b c a []=some r/\∀e,r=some e->e % 2=b+e / 2:=by
 unfold okF at h;rw[hi]at h;split at h
 ·rename_i b' fn h1 h2;cases h1;split at h
  ·rename_i c hc;simp only[Bool.and_eq_true]at h;obtain⟨h3,h4⟩:=h;refine⟨fn,c,h2,by simpa using h3,hc,?_⟩;cases hk:T.ck f b c a []with
   |none=>rw[hk]at h4;cases h4
   |some r=>
    refine⟨r,rfl,fun e he=>?_⟩;subst he;rw[hk]at h4;simpa using h4
  ·cases h
 ·rename_i h1;cases h1
 ·cases h
theorem QK:∀g,prog.stepOf g=none:=by
 have h:(prog.funcs.all fun f=>match f.body with|some c=>(readies c).isEmpty|none=>true)=true:=by kernel_rfl
 intro g;unfold Program.stepOf;rw[Array.findIdx?_eq_none_iff];intro f hf;have h1:=zbj.1 h f hf;cases hb:f.body with
 |none=>rfl
 |some c=>
  rw[hb]at h1;have:readies c= []:=by simpa using h1
  simp[this]
theorem MU(h:QL prog "MayWrite" f):f=116\/f=172\/f=169:=by
 obtain⟨t,i,m,b,h1,h2,h3,h4⟩:=h;have hall:(prog.types.all fun i=>i.methods.all fun m=>!(m.name == "MayWrite")||(match m.func with|some (f,_)=>f == 116 || f == 172 || f == 169|none=>true))=true:=by kernel_rfl
 have g1:=zbj.1 hall i (Array.mem_of_getElem? h1);have g2:=zbj.1 g1 m h2;rw[h4,h3]at g2;simpa[or_assoc]using g2
theorem exb{fn:Func}{e:Array Value->Sem Value}(hf:prog.funcs[f]?=some fn)(xG:∀args,BT false (do pure (Next.value (<-e args)):Sem Next))(h1:(fn.name == "runtime.NumGoroutine")=false:=by kernel_rfl)(h2:fn.body.isNone=true:=by kernel_rfl)(h3:Extern.findNext fn=none:=by kernel_rfl)(h4:Extern.find fn=some e:=by kernel_rfl)(args:Array Value)(w:World)(n:Next)(w':World)(es:Array Event)(hr:(callFunc f args).runT prog w #[]=(.ok n w',es)):(∃v,n=.value v)/\∀g d,deafBehind d (seen prog g es)=d:=dQ hf h1 h2 h3 h4 xG args w n w' es hr
theorem CR:gY prog w7:=by
 have h:((111 :: 114 ::(DU++DV++DW)).all fun f=>okF w7 f 0 && okF w7 f 1)=true:=by kernel_rfl
 have two:∀f a b,QJ (DU++DV) f a=some b->a<2/\f∈(111 :: 114 ::(DU++DV++DW)):=by
  intro f a b hi;unfold QJ at hi;split at hi
  ·rename_i e;split at hi
   ·rename_i e2;exact⟨by omega,by rw[e];exact List.mem_cons_self ..⟩
   ·cases hi
  ·split at hi
   ·rename_i e;split at hi
    ·rename_i e2;exact⟨by omega,by rw[e];exact zbi _ (List.mem_cons_self ..)⟩
    ·cases hi
   ·split at hi
    ·rename_i e;split at hi
     ·rename_i e2;exact⟨by omega,zbi _ (zbi _ (List.mem_append_left _ (zbk.1 e)))⟩
     ·cases hi
    ·split at hi
     ·rename_i e;split at hi
      ·rename_i e2;exact⟨e2,zbi _ (zbi _ (List.mem_append_right _ (zbk.1 e)))⟩
      ·cases hi
     ·cases hi
 refine⟨QK,fun f a b hi=>(two f a b hi).1,fun f a b hi=>?_,⟨by kernel_rfl,rfl⟩,⟨by kernel_rfl,rfl⟩,fun f hf=>?_,?_,?_,fun s f hs hn=>?_⟩
 ·obtain⟨h1,h2⟩:=two f a b hi;have h3:=List.all_eq_true.1 h f h2;simp only[Bool.and_eq_true]at h3;refine TE ?_ hi;rcases Nat.lt_or_ge a 1 with h4|h4
  ·obtain rfl:a=0:=by omega
   exact h3.1
  ·obtain rfl:a=1:=by omega
   exact h3.2
 ·have hm:f∈heard:=zbk.1 hf;simp only[heard,List.mem_cons,List.not_mem_nil,or_false]at hm;rcases hm with rfl|rfl|rfl|rfl|rfl|rfl|rfl|rfl|rfl|rfl|rfl|rfl|rfl|rfl|rfl|rfl|rfl|rfl|rfl|rfl|rfl|rfl|rfl|rfl|rfl
  ·exact exb (e:=Extern.Atomic.casT (.int .i32)) func108 fun args=>fo (KJ ..)
  ·exact exb (e:=Extern.Race.marked .acquire) func110 fun args=>fo (qJ _ (fun _=>by simp) (fun _=>by simp) _)
  ·exact exb (e:=Extern.Race.marked .releaseMerge) func112 fun args=>fo (qJ _ (fun _=>by simp) (fun _=>by simp) _)
  ·exact exb (e:=Extern.Atomic.update (Op.intArith .add) .i32 true) func113 fun args=>fo (vF _ (fun _ _ _=>j4 ..) ..)
  ·exact exb (e:=Extern.Sync.canSpin) func134 fun args=>fo (JC _)
  ·exact exb (e:=Extern.Sync.nothing) func135 fun args=>fo (JD _)
  ·exact exb (e:=Extern.Sync.die .throw) func136 fun args=>fo (JE _ _)
  ·exact exb (e:=Extern.OsHooks.nano) func137 fun args=>fo (TC _)
  ·exact exb (e:=Extern.Sync.semacquire) func138 fun args=>DS (rK _)
  ·exact exb (e:=Extern.Sync.die .fatal) func139 fun args=>fo (JE _ _)
  ·exact exb (e:=Extern.Sync.semrelease) func140 fun args=>DS (rL _)
  ·exact exb (e:=Extern.Race.marked .read) func145 fun args=>fo (qJ _ (fun _=>by simp) (fun _=>by simp) _)
  ·exact exb (e:=Extern.Race.marked .write) func125 fun args=>fo (qJ _ (fun _=>by simp) (fun _=>by simp) _)
  ·exact exb (e:=fun _=>pure (.bool false)) func126 fun args=>fo (.pure)
  ·exact exb (e:=Extern.Sync.semacquire) func127 fun args=>DS (rK _)
  ·exact exb (e:=Extern.Sync.semrelease) func147 fun args=>DS (rL _)
  ·exact exb (e:=Extern.Sync.die .fatal) func142 fun args=>fo (JE _ _)
  ·exact exb (e:=Extern.Atomic.loadT (.int .u64)) func148 fun args=>fo (QI ..)
  ·exact exb (e:=Extern.Atomic.casT (.int .u64)) func149 fun args=>fo (KJ ..)
  ·exact exb (e:=Extern.Atomic.update (Op.intArith .add) .u64 true) func152 fun args=>fo (vF _ (fun _ _ _=>j4 ..) ..)
  ·exact exb (e:=Extern.Atomic.update (Op.intBits .or) .u64 false) func151 fun args=>fo (vF _ (fun _ _ _=>sM ..) ..)
  ·exact exb (e:=Extern.Atomic.storeT) func153 fun args=>fo (MT _)
  ·exact exb (e:=Extern.Synctest.none_) func122 fun args=>fo .halt
  ·exact exb (e:=Extern.Synctest.none_) func124 fun args=>fo .halt
  ·exact exb (e:=Extern.Synctest.none_) func141 fun args=>fo .halt
 ·exact Gn (m:=.disable) (δ:=fun d=>d+1) func107 (by kernel_rfl) (by kernel_rfl) (by kernel_rfl) (by kernel_rfl) fun d=>rfl
 ·exact TD (m:=.enable) (δ:=fun d=>d-1) func109 (by kernel_rfl) (by kernel_rfl) (by kernel_rfl) (by kernel_rfl) fun d=>rfl
 ·have e:s= "MayWrite" :=by simpa[w7,UL]using hs
  subst e;rcases MU hn with rfl|rfl|rfl<;>exact⟨by kernel_rfl,rfl⟩
end Go.Proofs.YteoahlieielcdaaGreat
