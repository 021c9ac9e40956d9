import Derived.Test.YteoahlieielcdaaGreatJ26
set_option linter.all false
set_option maxRecDepth 100000
namespace Go.Proofs.YteoahlieielcdaaGreat
open Go.Proofs.Tryz
open Go Go.Conc
variable{Sb:Nat->Prop}
def uL{f:ay}{fn:Func}{e:Array aj->Sem aj}(hf:prog.funcs[f]?=some fn)(h:∀args,aG prog Sb False (e args))(args:Array aj)(h1:(fn.name == "runtime.NumGoroutine")=false:=by kernel_rfl)(h2:fn.body.isNone=true:=by kernel_rfl)(h3:Extern.findNext fn=none:=by kernel_rfl)(h4:Extern.find fn=some e:=by kernel_rfl):aG prog Sb False (callFunc f args):=X6 hf h1 h2 h3 h4 h args
def X7(Sb:Nat->Prop):og prog uu Sb:=by
 refine⟨by kernel_rfl,fun f hf args=>?_,fun args=>?_,fun args=>?_⟩
 ·have hm:f∈heard:=List.contains_iff_mem.1 hf;simp only[heard,List.mem_cons,List.not_mem_nil,or_false]at hm;rcases hm with rfl|rfl|rfl|rfl|rfl|rfl|rfl|rfl|rfl|rfl|rfl|rfl|rfl|rfl|rfl|rfl|rfl|rfl|rfl|rfl|rfl|rfl|rfl|rfl|rfl
  ·exact uL (e:=Extern.Atomic.casT (.int .i32)) func108 (fun args=>JM ..) args
  ·exact uL (e:=Extern.Race.marked .acquire) func110 (fun args=>p9 ..) args
  ·exact uL (e:=Extern.Race.marked .releaseMerge) func112 (fun args=>p9 ..) args
  ·exact uL (e:=Extern.Atomic.update (Op.intArith .add) .i32 true) func113 (fun args=>uM _ (fun _ _ _=>lG ..) ..) args
  ·exact uL (e:=Extern.Sync.canSpin) func134 (fun args=>H7 _) args
  ·exact uL (e:=Extern.Sync.nothing) func135 (fun args=>H8 _) args
  ·exact uL (e:=Extern.Sync.die .throw) func136 (fun args=>Ia _ _) args
  ·exact uL (e:=Extern.OsHooks.nano) func137 (fun args=>TL _) args
  ·exact uL (e:=Extern.Sync.semacquire) func138 (fun args=>qE _) args
  ·exact uL (e:=Extern.Sync.die .fatal) func139 (fun args=>Ia _ _) args
  ·exact uL (e:=Extern.Sync.semrelease) func140 (fun args=>qG _) args
  ·exact uL (e:=Extern.Race.marked .read) func145 (fun args=>p9 ..) args
  ·exact uL (e:=Extern.Race.marked .write) func125 (fun args=>p9 ..) args
  ·exact uL (e:=fun _=>pure (.bool false)) func126 (fun args=>aG.pure) args
  ·exact uL (e:=Extern.Sync.semacquire) func127 (fun args=>qE _) args
  ·exact uL (e:=Extern.Sync.semrelease) func147 (fun args=>qG _) args
  ·exact uL (e:=Extern.Sync.die .fatal) func142 (fun args=>Ia _ _) args
  ·exact uL (e:=Extern.Atomic.loadT (.int .u64)) func148 (fun args=>Qk ..) args
  ·exact uL (e:=Extern.Atomic.casT (.int .u64)) func149 (fun args=>JM ..) args
  ·exact uL (e:=Extern.Atomic.update (Op.intArith .add) .u64 true) func152 (fun args=>uM _ (fun _ _ _=>lG ..) ..) args
  ·exact uL (e:=Extern.Atomic.update (Op.intBits .or) .u64 false) func151 (fun args=>uM _ (fun _ _ _=>yI ..) ..) args
  ·exact uL (e:=Extern.Atomic.storeT) func153 (fun args=>LS _) args
  ·exact uL (e:=Extern.Synctest.none_) func122 (fun args=>aG.halt) args
  ·exact uL (e:=Extern.Synctest.none_) func124 (fun args=>aG.halt) args
  ·exact uL (e:=Extern.Synctest.none_) func141 (fun args=>aG.halt) args
 ·exact uL (e:=fun _=>do mark .disable;pure Extern.Race.none_) func107 (fun _=>Ql _ _) args
 ·exact uL (e:=fun _=>do mark .enable;pure Extern.Race.none_) func109 (fun _=>Ql _ _) args
def TM:∀g c,uu.tgt g c=false:=fun _ _=>rfl
def beside{Q:ak->List ak->af->Prop}(hQ:∀fr c v tp n,Q fr c v->Q fr c (wt v tp n)){d:Nat}{fr:ak}{c cs:List ak}{gs:Array au}{w:af}{t:Trace}{q:Nat->Nat}(hC:Crowd prog uu Sb d fr c cs gs t q)(hw:oJ Sb w)(hR:∀tp n,Reach prog Q fr c (wt (gF Sb w) tp n))(sl:Option (Nat×Nat)):
 ∃N gs' fr' c' v' w' sl' t' q' d',runNT prog N (crowd gs w sl) t=(.next (crowd gs' w' sl'),t')/\gs'.size=gs.size/\Q fr' c' v'/\cx Sb v' w'/\Crowd prog uu Sb d' fr' c' cs gs' t' q':=
 CL Cn X7 TM hQ hC hw hR sl
end Go.Proofs.YteoahlieielcdaaGreat
