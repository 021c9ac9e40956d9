import Derived.Test.YteoahlieielcdaaGreatJ26
set_option linter.all false
set_option maxRecDepth 100000
open Go.Extern.Atomic renaming update->al4,casT->aq0,loadT->au9,storeT->ax1
open Go.Extern.Race renaming marked->am7
namespace Go.Proofs.YteoahlieielcdaaGreat
open Go.Proofs.Tryz
open Go Go.Conc
variable{Sb:Nat->Prop}
def vN{f:ay}{fn:Func}{e:Array aj->Sem aj}(hf:prog.funcs[f]?=some fn)(h:∀args,aG prog Sb False (e args))(args:Array aj)(h1:(fn.name == "runtime.NumGoroutine")=false:=by kernel_rfl)(h2:fn.body.isNone=true:=by kernel_rfl)(h3:Extern.findNext fn=none:=by kernel_rfl)(h4:Extern.find fn=some e:=by kernel_rfl):aG prog Sb False (callFunc f args):=Y1 hf h1 h2 h3 h4 h args
def Y2(Sb:Nat->Prop):oW prog vi Sb:=by
 refine⟨Yl,λf hf args=>?_,λargs=>?_,λargs=>?_⟩
 ·have hm:f∈heard:=List.contains_iff_mem.1 hf;simp only[heard,List.mem_cons,List.not_mem_nil,or_false]at hm;rcases hm with rfl|rfl|rfl|rfl|rfl|rfl|rfl|rfl|rfl|rfl|rfl|rfl|rfl|rfl|rfl|rfl|rfl|rfl|rfl|rfl|rfl|rfl|rfl|rfl|rfl
  ·exact vN (e:=aq0 (.int .i32)) func108 (λargs=>K5 ..) args
  ·exact vN (e:=am7 .acquire) func110 (λargs=>qW ..) args
  ·exact vN (e:=am7 .releaseMerge) func112 (λargs=>qW ..) args
  ·exact vN (e:=al4 (Op.intArith .add) .i32 true) func113 (λargs=>vO _ (λ_ _ _=>mE ..) ..) args
  ·exact vN (e:=Extern.Sync.canSpin) func134 (λargs=>JC _) args
  ·exact vN (e:=Extern.Sync.nothing) func135 (λargs=>JD _) args
  ·exact vN (e:=Extern.Sync.die .throw) func136 (λargs=>JE _ _) args
  ·exact vN (e:=Extern.OsHooks.nano) func137 (λargs=>U0 _) args
  ·exact vN (e:=Extern.Sync.semacquire) func138 (λargs=>rS _) args
  ·exact vN (e:=Extern.Sync.die .fatal) func139 (λargs=>JE _ _) args
  ·exact vN (e:=Extern.Sync.semrelease) func140 (λargs=>rT _) args
  ·exact vN (e:=am7 .read) func145 (λargs=>qW ..) args
  ·exact vN (e:=am7 .write) func125 (λargs=>qW ..) args
  ·exact vN (e:=λ_=>pure (.bool false)) func126 (λargs=>aG.pure) args
  ·exact vN (e:=Extern.Sync.semacquire) func127 (λargs=>rS _) args
  ·exact vN (e:=Extern.Sync.semrelease) func147 (λargs=>rT _) args
  ·exact vN (e:=Extern.Sync.die .fatal) func142 (λargs=>JE _ _) args
  ·exact vN (e:=au9 (.int .u64)) func148 (λargs=>Rz ..) args
  ·exact vN (e:=aq0 (.int .u64)) func149 (λargs=>K5 ..) args
  ·exact vN (e:=al4 (Op.intArith .add) .u64 true) func152 (λargs=>vO _ (λ_ _ _=>mE ..) ..) args
  ·exact vN (e:=al4 (Op.intBits .or) .u64 false) func151 (λargs=>vO _ (λ_ _ _=>zV ..) ..) args
  ·exact vN (e:=ax1) func153 (λargs=>Nd _) args
  ·exact vN (e:=Extern.Synctest.none_) func122 (λargs=>aG.halt) args
  ·exact vN (e:=Extern.Synctest.none_) func124 (λargs=>aG.halt) args
  ·exact vN (e:=Extern.Synctest.none_) func141 (λargs=>aG.halt) args
 ·exact vN (e:=λ_=>do mark .disable;pure Extern.Race.none_) func107 (λ_=>RE _ _) args
 ·exact vN (e:=λ_=>do mark .enable;pure Extern.Race.none_) func109 (λ_=>RE _ _) args
def U1:∀g c,vi.tgt g c=false:=λ_ _=>rfl
def beside{Q:ak->List ak->af->Prop}(hQ:∀fr c v tp n,Q fr c v->Q fr c (wt v tp n)){d:Nat}{fr:ak}{c cs:List ak}{gs:Array au}{w:af}{t:Trace}{q:Nat->Nat}(hC:Crowd prog vi Sb d fr c cs gs t q)(hw:pF Sb w)(hR:∀tp n,Reach prog Q fr c (wt (gZ Sb w) tp n))(sl:Option (Nat×Nat)):
 ∃N gs' fr' c' v' w' sl' t' q' d',runNT prog N (crowd gs w sl) t=(.next (crowd gs' w' sl'),t')/\gs'.size=gs.size/\Q fr' c' v'/\cK Sb v' w'/\Crowd prog vi Sb d' fr' c' cs gs' t' q':=
 DG Da Y2 U1 hQ hC hw hR sl
end Go.Proofs.YteoahlieielcdaaGreat
