import Derived.Test.YteoahlieielcdaaGreatV8
import Derived.Test.YteoahlieielcdaaGreatJ22
set_option linter.all false
set_option maxRecDepth 100000
namespace Go.Proofs.YteoahlieielcdaaGreat
open Go.Proofs.Tryz
open Go Go.Conc
variable{Sb:Nat->Prop}
theorem gdx{f:FuncId}{fn:Func}{e:Array Value->Sem Value}(hf:prog.funcs[f]?=some fn)(h:∀args,af prog Sb False (e args))(args:Array Value)(h1:(fn.name == "runtime.NumGoroutine")=false:=by kernel_rfl)(h2:fn.body.isNone=true:=by kernel_rfl)(h3:Extern.findNext fn=none:=by kernel_rfl)(h4:Extern.find fn=some e:=by kernel_rfl):af prog Sb False (callFunc f args):=dA hf h1 h2 h3 h4 h args
theorem WK(Sb:Nat->Prop):oJ prog w7 Sb:=by
 refine⟨by kernel_rfl,fun f hf args=>?_,fun args=>?_,fun args=>?_⟩
 ·have hm:f∈heard:=List.contains_iff_mem.1 hf;simp only[heard,List.mem_cons,List.not_mem_nil,or_false]at hm;rcases hm with rfl|rfl|rfl|rfl|rfl|rfl|rfl|rfl|rfl|rfl|rfl|rfl|rfl|rfl|rfl|rfl|rfl|rfl|rfl|rfl|rfl|rfl|rfl|rfl|rfl
  ·exact gdx (e:=Extern.Atomic.casT (.int .i32)) func108 (fun args=>Kn ..) args
  ·exact gdx (e:=Extern.Race.marked .acquire) func110 (fun args=>qA ..) args
  ·exact gdx (e:=Extern.Race.marked .releaseMerge) func112 (fun args=>qA ..) args
  ·exact gdx (e:=Extern.Atomic.update (Op.intArith .add) .i32 true) func113 (fun args=>vg _ (fun _ _ _=>jX ..) ..) args
  ·exact gdx (e:=Extern.Sync.canSpin) func134 (fun args=>IZ _) args
  ·exact gdx (e:=Extern.Sync.nothing) func135 (fun args=>I0 _) args
  ·exact gdx (e:=Extern.Sync.die .throw) func136 (fun args=>I1 _ _) args
  ·exact gdx (e:=Extern.OsHooks.nano) func137 (fun args=>SW _) args
  ·exact gdx (e:=Extern.Sync.semacquire) func138 (fun args=>rB _) args
  ·exact gdx (e:=Extern.Sync.die .fatal) func139 (fun args=>I1 _ _) args
  ·exact gdx (e:=Extern.Sync.semrelease) func140 (fun args=>rC _) args
  ·exact gdx (e:=Extern.Race.marked .read) func145 (fun args=>qA ..) args
  ·exact gdx (e:=Extern.Race.marked .write) func125 (fun args=>qA ..) args
  ·exact gdx (e:=fun _=>pure (.bool false)) func126 (fun args=>af.pure) args
  ·exact gdx (e:=Extern.Sync.semacquire) func127 (fun args=>rB _) args
  ·exact gdx (e:=Extern.Sync.semrelease) func147 (fun args=>rC _) args
  ·exact gdx (e:=Extern.Sync.die .fatal) func142 (fun args=>I1 _ _) args
  ·exact gdx (e:=Extern.Atomic.loadT (.int .u64)) func148 (fun args=>PW ..) args
  ·exact gdx (e:=Extern.Atomic.casT (.int .u64)) func149 (fun args=>Kn ..) args
  ·exact gdx (e:=Extern.Atomic.update (Op.intArith .add) .u64 true) func152 (fun args=>vg _ (fun _ _ _=>jX ..) ..) args
  ·exact gdx (e:=Extern.Atomic.update (Op.intBits .or) .u64 false) func151 (fun args=>vg _ (fun _ _ _=>sF ..) ..) args
  ·exact gdx (e:=Extern.Atomic.storeT) func153 (fun args=>Ml _) args
  ·exact gdx (e:=Extern.Synctest.none_) func122 (fun args=>af.halt) args
  ·exact gdx (e:=Extern.Synctest.none_) func124 (fun args=>af.halt) args
  ·exact gdx (e:=Extern.Synctest.none_) func141 (fun args=>af.halt) args
 ·exact gdx (e:=fun _=>do mark .disable;pure Extern.Race.none_) func107 (fun _=>PX _ _) args
 ·exact gdx (e:=fun _=>do mark .enable;pure Extern.Race.none_) func109 (fun _=>PX _ _) args
theorem SX:∀g c,w7.tgt g c=false:=fun _ _=>rfl
theorem beside{Q:Frame->List Frame->World->Prop}(hQ:∀fr c v tp n,Q fr c v->Q fr c (wt v tp n)){d:Nat}{fr:Frame}{c cs:List Frame}{gs:Array Goroutine}{w:World}{t:Trace}{q:Nat->Nat}(hC:Crowd prog w7 Sb d fr c cs gs t q)(hw:CX Sb w)(hR:∀tp n,Reach prog Q fr c (wt (gu Sb w) tp n))(sl:Option (Nat×Nat)):
 ∃N gs' fr' c' v' w' sl' t' q' d',runNT prog N (crowd gs w sl) t=(.next (crowd gs' w' sl'),t')/\gs'.size=gs.size/\Q fr' c' v'/\eJ Sb v' w'/\Crowd prog w7 Sb d' fr' c' cs gs' t' q':=
 Dj CR WK SX hQ hC hw hR sl
end Go.Proofs.YteoahlieielcdaaGreat
