import Derived.Test.YteoahlieielcdaaGreatJ22
set_option linter.all false
set_option maxRecDepth 100000
namespace Go.Proofs.YteoahlieielcdaaGreat
open Go Go.Conc
theorem WK(Sb:Nat->Prop):oJ Tryz.prog w7 Sb:=by
 refine⟨by kernel_rfl,fun f hf args=>?_,fun args=>?_,fun args=>?_⟩
 ·have hm:f∈heard:=List.contains_iff_mem.1 hf;simp only[heard,List.mem_cons,List.not_mem_nil,or_false]at hm;rcases hm with rfl|rfl|rfl|rfl|rfl|rfl|rfl|rfl|rfl|rfl|rfl|rfl|rfl|rfl|rfl|rfl|rfl|rfl|rfl|rfl|rfl|rfl|rfl|rfl|rfl
  ·exact dA (e:=Extern.Atomic.casT (.int .i32)) Tryz.func108 (by kernel_rfl) (by kernel_rfl) (by kernel_rfl) (by kernel_rfl) (fun args=>Kn ..) args
  ·exact dA (e:=Extern.Race.marked .acquire) Tryz.func110 (by kernel_rfl) (by kernel_rfl) (by kernel_rfl) (by kernel_rfl) (fun args=>qA ..) args
  ·exact dA (e:=Extern.Race.marked .releaseMerge) Tryz.func112 (by kernel_rfl) (by kernel_rfl) (by kernel_rfl) (by kernel_rfl) (fun args=>qA ..) args
  ·exact dA (e:=Extern.Atomic.update (Op.intArith .add) .i32 true) Tryz.func113 (by kernel_rfl) (by kernel_rfl) (by kernel_rfl) (by kernel_rfl) (fun args=>vg _ (fun _ _ _=>jX ..) ..) args
  ·exact dA (e:=Extern.Sync.canSpin) Tryz.func134 (by kernel_rfl) (by kernel_rfl) (by kernel_rfl) (by kernel_rfl) (fun args=>IZ _) args
  ·exact dA (e:=Extern.Sync.nothing) Tryz.func135 (by kernel_rfl) (by kernel_rfl) (by kernel_rfl) (by kernel_rfl) (fun args=>I0 _) args
  ·exact dA (e:=Extern.Sync.die .throw) Tryz.func136 (by kernel_rfl) (by kernel_rfl) (by kernel_rfl) (by kernel_rfl) (fun args=>I1 _ _) args
  ·exact dA (e:=Extern.OsHooks.nano) Tryz.func137 (by kernel_rfl) (by kernel_rfl) (by kernel_rfl) (by kernel_rfl) (fun args=>SW _) args
  ·exact dA (e:=Extern.Sync.semacquire) Tryz.func138 (by kernel_rfl) (by kernel_rfl) (by kernel_rfl) (by kernel_rfl) (fun args=>rB _) args
  ·exact dA (e:=Extern.Sync.die .fatal) Tryz.func139 (by kernel_rfl) (by kernel_rfl) (by kernel_rfl) (by kernel_rfl) (fun args=>I1 _ _) args
  ·exact dA (e:=Extern.Sync.semrelease) Tryz.func140 (by kernel_rfl) (by kernel_rfl) (by kernel_rfl) (by kernel_rfl) (fun args=>rC _) args
  ·exact dA (e:=Extern.Race.marked .read) Tryz.func145 (by kernel_rfl) (by kernel_rfl) (by kernel_rfl) (by kernel_rfl) (fun args=>qA ..) args
  ·exact dA (e:=Extern.Race.marked .write) Tryz.func125 (by kernel_rfl) (by kernel_rfl) (by kernel_rfl) (by kernel_rfl) (fun args=>qA ..) args
  ·exact dA (e:=fun _=>pure (.bool false)) Tryz.func126 (by kernel_rfl) (by kernel_rfl) (by kernel_rfl) (by kernel_rfl) (fun args=>af.pure) args
  ·exact dA (e:=Extern.Sync.semacquire) Tryz.func127 (by kernel_rfl) (by kernel_rfl) (by kernel_rfl) (by kernel_rfl) (fun args=>rB _) args
  ·exact dA (e:=Extern.Sync.semrelease) Tryz.func147 (by kernel_rfl) (by kernel_rfl) (by kernel_rfl) (by kernel_rfl) (fun args=>rC _) args
  ·exact dA (e:=Extern.Sync.die .fatal) Tryz.func142 (by kernel_rfl) (by kernel_rfl) (by kernel_rfl) (by kernel_rfl) (fun args=>I1 _ _) args
  ·exact dA (e:=Extern.Atomic.loadT (.int .u64)) Tryz.func148 (by kernel_rfl) (by kernel_rfl) (by kernel_rfl) (by kernel_rfl) (fun args=>PW ..) args
  ·exact dA (e:=Extern.Atomic.casT (.int .u64)) Tryz.func149 (by kernel_rfl) (by kernel_rfl) (by kernel_rfl) (by kernel_rfl) (fun args=>Kn ..) args
  ·exact dA (e:=Extern.Atomic.update (Op.intArith .add) .u64 true) Tryz.func152 (by kernel_rfl) (by kernel_rfl) (by kernel_rfl) (by kernel_rfl) (fun args=>vg _ (fun _ _ _=>jX ..) ..) args
  ·exact dA (e:=Extern.Atomic.update (Op.intBits .or) .u64 false) Tryz.func151 (by kernel_rfl) (by kernel_rfl) (by kernel_rfl) (by kernel_rfl) (fun args=>vg _ (fun _ _ _=>sF ..) ..) args
  ·exact dA (e:=Extern.Atomic.storeT) Tryz.func153 (by kernel_rfl) (by kernel_rfl) (by kernel_rfl) (by kernel_rfl) (fun args=>Ml _) args
  ·exact dA (e:=Extern.Synctest.none_) Tryz.func122 (by kernel_rfl) (by kernel_rfl) (by kernel_rfl) (by kernel_rfl) (fun args=>af.halt) args
  ·exact dA (e:=Extern.Synctest.none_) Tryz.func124 (by kernel_rfl) (by kernel_rfl) (by kernel_rfl) (by kernel_rfl) (fun args=>af.halt) args
  ·exact dA (e:=Extern.Synctest.none_) Tryz.func141 (by kernel_rfl) (by kernel_rfl) (by kernel_rfl) (by kernel_rfl) (fun args=>af.halt) args
 ·exact dA (e:=fun _=>do mark .disable;pure Extern.Race.none_) Tryz.func107 (by kernel_rfl) (by kernel_rfl) (by kernel_rfl) (by kernel_rfl) (fun _=>PX _ _) args
 ·exact dA (e:=fun _=>do mark .enable;pure Extern.Race.none_) Tryz.func109 (by kernel_rfl) (by kernel_rfl) (by kernel_rfl) (by kernel_rfl) (fun _=>PX _ _) args
theorem SX:∀g c,w7.tgt g c=false:=fun _ _=>rfl
theorem beside{Sb:Nat->Prop}{Q:Frame->List Frame->World->Prop}(hQ:∀fr c v tp n,Q fr c v->Q fr c (wt v tp n)){d:Nat}{fr:Frame}{c cs:List Frame}{gs:Array Goroutine}{w:World}{t:Trace}{q:Nat->Nat}(hC:Crowd Tryz.prog w7 Sb d fr c cs gs t q)(hw:CX Sb w)(hR:∀tp n,Reach Tryz.prog Q fr c (wt (gu Sb w) tp n))(sl:Option (Nat×Nat)):
 ∃N gs' fr' c' v' w' sl' t' q' d',runNT Tryz.prog N (crowd gs w sl) t=(.next (crowd gs' w' sl'),t')/\gs'.size=gs.size/\Q fr' c' v'/\eJ Sb v' w'/\Crowd Tryz.prog w7 Sb d' fr' c' cs gs' t' q':=
 Dj CR WK SX hQ hC hw hR sl
end Go.Proofs.YteoahlieielcdaaGreat
