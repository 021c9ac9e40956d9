import Derived.Test.YteoahlieielcdaaGreatRef6
import Derived.Deep.Cut
set_option linter.all false
namespace Go.Proofs.YteoahlieielcdaaGreat
open Go Go.RowKit
def CG(w:World)(a:Option Addr)(L:List ByteArray):Prop:=
 ∀(k:Nat) (x:ByteArray),L[k]?=some x->∃ib io,a=some ⟨ib,io,none⟩/\w.cell? ⟨ib,io+k,none⟩=some (.string x)
def PF(L:List ByteArray):Prop:=∀x∈L,x.size<=maxLen
section
variable {w:World}{τ:Nat->Tag}{aD b:Nat}{s:MS}
end
end Go.Proofs.YteoahlieielcdaaGreat
