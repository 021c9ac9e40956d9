import Derived.Test.YteoahlieielcdaaGreatBase
set_option linter.all false
namespace Go.Proofs.YteoahlieielcdaaGreat
open Go Go.RowKit
def Cd(w:af)(a:Option aA)(L:List ah):Prop:=
 ∀(k:Nat) (x:ah),L[k]?=some x->∃ib io,a=some ⟨ib,io,none⟩/\w.cell? ⟨ib,io+k,none⟩=some (.string x)
def P9(L:List ah):Prop:=∀x∈L,x.size<=maxLen
section
variable {w:af}{τ:Nat->Tag}{aO b:Nat}{s:MS}
end
end Go.Proofs.YteoahlieielcdaaGreat
