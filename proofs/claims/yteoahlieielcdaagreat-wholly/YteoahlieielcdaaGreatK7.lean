import Derived.Test.YteoahlieielcdaaGreatPr21
set_option linter.all false
namespace Go.Proofs.YteoahlieielcdaaGreat
open Go Go.RowKit Go.MuLone
theorem uV(on:Int)(n:Nat)(hn:0<n):∃p:Nat,p<n/\eY on n=(p:Int):=by obtain⟨h1,h2⟩:=td on n (by omega);exact⟨(eY on n).toNat,by omega,by omega⟩
section
variable {w:World}
end
end Go.Proofs.YteoahlieielcdaaGreat
