/-
  Orderly (promises P3, P5), at this commit: for every four numbers the call returns true.
  Conditions: none but the form's own reach.
-/
import Derived.Test.YteoahlieielcdaaGreatPrF3
import Derived.Test.YteoahlieielcdaaGreatLift
import Derived.OpenShut
set_option linter.all false
namespace Go.Proofs.YteoahlieielcdaaGreat
open Go Go.ChangeShapes Go.WideShapes Go.ChangeAt Go.RowKit
theorem pY{n:Int}(h:(Lit.int .i64 n).wf=true): -9223372036854775808<=n/\n<=9223372036854775807:=by simp[Lit.wf,IntKind.min,IntKind.max,IntKind.signed,IntKind.bits]at h;omega
end Go.Proofs.YteoahlieielcdaaGreat
