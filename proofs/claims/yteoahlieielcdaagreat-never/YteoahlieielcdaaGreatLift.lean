import Derived.Test.YteoahlieielcdaaGreatM1
import Derived.Test.YteoahlieielcdaaGreatRows
import Derived.Conc.HoldsTime
set_option linter.all false
namespace Go.Proofs.YteoahlieielcdaaGreat
open Go.Proofs.Tryz
open Go Go.Conc Go.ConcM
def aby:ownKnob prog.godebug=none:=by kernel_rfl
end Go.Proofs.YteoahlieielcdaaGreat
