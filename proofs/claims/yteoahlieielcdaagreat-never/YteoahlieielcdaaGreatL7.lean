import Derived.Test.YteoahlieielcdaaGreatPrF3
set_option linter.all false
namespace Go.Proofs.YteoahlieielcdaaGreat
open Go.Proofs.Tryz
open Go Go.RowKit Go.MuLone
def NQ:(prog.info? 45).map (fun i=>(i.zero,i.size,i.bytes))=some (some (.pointer none),1,8):=by kernel_rfl
section
variable {w:af}
end
end Go.Proofs.YteoahlieielcdaaGreat
