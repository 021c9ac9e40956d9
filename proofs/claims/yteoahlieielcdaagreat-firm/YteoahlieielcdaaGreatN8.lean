import Derived.Test.YteoahlieielcdaaGreatN9
set_option linter.all false
namespace Go.Proofs.YteoahlieielcdaaGreat
open Go Go.RowKit Go.MuLone Go.Conc

end Go.Proofs.YteoahlieielcdaaGreat
