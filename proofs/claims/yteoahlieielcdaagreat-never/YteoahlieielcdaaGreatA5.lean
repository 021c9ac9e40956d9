import Derived.Test.YteoahlieielcdaaGreatY9
set_option linter.all false
namespace Go.Proofs.YteoahlieielcdaaGreat
open Go Go.RowKit Go.MuLone Go.Conc
def To.BG{P:aB}{Q:ak->List ak->af->Prop}{b:ak}{a:Act}{k:List Item}{c:List ak}{w:af}{x:Code}(h:∀K:Act->af->Prop,(∀a w,To P Q (b.at a k) c w->K a w)->x.wp P (Exit.then K fun _ _ _=>False) a w):To P Q (b.at a (.code x :: k)) c w:=.code (h _ fun _ _ h=>h) fun _ _ h=>h
end Go.Proofs.YteoahlieielcdaaGreat
