/- Entries told by lists: plain. -/
import Derived.Test.YtjaopbaapldceaaBzao
namespace Go.Proofs.Ytjaopbaapldceaa
set_option linter.unusedVariables false

/-- A list as what is read place by place. -/
def lfn (l : List En) (i : Nat) : En := l.getD i (0, 0, 0)

end Go.Proofs.Ytjaopbaapldceaa
