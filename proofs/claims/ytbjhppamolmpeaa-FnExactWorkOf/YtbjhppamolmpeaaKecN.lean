/- Padded messages, blocks and what the hash is: plain functions. No program is named here. -/
import Derived.Test.YtbjhppamolmpeaaBzao
namespace Go.Proofs.Ytbjhppamolmpeaa

/-- Block j of a padded message. -/
def blk (P : Nat → Int) (j i : Nat) : Int := P (136 * j + i)

end Go.Proofs.Ytbjhppamolmpeaa
