/- Layer 23: whether two states are the same, as the program says: the whole. -/
import Derived.Test.YtpnnmhcemecjfaaStSameP
namespace Go.Proofs.Ytpnnmhcemecjfaa
open Go.RowKit
set_option linter.unusedSimpArgs false
set_option linter.unusedVariables false
end Go.Proofs.Ytpnnmhcemecjfaa
