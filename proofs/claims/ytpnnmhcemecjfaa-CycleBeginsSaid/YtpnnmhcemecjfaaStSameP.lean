/- Layer 23: whether two states are the same, as the program says. -/
import Derived.Test.YtpnnmhcemecjfaaStSame
namespace Go.Proofs.Ytpnnmhcemecjfaa
open Go.RowKit
set_option linter.unusedSimpArgs false
set_option linter.unusedVariables false
end Go.Proofs.Ytpnnmhcemecjfaa
