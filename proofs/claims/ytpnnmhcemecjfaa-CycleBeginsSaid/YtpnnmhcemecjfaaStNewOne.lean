/- Layer 23: the first state of one variable of three, as the law asks whether the program answers. -/
import Derived.Test.YtpnnmhcemecjfaaStRefSame
namespace Go.Proofs.Ytpnnmhcemecjfaa
open Go.RowKit
set_option linter.unusedSimpArgs false
set_option linter.unusedVariables false
end Go.Proofs.Ytpnnmhcemecjfaa
