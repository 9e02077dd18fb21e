/- Layer 17: a variable; all of a list. -/
import Derived.Test.YtpecpeedefeokaaDoorDeclA
import Derived.Test.YtpecpeedefeokaaDoorHeap
namespace Go.Proofs.YtpecpeedefeokaaDoor
open Go.RowKit
set_option linter.unusedSimpArgs false
set_option linter.unusedVariables false
end Go.Proofs.YtpecpeedefeokaaDoor
