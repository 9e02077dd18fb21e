/- Layer 3: the laws' walks. -/
import Derived.Test.YtdpcfcflcfjmjaaHeldMore
import Derived.Test.YtdpcfcflcfjmjaaOctetRefText
import Derived.Lib.SlBytesConst
namespace Go.Proofs.Ytdpcfcflcfjmjaa
open Go.RowKit
end Go.Proofs.Ytdpcfcflcfjmjaa
