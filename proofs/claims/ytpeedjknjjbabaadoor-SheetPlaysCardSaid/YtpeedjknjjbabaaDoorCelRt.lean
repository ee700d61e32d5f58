/- The reference's Text. -/
import Derived.Test.YtpeedjknjjbabaaDoorCelTxt
namespace Go.Proofs.YtpeedjknjjbabaaDoor
open Go.RowKit
set_option linter.unusedVariables false
set_option maxRecDepth 100000

end Go.Proofs.YtpeedjknjjbabaaDoor
