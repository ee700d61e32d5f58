/- strings.Builder: copyCheck, WriteString, String, at this program. -/
import Derived.Shelf.Strings.Builder1
import Derived.Test.YtpeedjknjjbabaaDoorCelTxt
import Derived.Test.YtpeedjknjjbabaaDoorCelSl
import Derived.WalkKit
namespace Go.Proofs.YtpeedjknjjbabaaDoor
open Go.RowKit Go.Shelf
set_option linter.unusedVariables false
set_option maxRecDepth 100000

end Go.Proofs.YtpeedjknjjbabaaDoor
