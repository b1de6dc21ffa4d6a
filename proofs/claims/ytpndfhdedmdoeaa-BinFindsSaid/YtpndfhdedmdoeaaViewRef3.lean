/-
  The document's answer for Views: Known. Written by view/gen_ref3.py.
-/
import Derived.Test.YtpndfhdedmdoeaaViewRef2
import Derived.Deep.RegionHeld3
namespace Go.Proofs.Ytpndfhdedmdoeaa
open Go.ChangeShapes Go.WideShapes Go.ChangeAt Go.RowKit Go.Maps
set_option linter.unusedVariables false
set_option maxRecDepth 100000
set_option linter.unusedSimpArgs false

end Go.Proofs.Ytpndfhdedmdoeaa
