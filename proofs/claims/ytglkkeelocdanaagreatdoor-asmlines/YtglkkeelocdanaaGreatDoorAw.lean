/- What is proved here: the chapter's examples. -/
import Derived.Test.YtglkkeelocdanaaGreatDoorPl
namespace Go.Proofs.YtglkkeelocdanaaGreatDoor
open Go.RowKit
set_option linter.unusedVariables false
set_option linter.unusedSimpArgs false
set_option maxRecDepth 100000
end Go.Proofs.YtglkkeelocdanaaGreatDoor
