/- What is proved here: an instruction made of a line's numbers: the document's. -/
import Derived.Test.YtglkkeelocdanaaDoorNp
import Derived.LoopTactic
import Derived.Test.YtglkkeelocdanaaDoorEach
namespace Go.Proofs.YtglkkeelocdanaaDoor
open Go.RowKit
set_option linter.unusedVariables false
set_option linter.unusedSimpArgs false
set_option maxRecDepth 100000
end Go.Proofs.YtglkkeelocdanaaDoor
namespace Go.Proofs.YtglkkeelocdanaaDoor
open Go.RowKit
set_option linter.unusedVariables false
set_option linter.unusedSimpArgs false
set_option maxRecDepth 100000
end Go.Proofs.YtglkkeelocdanaaDoor
namespace Go.Proofs.YtglkkeelocdanaaDoor
open Go.RowKit
set_option linter.unusedVariables false
set_option linter.unusedSimpArgs false
set_option maxRecDepth 100000
end Go.Proofs.YtglkkeelocdanaaDoor
