/- What is proved here: the document's Unmap. -/
import Derived.Test.YtkpmkgkfpikpfaaGreatHeld
import Derived.Test.YtkpmkgkfpikpfaaGreatCopied
import Derived.Test.YtkpmkgkfpikpfaaGreatSmall
import Derived.Test.YtkpmkgkfpikpfaaGreatPlain
import Derived.Test.YtkpmkgkfpikpfaaGreatGfit
import Derived.Test.YtkpmkgkfpikpfaaGreatRmap
import Derived.Laws.OwnMore
import Derived.LoopTactic
import Derived.Test.YtkpmkgkfpikpfaaGreatBackPlain
import Derived.Test.YtkpmkgkfpikpfaaGreatGf
namespace Go.Proofs.YtkpmkgkfpikpfaaGreat
open Go.RowKit
set_option maxRecDepth 100000
set_option linter.unusedVariables false
end Go.Proofs.YtkpmkgkfpikpfaaGreat
namespace Go.Proofs.YtkpmkgkfpikpfaaGreat
open Go.RowKit
set_option linter.unusedVariables false
set_option linter.unusedSimpArgs false
set_option maxRecDepth 100000
end Go.Proofs.YtkpmkgkfpikpfaaGreat
namespace Go.Proofs.YtkpmkgkfpikpfaaGreat
open Go.RowKit
set_option linter.unusedVariables false
set_option linter.unusedSimpArgs false
set_option maxRecDepth 100000
end Go.Proofs.YtkpmkgkfpikpfaaGreat
namespace Go.Proofs.YtkpmkgkfpikpfaaGreat
open Go.RowKit
set_option linter.unusedVariables false
set_option linter.unusedSimpArgs false
set_option maxRecDepth 100000
end Go.Proofs.YtkpmkgkfpikpfaaGreat
