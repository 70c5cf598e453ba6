/- What is proved here: Protect. -/
import Derived.Test.YtkpmkgkfpikpfaaGreatBackPlain
import Derived.Test.YtkpmkgkfpikpfaaGreatCopied
import Derived.Lib.OwnKind
import Derived.Laws.OwnMore
import Derived.OneCell
import Derived.Test.YtkpmkgkfpikpfaaGreatGw
import Derived.Test.YtkpmkgkfpikpfaaGreatGp
namespace Go.Proofs.YtkpmkgkfpikpfaaGreat
open Go.RowKit
set_option maxRecDepth 100000
set_option linter.unusedVariables false
end Go.Proofs.YtkpmkgkfpikpfaaGreat
namespace Go.Proofs.YtkpmkgkfpikpfaaGreat
open Go.RowKit
set_option linter.unusedVariables false
set_option maxRecDepth 100000
end Go.Proofs.YtkpmkgkfpikpfaaGreat
