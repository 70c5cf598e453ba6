/- What is proved here: the document's Map. -/
import Derived.Test.YtkpmkgkfpikpfaaGreatBackPlain
namespace Go.Proofs.YtkpmkgkfpikpfaaGreat
open Go.RowKit
set_option maxRecDepth 100000
set_option linter.unusedVariables false
theorem added_len (page : Nat) (prot : Int) (k : Nat) : (added page prot k).length = k := by simp [added]
end Go.Proofs.YtkpmkgkfpikpfaaGreat
namespace Go.Proofs.YtkpmkgkfpikpfaaGreat
open Go.RowKit
set_option linter.unusedVariables false
end Go.Proofs.YtkpmkgkfpikpfaaGreat
