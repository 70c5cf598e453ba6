/- What is proved here: Store, with a fault. -/
import Derived.Test.YtkpmkgkfpikpfaaGreatCopied
import Derived.Test.YtkpmkgkfpikpfaaGreatMapOk
import Derived.Test.YtkpmkgkfpikpfaaGreatSmall
import Derived.OneCell
namespace Go.Proofs.YtkpmkgkfpikpfaaGreat
open Go.RowKit
set_option maxRecDepth 100000
set_option linter.unusedVariables false
theorem sl_nil (k : IntKind) (w : World) : Sl k w (.slice none 0 0) [] := ⟨none, 0, rfl, by simp, by omega, fun _ => rfl, fun i hi => by simp at hi⟩
end Go.Proofs.YtkpmkgkfpikpfaaGreat
