/- What is proved here: Store, with a fault. -/
import Derived.Test.YtkpmkgkfpikpfaaGreatCopied
import Derived.Test.YtkpmkgkfpikpfaaGreatMapOk
import Derived.Test.YtkpmkgkfpikpfaaGreatSmall
import Derived.OneCell
namespace Go.Proofs.YtkpmkgkfpikpfaaGreat
open Go.RowKit
set_option maxRecDepth 100000
set_option linter.unusedVariables false
end Go.Proofs.YtkpmkgkfpikpfaaGreat
namespace Go.Proofs.YtkpmkgkfpikpfaaGreat
open Go.RowKit
set_option maxRecDepth 100000
set_option linter.unusedVariables false
theorem OwnH.new {B : Nat} {w0 w : World} {vm vc : Value} {ms cs : List (Nat × Int)} (h : OwnH B w vm vc ms cs) (h0 : OwnH B w0 vm vc ms cs) {a : Addr} (ha : w0.heap.size ≤ a.block) (u : Value) : OwnH B (w.setCell a u) vm vc ms cs :=
  ⟨ownsRow_setCell_other h.1 (fun e => by have := (h0.1.lt _ e).2; omega) u, ownsRow_setCell_other h.2 (fun e => by have := (h0.2.lt _ e).2; omega) u⟩
theorem sl_nil (k : IntKind) (w : World) : Sl k w (.slice none 0 0) [] := ⟨none, 0, rfl, by simp, by omega, fun _ => rfl, fun i hi => by simp at hi⟩
end Go.Proofs.YtkpmkgkfpikpfaaGreat
