/- What is proved here: Store, with a fault. -/
import Derived.Test.YtpaanfeleeomnaaCopied
import Derived.Test.YtpaanfeleeomnaaMapOk
import Derived.Test.YtpaanfeleeomnaaSmall
import Derived.OneCell
namespace Go.Proofs.Ytpaanfeleeomnaa
open Go.RowKit
set_option maxRecDepth 100000
set_option linter.unusedVariables false
end Go.Proofs.Ytpaanfeleeomnaa
namespace Go.Proofs.Ytpaanfeleeomnaa
open Go.RowKit
set_option maxRecDepth 100000
set_option linter.unusedVariables false
theorem OwnH.new {B : Nat} {w0 w : World} {vm vc : Value} {ms cs : List (Nat × Int)} (h : OwnH B w vm vc ms cs) (h0 : OwnH B w0 vm vc ms cs) {a : Addr} (ha : w0.heap.size ≤ a.block) (u : Value) : OwnH B (w.setCell a u) vm vc ms cs :=
  ⟨ownsRow_setCell_other h.1 (fun e => by have := (h0.1.lt _ e).2; omega) u, ownsRow_setCell_other h.2 (fun e => by have := (h0.2.lt _ e).2; omega) u⟩
theorem sl_nil (k : IntKind) (w : World) : Sl k w (.slice none 0 0) [] := ⟨none, 0, rfl, by simp, by omega, fun _ => rfl, fun i hi => by simp at hi⟩
theorem aw_ff1 : faultFrom [(2, 3)] 49151 2 0 2 = (1, 49152) := by decide
theorem aw_ff2 : faultFrom [(2, 3)] 32768 2 0 2 = (0, 0) := by decide
theorem aw_ff3 : faultFrom [(2, 3)] 32768 1 0 1 = (0, 0) := by decide
theorem aw_st : storeN [] 32768 2 258 = [(32768, 258)] := by decide
theorem aw_ld : loadN [(32768, 258)] 32768 1 = 2 := by decide
theorem aw_map : lo [] 2 ++ added 2 3 1 ++ hi [] (2 + 1 - 1) = [(2, 3)] := by decide
end Go.Proofs.Ytpaanfeleeomnaa
