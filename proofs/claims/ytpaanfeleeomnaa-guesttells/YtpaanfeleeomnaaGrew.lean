/- What is proved here: a region that draws its order, whose operations only read and whose callees only read and grow the world, is walked once. -/
import Derived.Test.YtpaanfeleeomnaaHeld
import Derived.BigQuiet
namespace Go.Proofs.Ytpaanfeleeomnaa
open Go.RowKit
set_option maxRecDepth 100000
set_option linter.unusedVariables false
/-- A world that has grown. -/
structure Grew (W : World) where
  w : World
  bel : Below W.heap.size W w
theorem wp_region_quiet_grew {P : Program} {id : Nat} {Q : Exit → Act → World → Prop} {a : Act} {W : World} {l : List Oper} (hm : P.follows .mixedOrders = true) (hB : Region.lexB .any l.toArray = true)
    (h : wpQuiet P l.toArray (fun w' => ∃ p : Grew W, w' = p.w) (fun a' => ∀ w', (∃ p : Grew W, w' = p.w) → Q .normal a' w') l a) : (Code.region id l.toArray true).wp P Q a W :=
  wp_region_quiet (C := fun w' => ∃ p : Grew W, w' = p.w) hm hB ⟨⟨W.drew, (Below.refl _ _).drew⟩, rfl⟩ (by simpa using h)
theorem Calls.grew {P : Program} {f : FuncId} {args : Array Value} {W : World} {p : Grew W} {v : Value}
    (h : Calls P f args p.w fun e w' => e = .returned v ∧ Below p.w.heap.size p.w w') : Calls P f args p.w fun e w'' => e = .returned v ∧ ∃ q : Grew W, w'' = q.w :=
  h.mono fun _ w'' ⟨he, hb⟩ => ⟨he, ⟨w'', below_tr p.bel hb⟩, rfl⟩
theorem grew_cell {W : World} {a : Addr} {v : Value} (h : W.cell? a = some v) (p : Grew W) : p.w.cell? a = some v := keep_cell p.bel h
end Go.Proofs.Ytpaanfeleeomnaa
