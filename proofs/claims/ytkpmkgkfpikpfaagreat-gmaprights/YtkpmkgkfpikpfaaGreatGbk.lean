/- What is proved here: just those of the host's pages within reach are mapped in which one of the guest's is: the program's look. -/
import Derived.Test.YtkpmkgkfpikpfaaGreatGrem
import Derived.Test.YtkpmkgkfpikpfaaGreatEach
import Derived.Test.YtkpmkgkfpikpfaaGreatGagp
import Derived.Test.YtkpmkgkfpikpfaaGreatHeld
import Derived.RangeFuncBox
import Derived.OwnWalkIn
import Derived.LoopTactic
import Derived.Test.YtkpmkgkfpikpfaaGreatGfit
import Derived.Test.YtkpmkgkfpikpfaaGreatGdoc
import Derived.Test.YtkpmkgkfpikpfaaGreatGs
import Derived.Test.YtkpmkgkfpikpfaaGreatPokePlain
namespace Go.Proofs.YtkpmkgkfpikpfaaGreat
open Go.RowKit
set_option linter.unusedVariables false
set_option linter.unusedSimpArgs false
set_option maxRecDepth 100000
attribute [local go_sem] Oper.semAt_some
/-- The state of the first loop: what is asked for lies in a row of its own. -/
def AskI (n₀ ab : Nat) (w : World) (xs : List (Nat × Int)) : Prop := ∃ v, Boxed w ab 22 v ∧ w.ownsRow n₀ 77 2 v xs.length (rowOf .i64 xs)
theorem AskI.row {n₀ ab : Nat} {w w' : World} {xs : List (Nat × Int)} {row : Option Nat} (h : AskI n₀ ab w xs) (hg : w.grownBy w' row) (hr : ∀ r, row = some r → ∃ o : Obj, w.heap[r]? = some o ∧ o.isCells = false) : AskI n₀ ab w' xs := by
  obtain ⟨v, hb, ho⟩ := h
  refine ⟨v, hb.kept hg (fun e => ?_), own_row ho hg hr⟩
  obtain ⟨o, h1, h2⟩ := hr ab e.symm
  rw [show w.heap[ab]? = _ from hb] at h1
  cases h1
  simp [Obj.isCells] at h2
end Go.Proofs.YtkpmkgkfpikpfaaGreat
namespace Go.Proofs.YtkpmkgkfpikpfaaGreat
open Go.RowKit
set_option linter.unusedVariables false
set_option linter.unusedSimpArgs false
set_option maxRecDepth 100000
end Go.Proofs.YtkpmkgkfpikpfaaGreat
namespace Go.Proofs.YtkpmkgkfpikpfaaGreat
open Go.RowKit
set_option linter.unusedVariables false
set_option linter.unusedSimpArgs false
set_option maxRecDepth 100000
end Go.Proofs.YtkpmkgkfpikpfaaGreat
namespace Go.Proofs.YtkpmkgkfpikpfaaGreat
open Go.RowKit
set_option linter.unusedVariables false
set_option linter.unusedSimpArgs false
set_option maxRecDepth 100000
end Go.Proofs.YtkpmkgkfpikpfaaGreat
