/- What is proved here: a loop over an iterator whose rounds are told which item comes next. -/
import Derived.Test.YtkpmkgkfpikpfaaGreatGs
import Derived.Test.YtkpmkgkfpikpfaaGreatGp
import Derived.RangeFuncNested
import Derived.RangeFuncFrom
namespace Go.Proofs.YtkpmkgkfpikpfaaGreat
open Go.RowKit
set_option linter.unusedVariables false
set_option linter.unusedSimpArgs false
set_option maxRecDepth 100000
variable {α : Type} {n : Nat} {P : Program}
/-- The loop's two blocks of book-keeping: that for deferred calls, and its record. -/
def Bk (b : Nat) (r : Loop) (W : World) : Prop := W.heap[b + 1]? = some (.loop r) ∧ W.heap[b]? = some (.deferred (some []))
theorem Bk.grown {b : Nat} {r : Loop} {A B : World} {row : Option Nat} (h : Bk b r A) (hg : A.grownBy B row) (hr : ∀ q, row = some q → ∃ o : Obj, A.heap[q]? = some o ∧ o.isWalk = true) : Bk b r B :=
  ⟨(grownBy_keeps hg hr h.1 rfl).trans h.1, (grownBy_keeps hg hr h.2 rfl).trans h.2⟩
theorem Bk.kept {b : Nat} {r : Loop} {A B : World} (h : Bk b r A) (k : KeepsFrom b A B) : Bk b r B := ⟨k.same _ _ (by omega) h.1 rfl, k.same _ _ (Nat.le_refl _) h.2 rfl⟩
theorem Bk.lt {b : Nat} {r : Loop} {A : World} (h : Bk b r A) : b + 1 < A.heap.size := (Array.getElem?_eq_some_iff.1 h.1).1
theorem Bk.put {b : Nat} {r : Loop} {A : World} (h : Bk b r A) (r' : Loop) : Bk b r' (A.putObj (b + 1) (.loop r')) := ⟨World.putObj_heap_same h.lt, (World.putObj_heap_other (by omega)).trans h.2⟩
end Go.Proofs.YtkpmkgkfpikpfaaGreat
