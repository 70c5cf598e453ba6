/- What is proved here: the program's Decode. -/
import Derived.Test.YtogokbefpgaciaaDoorDc
namespace Go.Proofs.YtogokbefpgaciaaDoor
open Go.RowKit
set_option linter.unusedVariables false
set_option linter.unusedSimpArgs false
set_option maxRecDepth 100000
/-- The row of a word. -/
def rowOf (x : Nat) : Rw := foundR (matchB x)
def isWord (x : Nat) : Bool := isFound (matchB x)
def decN (x : Nat) : In := if isWord x then insN (rowOf x).shape x else ⟨⟨#[]⟩, 0, 0, 0, 0, 0⟩
theorem found_ok (p : Rw → Bool) : RowOk (foundR p) := by
  unfold foundR
  cases h : rowsL.find? p with
  | none => exact zero_ok
  | some r => exact row_ok (List.mem_of_find?_eq_some h)
/-- The blocks of a Decode, ahead of its letters. -/
theorem box16 (w : World) (x a b c d e f : Value) (s t : Nat) : ∃ W, (w.alloc (.cells #[x] s)).alloc (.cells #[a, b, c, d, e, f] t) = W ∧ Below w.heap.size w W ∧ W.heap.size = w.heap.size + 2 ∧ W.cell? ⟨w.heap.size, 0, none⟩ = some x ∧
    (Free W ⟨w.heap.size + 1, 0, none⟩ ∧ Free W ⟨w.heap.size + 1, 1, none⟩ ∧ Free W ⟨w.heap.size + 1, 2, none⟩ ∧ Free W ⟨w.heap.size + 1, 3, none⟩ ∧ Free W ⟨w.heap.size + 1, 4, none⟩ ∧ Free W ⟨w.heap.size + 1, 5, none⟩) := by
  have hz : w.heap.size + 1 = (w.alloc (.cells #[x] s)).heap.size := by simp
  refine ⟨_, rfl, ((Below.refl _ _).alloc (Nat.le_refl _) _).alloc (by simp) _, by simp, ?_, ⟨⟨a, ?_⟩, ?_⟩, ⟨⟨b, ?_⟩, ?_⟩, ⟨⟨c, ?_⟩, ?_⟩, ⟨⟨d, ?_⟩, ?_⟩, ⟨⟨e, ?_⟩, ?_⟩, ⟨⟨f, ?_⟩, ?_⟩⟩
  all_goals first | exact cell_old (cell_newA w _ _ _ _ _ rfl rfl) _ | exact cell_newA _ _ _ _ _ _ hz rfl | (rw [World.frozen?_alloc_at _ _ _ _ hz])
theorem box1 (w : World) (x : Value) (t : Nat) : ∃ W, w.alloc (.cells #[x] t) = W ∧ Below w.heap.size w W ∧ W.heap.size = w.heap.size + 1 ∧ W.cell? ⟨w.heap.size, 0, none⟩ = some x :=
  ⟨_, rfl, (Below.refl _ _).alloc (Nat.le_refl _) _, by simp, cell_newA w _ _ _ _ _ rfl rfl⟩
def F6 (w : World) (n : Nat) : Prop := Free w ⟨n, 0, none⟩ ∧ Free w ⟨n, 1, none⟩ ∧ Free w ⟨n, 2, none⟩ ∧ Free w ⟨n, 3, none⟩ ∧ Free w ⟨n, 4, none⟩ ∧ Free w ⟨n, 5, none⟩
theorem F6.keep {w w' : World} {n : Nat} (h : F6 w n) (hb : Below w.heap.size w w') : F6 w' n := ⟨h.1.keep hb, h.2.1.keep hb, h.2.2.1.keep hb, h.2.2.2.1.keep hb, h.2.2.2.2.1.keep hb, h.2.2.2.2.2.keep hb⟩
end Go.Proofs.YtogokbefpgaciaaDoor
