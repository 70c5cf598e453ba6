/- What is proved here: one pair more in a row of one's own. -/
import Derived.Test.YtolmcbnammhjjaaHeld
namespace Go.Proofs.Ytolmcbnammhjjaa
open Go.RowKit
set_option linter.unusedVariables false
theorem cells2 (w : World) (x y : Value) (t : Nat) : ∀ j u, [x, y][j]? = some u → (w.alloc (.cells #[x, y] t)).cell? ((⟨w.heap.size, 0, none⟩ : Addr).add j) = some u := by
  intro j u hj
  match j, hj with
  | 0, hj => simp at hj; subst hj; simp [Addr.add]
  | 1, hj => simp at hj; subst hj; simp [Addr.add]
theorem one2 (k : IntKind) (a b : Int) : ∀ u ∈ [Value.int .u64 a, Value.int k b], u.oneCell' = true := by
  intro u hu; simp at hu; rcases hu with rfl | rfl <;> rfl
theorem app_own {k : IntKind} {w : World} {B e : Nat} {v : Value} {xs : List (Nat × Int)} {p : Nat} {r : Int} (h : w.ownsRow B e 2 v (xs.length + 1) (rowOf k xs ++ [.int .u64 (p : Int), .int k r])) :
    w.ownsRow B e 2 v (xs ++ [(p, r)]).length (rowOf k (xs ++ [(p, r)])) := by
  rw [rowOf_append]
  simpa [rowOf] using h
theorem app_below {B : Nat} {w0 w w2 : World} {row : Option Nat} (o : Obj) (h : Below B w0 w) (hB : B ≤ w.heap.size) (hg : (w.alloc o).grownBy w2 row) (hr : ∀ k, row = some k → B ≤ k) : Below B w0 w2 :=
  (h.alloc hB o).grown hg (by simp; omega) hr
end Go.Proofs.Ytolmcbnammhjjaa
