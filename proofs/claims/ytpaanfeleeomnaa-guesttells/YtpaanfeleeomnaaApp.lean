/- What is proved here: one pair more in a row of one's own. -/
import Derived.Test.YtpaanfeleeomnaaHeld
import Derived.Test.YtpaanfeleeomnaaGrow
import Derived.Laws.OwnMore
namespace Go.Proofs.Ytpaanfeleeomnaa
open Go.RowKit
set_option maxRecDepth 100000
set_option linter.unusedVariables false
theorem cells2 (w : World) (x y : Value) (t : Nat) : ∀ j u, [x, y][j]? = some u → (w.alloc (.cells #[x, y] t)).cell? ((⟨w.heap.size, 0, none⟩ : Addr).add j) = some u := by
  intro j u hj
  match j, hj with
  | 0, hj => simp at hj; subst hj; simp [Addr.add]
  | 1, hj => simp at hj; subst hj; simp [Addr.add]
theorem one2 (k : IntKind) (a b : Int) : ∀ u ∈ [Value.int .u64 a, Value.int k b], u.oneCell' = true := by
  intro u hu; simp at hu; rcases hu with rfl | rfl <;> rfl
theorem app_own {k : IntKind} {w : World} {B e : Nat} {v : Value} {xs : List (Nat × Int)} {p : Nat} {r : Int} (h : w.ownsRow B e 2 v (xs.length + 1) (rowOf k xs ++ [.int .u64 (p : Int), .int k r])) :
    w.ownsRow B e 2 v (xs ++ [(p, r)]).length (rowOf k (xs ++ [(p, r)])) := by
  rw [rowOf_append]
  simpa [rowOf] using h
theorem app_below {B : Nat} {w0 w w2 : World} {row : Option Nat} (o : Obj) (h : Below B w0 w) (hB : B ≤ w.heap.size) (hg : (w.alloc o).grownBy w2 row) (hr : ∀ k, row = some k → B ≤ k) : Below B w0 w2 :=
  (h.alloc hB o).grown hg (by simp; omega) hr
end Go.Proofs.Ytpaanfeleeomnaa
namespace Go.Proofs.Ytpaanfeleeomnaa
open Go.RowKit
set_option maxRecDepth 100000
set_option linter.unusedVariables false
theorem rowOf_set (k : IntKind) : ∀ (xs : List (Nat × Int)) (i p : Nat) (r : Int), ((rowOf k xs).set (i * 2) (.int .u64 (p : Int))).set (i * 2 + 1) (.int k r) = rowOf k (xs.set i (p, r))
  | [], i, p, r => by simp [rowOf]
  | x :: xs, 0, p, r => by simp [rowOf]
  | x :: xs, i + 1, p, r => by
    have := rowOf_set k xs i p r
    rw [show (i + 1) * 2 = i * 2 + 1 + 1 by omega]
    simp only [rowOf, List.set_cons_succ]
    rw [this]
/-- Pages of which the first k are written. -/
def filled (page : Nat) (prot : Int) (n : Nat) : Nat → List (Nat × Int)
  | 0 => List.replicate n (0, 0)
  | k + 1 => (filled page prot n k).set k (page + k, prot)
theorem filled_length (page : Nat) (prot : Int) (n : Nat) : ∀ k, (filled page prot n k).length = n
  | 0 => by simp [filled]
  | k + 1 => by simp [filled, filled_length page prot n k]
theorem filled_get (page : Nat) (prot : Int) (n : Nat) : ∀ (k i : Nat), i < n → (filled page prot n k)[i]? = some (if i < k then (page + i, prot) else (0, 0))
  | 0, i, h => by simp [filled, h]
  | k + 1, i, h => by
    rw [filled, List.getElem?_set]
    have ih := filled_get page prot n k i h
    by_cases e : k = i
    · subst e; simp [filled_length, h]
    · rw [if_neg e, ih]
      by_cases c : i < k
      · rw [if_pos c, if_pos (by omega)]
      · rw [if_neg c, if_neg (by omega)]
/-- New pages. -/
def added (page : Nat) (prot : Int) (n : Nat) : List (Nat × Int) := (List.range n).map (fun i => (page + i, prot))
theorem filled_all (page : Nat) (prot : Int) (n : Nat) : filled page prot n n = added page prot n := by
  apply List.ext_getElem?
  intro i
  by_cases h : i < n
  · rw [filled_get page prot n n i h, if_pos h]
    simp [added, h]
  · rw [List.getElem?_eq_none (by rw [filled_length]; omega), List.getElem?_eq_none (by simp [added]; omega)]
theorem rowOf_made (n : Nat) : (madeCells #[.int .u64 0, .int .i64 0] (n * 2)).toList = rowOf .i64 (List.replicate n (0, 0)) := by
  apply List.ext_getElem?
  intro j
  by_cases h : j < n * 2
  · obtain ⟨r0, r1⟩ := rowOf_even .i64 (List.replicate n (0, 0)) (j / 2) (by simp; omega)
    rcases Nat.mod_two_eq_zero_or_one j with hm | hm
    · rw [show j / 2 * 2 = j by omega] at r0
      rw [r0]
      simp [madeCells, h, hm]
    · rw [show j / 2 * 2 + 1 = j by omega] at r1
      rw [r1]
      simp [madeCells, h, hm]
  · rw [List.getElem?_eq_none (by simp [madeCells]; omega), List.getElem?_eq_none (by rw [rowOf_length]; simp; omega)]
end Go.Proofs.Ytpaanfeleeomnaa
