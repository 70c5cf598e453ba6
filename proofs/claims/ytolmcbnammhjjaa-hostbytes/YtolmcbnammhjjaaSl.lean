/- What is proved here: what it means that a slice of pairs holds a list; that it goes on holding it in a world that has only grown. -/
import Derived.Test.YtolmcbnammhjjaaChecked
import Derived.WalkKit
import Derived.Below
namespace Go.Proofs.Ytolmcbnammhjjaa
open Go.RowKit
set_option linter.unusedVariables false

/-- A slice holds a list of pairs: the first a word, the second an integer of kind k. -/
def Sl (k : IntKind) (w : World) (v : Value) (xs : List (Nat × Int)) : Prop :=
  ∃ ao cap, v = .slice ao xs.length cap ∧ xs.length ≤ cap ∧ cap ≤ 9223372036854775807 ∧ (ao = none → cap = 0) ∧
   ∀ i (h : i < xs.length), ∃ b o, ao = some ⟨b, o, none⟩ ∧ w.cell? ⟨b, o + i * 2, none⟩ = some (.int .u64 (xs[i].1 : Int)) ∧ w.cell? ⟨b, o + i * 2 + 1, none⟩ = some (.int k xs[i].2)

theorem keep_cell {w w' : World} (h : Below w.heap.size w w') {a : Addr} {v : Value} (hc : w.cell? a = some v) : w'.cell? a = some v :=
  (h.cell (World.block_lt_of_cell? w a hc)).trans hc

theorem Sl.keep {k : IntKind} {w w' : World} {v : Value} {xs : List (Nat × Int)} (h : Sl k w v xs) (hb : Below w.heap.size w w') : Sl k w' v xs := by
  obtain ⟨ao, cap, rfl, h1, h2, h3, h4⟩ := h
  refine ⟨ao, cap, rfl, h1, h2, h3, fun i hi => ?_⟩
  obtain ⟨b, o, e, c0, c1⟩ := h4 i hi
  exact ⟨b, o, e, keep_cell hb c0, keep_cell hb c1⟩

theorem below_tr {w w1 w2 : World} (h : Below w.heap.size w w1) (h' : Below w1.heap.size w1 w2) : Below w.heap.size w w2 := h.trans (h'.mono h.size)

/-- A new block of two cells. -/
theorem box2 (w : World) (x0 x1 : Value) (t : Nat) : ∃ W, w.alloc (.cells #[x0, x1] t) = W ∧ Below w.heap.size w W ∧ W.heap.size = w.heap.size + 1 ∧
    W.cell? ⟨w.heap.size, 0, none⟩ = some x0 ∧ W.cell? ⟨w.heap.size, 1, none⟩ = some x1 ∧ W.frozen? ⟨w.heap.size, 0, none⟩ = false ∧ W.frozen? ⟨w.heap.size, 1, none⟩ = false := by
  refine ⟨_, rfl, (Below.refl _ _).alloc (Nat.le_refl _) _, by simp, ?_, ?_, ?_, ?_⟩
  · rw [World.cell?_alloc_at _ _ _ _ (by simp)]; rfl
  · rw [World.cell?_alloc_at _ _ _ _ (by simp)]; rfl
  · simp
  · simp
theorem keep_frozen {w w' : World} (h : Below w.heap.size w w') {a : Addr} (hc : a.block < w.heap.size) (hf : w.frozen? a = false) : w'.frozen? a = false :=
  (h.frozen hc).trans hf
theorem pageOf_any (p : Nat) (r : Int) (w : World) :
    Calls Try.prog 28 #[.agg #[.int .u64 (p : Int), .int .i64 r]] w fun e w' => e = .returned (.int .u64 (p : Int)) ∧ Below w.heap.size w w' := by
  go_enter Try.func28, Try.ntmps28
  go_wp2
  go_ret
  exact ⟨rfl, by exact (Below.refl _ _).alloc (Nat.le_refl _) _⟩
theorem atOf_any (p : Nat) (r : Int) (w : World) :
    Calls Try.prog 30 #[.agg #[.int .u64 (p : Int), .int .u64 r]] w fun e w' => e = .returned (.int .u64 (p : Int)) ∧ Below w.heap.size w w' := by
  go_enter Try.func30, Try.ntmps30
  go_wp2
  go_ret
  exact ⟨rfl, by exact (Below.refl _ _).alloc (Nat.le_refl _) _⟩
end Go.Proofs.Ytolmcbnammhjjaa
