/- What is proved here: what holds of a world that grows: cells stay, places that may be written stay so. -/
import Derived.Test.YtpaanfeleeomnaaGrow
import Derived.Deep.RegionHeld3
import Derived.Laws.ResultCell
namespace Go.Proofs.Ytpaanfeleeomnaa
open Go.RowKit
set_option maxRecDepth 100000
set_option linter.unusedVariables false
theorem results_cell1 {fn : Func} {p : Tmp} {ty : TypeId} (h : fn.results = #[.cell p ty]) (tmps : Array Value) (P : Program) (w : World) :
    (results fn tmps).run P w = ((asAddr (tmps.getD p undef)).run P w).andThen fun a w₁ => (loadVar ty a).run P w₁ := by
  simp only [results, h]
  simp [Sem.run_bind, Result.andThen]
theorem below_alloc {w w1 : World} (h : Below w.heap.size w w1) (o : Obj) : Below w.heap.size w (w1.alloc o) := h.alloc h.size o
theorem below_set {B : Nat} {w w1 : World} (h : Below B w w1) {p : Addr} (hp : B ≤ p.block) (u : Value) : Below B w (w1.setCell p u) := h.setCell hp u
theorem cell_new1 (W : World) (x : Value) (t n : Nat) (h : n = W.heap.size) : (W.alloc (.cells #[x] t)).cell? ⟨n, 0, none⟩ = some x := by
  subst h; rw [World.cell?_alloc_at _ _ _ _ (by simp)]; rfl
theorem cell_newA (W : World) (cs : Array Value) (t n i : Nat) (x : Value) (h : n = W.heap.size) (hx : cs[i]? = some x) : (W.alloc (.cells cs t)).cell? ⟨n, i, none⟩ = some x := by
  subst h; rw [World.cell?_alloc_at _ _ _ _ (by simp)]; exact hx
theorem cell_old {w : World} {a : Addr} {v : Value} (h : w.cell? a = some v) (o : Obj) : (w.alloc o).cell? a = some v := keep_cell ((Below.refl _ _).alloc (Nat.le_refl _) _) h
theorem cell_drew {w : World} {a : Addr} {v : Value} (h : w.cell? a = some v) : w.drew.cell? a = some v := by rw [World.cell?_drew]; exact h
theorem cell_far {w : World} {a p : Addr} {v : Value} (h : w.cell? a = some v) (hp : p.block ≠ a.block) (u : Value) : (w.setCell p u).cell? a = some v := (World.cell?_setCell_far w p a u hp).trans h
theorem own_shape {w : World} {base e size : Nat} {v : Value} {n : Nat} {xs : List Value} (h : w.ownsRow base e size v n xs) : ∃ a n p, v = .slice a n p := by
  obtain ⟨_, h | ⟨g, cap, cur, h1, _⟩⟩ := h
  · exact ⟨_, _, _, h.1⟩
  · exact ⟨_, _, _, h1⟩
/-- A place that is there and may be written. -/
def Free (w : World) (a : Addr) : Prop := (∃ u, w.cell? a = some u) ∧ w.frozen? a = false
/-- What a place holds. -/
def cellAt (w : World) (a : Addr) : Value := (w.cell? a).getD undef
theorem Free.cell {w : World} {a : Addr} (h : Free w a) : w.cell? a = some (cellAt w a) := by
  obtain ⟨⟨u, hu⟩, _⟩ := h
  rw [cellAt, hu]; rfl
theorem Free.frozen {w : World} {a : Addr} (h : Free w a) : w.frozen? a = false := h.2
theorem Free.keep {w w' : World} (hb : Below w.heap.size w w') {a : Addr} (h : Free w a) : Free w' a := by
  obtain ⟨⟨u, hu⟩, hf⟩ := h
  exact ⟨⟨u, keep_cell hb hu⟩, keep_frozen hb (World.block_lt_of_cell? w a hu) hf⟩
theorem Free.alloc {w : World} {a : Addr} (h : Free w a) (o : Obj) : Free (w.alloc o) a := h.keep ((Below.refl _ _).alloc (Nat.le_refl _) _)
theorem Free.drew {w : World} {a : Addr} (h : Free w a) : Free w.drew a := h.keep (Below.refl _ _).drew
theorem Free.set {w : World} {a : Addr} (h : Free w a) (p : Addr) (v : Value) : Free (w.setCell p v) a := by
  obtain ⟨⟨u, hu⟩, hf⟩ := h
  refine ⟨?_, by rw [World.frozen?_setCell]; exact hf⟩
  by_cases e : p = a
  · subst e
    exact ⟨v, World.cell?_setCell_same w p v hu⟩
  · exact ⟨u, (World.cell?_setCell_other w p a v e).trans hu⟩
theorem box2b (w : World) (x0 x1 y0 y1 : Value) (t s : Nat) : ∃ W, (w.alloc (.cells #[x0, x1] t)).alloc (.cells #[y0, y1] s) = W ∧ Below w.heap.size w W ∧ W.heap.size = w.heap.size + 1 + 1 ∧
    W.cell? ⟨w.heap.size, 0, none⟩ = some x0 ∧ W.cell? ⟨w.heap.size, 1, none⟩ = some x1 ∧ Free W ⟨w.heap.size, 0, none⟩ ∧ Free W ⟨w.heap.size, 1, none⟩ ∧ Free W ⟨w.heap.size + 1, 0, none⟩ ∧ Free W ⟨w.heap.size + 1, 1, none⟩ := by
  obtain ⟨W, rfl, b1, s1, c0, c1, f0, f1⟩ := box2 w x0 x1 t
  obtain ⟨W', rfl, b2, s2, d0, d1, g0, g1⟩ := box2 (w.alloc (.cells #[x0, x1] t)) y0 y1 s
  rw [s1] at d0 d1 g0 g1 s2
  exact ⟨_, rfl, below_tr b1 b2, s2, keep_cell b2 c0, keep_cell b2 c1, ⟨⟨_, keep_cell b2 c0⟩, keep_frozen b2 (by simp [s1]) f0⟩, ⟨⟨_, keep_cell b2 c1⟩, keep_frozen b2 (by simp [s1]) f1⟩, ⟨⟨_, d0⟩, g0⟩, ⟨⟨_, d1⟩, g1⟩⟩
theorem own_alloc {w : World} {base e size : Nat} {v : Value} {n : Nat} {xs : List Value} (h : w.ownsRow base e size v n xs) (o : Obj) : (w.alloc o).ownsRow base e size v n xs := own_keep h ((Below.refl _ _).alloc (Nat.le_refl _) _)
theorem own_drew {w : World} {base e size : Nat} {v : Value} {n : Nat} {xs : List Value} (h : w.ownsRow base e size v n xs) : w.drew.ownsRow base e size v n xs := own_keep h (Below.refl _ _).drew
theorem res2 (w : World) (n : Nat) (x y : Value) (h0 : Free w ⟨n, 0, none⟩) (h1 : Free w ⟨n, 1, none⟩) :
    ((w.setCell ⟨n, 0, none⟩ x).setCell ⟨n, 1, none⟩ y).cell? ⟨n, 0, none⟩ = some x ∧ ((w.setCell ⟨n, 0, none⟩ x).setCell ⟨n, 1, none⟩ y).cell? ⟨n, 1, none⟩ = some y := by
  constructor
  · rw [World.cell?_setCell_other _ _ _ _ (by simp)]
    exact World.cell?_setCell_same w _ x h0.cell
  · exact World.cell?_setCell_same _ _ y (h1.set _ _).cell
theorem res2_sl {k : IntKind} {w : World} {n : Nat} {x y v : Value} {xs : List (Nat × Int)} {base e : Nat} (h : w.ownsRow base e 2 v xs.length (rowOf k xs)) (hn : n < base) : Sl k ((w.setCell ⟨n, 0, none⟩ x).setCell ⟨n, 1, none⟩ y) v xs :=
  own_sl (ownsRow_setCell_below (ownsRow_setCell_below h (by simpa using hn) _) (by simpa using hn) _)
end Go.Proofs.Ytpaanfeleeomnaa
