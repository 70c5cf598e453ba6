/- What is proved here: what holds of a world that grows: cells stay, places that may be written stay so. -/
import Derived.Test.YtgdflobcbhnimaaGreatChecked
import Derived.WalkKit
import Derived.Below
import Derived.Deep.RegionHeld3
import Derived.LoopTactic
import Derived.Laws.ResultCell
import Derived.Test.YtgdflobcbhnimaaGreatEach
namespace Go.Proofs.YtgdflobcbhnimaaGreat
open Go.RowKit
set_option linter.unusedVariables false
set_option linter.unusedSimpArgs false
set_option maxRecDepth 100000
theorem keep_cell {w w' : World} (h : Below w.heap.size w w') {a : Addr} {v : Value} (hc : w.cell? a = some v) : w'.cell? a = some v :=
  (h.cell (World.block_lt_of_cell? w a hc)).trans hc

theorem below_tr {w w1 w2 : World} (h : Below w.heap.size w w1) (h' : Below w1.heap.size w1 w2) : Below w.heap.size w w2 := h.trans (h'.mono h.size)

theorem keep_frozen {w w' : World} (h : Below w.heap.size w w') {a : Addr} (hc : a.block < w.heap.size) (hf : w.frozen? a = false) : w'.frozen? a = false :=
  (h.frozen hc).trans hf
theorem results_cell1 {fn : Func} {p : Tmp} {ty : TypeId} (h : fn.results = #[.cell p ty]) (tmps : Array Value) (P : Program) (w : World) :
    (results fn tmps).run P w = ((asAddr (tmps.getD p undef)).run P w).andThen fun a w₁ => (loadVar ty a).run P w₁ := by
  simp only [results, h]
  simp [Sem.run_bind, Result.andThen]
theorem cell_newA (W : World) (cs : Array Value) (t n i : Nat) (x : Value) (h : n = W.heap.size) (hx : cs[i]? = some x) : (W.alloc (.cells cs t)).cell? ⟨n, i, none⟩ = some x := by
  subst h; rw [World.cell?_alloc_at _ _ _ _ (by simp)]; exact hx
/-- A place that is there and may be written. -/
def Free (w : World) (a : Addr) : Prop := (∃ u, w.cell? a = some u) ∧ w.frozen? a = false
/-- What a place holds. -/
def cellAt (w : World) (a : Addr) : Value := (w.cell? a).getD undef
theorem Free.cell {w : World} {a : Addr} (h : Free w a) : w.cell? a = some (cellAt w a) := by
  obtain ⟨⟨u, hu⟩, _⟩ := h
  rw [cellAt, hu]; rfl
theorem Free.frozen {w : World} {a : Addr} (h : Free w a) : w.frozen? a = false := h.2
theorem Free.keep {w w' : World} (hb : Below w.heap.size w w') {a : Addr} (h : Free w a) : Free w' a := by
  obtain ⟨⟨u, hu⟩, hf⟩ := h
  exact ⟨⟨u, keep_cell hb hu⟩, keep_frozen hb (World.block_lt_of_cell? w a hu) hf⟩
theorem Free.alloc {w : World} {a : Addr} (h : Free w a) (o : Obj) : Free (w.alloc o) a := h.keep ((Below.refl _ _).alloc (Nat.le_refl _) _)
theorem Free.drew {w : World} {a : Addr} (h : Free w a) : Free w.drew a := h.keep (Below.refl _ _).drew
theorem Free.set {w : World} {a : Addr} (h : Free w a) (p : Addr) (v : Value) : Free (w.setCell p v) a := by
  obtain ⟨⟨u, hu⟩, hf⟩ := h
  refine ⟨?_, by rw [World.frozen?_setCell]; exact hf⟩
  by_cases e : p = a
  · subst e
    exact ⟨v, World.cell?_setCell_same w p v hu⟩
  · exact ⟨u, (World.cell?_setCell_other w p a v e).trans hu⟩
theorem results_cell_tmp {fn : Func} {p u : Tmp} {ty : TypeId} (h : fn.results = #[.cell p ty, .tmp u]) (tmps : Array Value) (P : Program) (w : World) :
    (results fn tmps).run P w = ((asAddr (tmps.getD p undef)).run P w).andThen fun a w₁ => ((loadVar ty a).run P w₁).andThen fun v w₂ => .ok (.tuple #[v, tmps.getD u undef]) w₂ := by
  simp only [results, h]
  simp [Sem.run_bind, Result.andThen]
end Go.Proofs.YtgdflobcbhnimaaGreat
