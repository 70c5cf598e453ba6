/- What is proved here: a row is looked for: the first one that is asked for. -/
import Derived.Test.YtogokbefpgaciaaDoorShp
namespace Go.Proofs.YtogokbefpgaciaaDoor
open Go.RowKit
set_option linter.unusedVariables false
set_option linter.unusedSimpArgs false
set_option maxRecDepth 100000
/-- What the rows are. -/
def rowOkB (r : Rw) : Bool := (formL r.form).all isLet && (decide (r.op < 64) && (decide (r.same < 67108864) && (decide (r.shape.few < 67108864) && (r.shape.great == 0 || r.shape.great == 67108800 || r.shape.great == 65535 || r.shape.great == 67108863))))
structure RowOk (r : Rw) : Prop where
  fm : Fm r.form
  op : r.op < 64
  same : r.same < 67108864
  few : r.shape.few < 67108864
  great : Great r.shape.great
theorem rowOk_of {r : Rw} (h : rowOkB r = true) : RowOk r := by
  simp only [rowOkB, Bool.and_eq_true, decide_eq_true_eq, Bool.or_eq_true, beq_iff_eq, List.all_eq_true] at h
  obtain ⟨h1, h2, h3, h4, h5⟩ := h
  refine ⟨h1, h2, h3, h4, ?_⟩
  unfold Great
  rcases h5 with ((h | h) | h) | h
  · exact .inl h
  · exact .inr (.inl h)
  · exact .inr (.inr (.inl h))
  · exact .inr (.inr (.inr h))
theorem rows_ok : rowsL.all rowOkB = true := by decide +kernel
theorem row_ok {r : Rw} (h : r ∈ rowsL) : RowOk r := rowOk_of (List.all_eq_true.1 rows_ok r h)
def zeroR : Rw := ⟨⟨#[]⟩, 0, 0, ⟨#[]⟩⟩
theorem zero_ok : RowOk zeroR := rowOk_of (by decide +kernel)
/-- The rows lie in block b. -/
def RowsAt (w : World) (b : Nat) : Prop := ∀ i (h : i < rowsL.length), w.cell? ⟨b, i * 4, none⟩ = some (.string rowsL[i].name) ∧ w.cell? ⟨b, i * 4 + 1, none⟩ = some (.int .u32 (rowsL[i].op : Int)) ∧ w.cell? ⟨b, i * 4 + 2, none⟩ = some (.int .u32 (rowsL[i].same : Int)) ∧ w.cell? ⟨b, i * 4 + 3, none⟩ = some (.string rowsL[i].form)
theorem RowsAt.keep {w w' : World} {b : Nat} (h : RowsAt w b) (hb : Below w.heap.size w w') : RowsAt w' b := fun i hi => by
  obtain ⟨h0, h1, h2, h3⟩ := h i hi
  exact ⟨keep_cell hb h0, keep_cell hb h1, keep_cell hb h2, keep_cell hb h3⟩
theorem flat_get : ∀ (l : List Rw) (i j : Nat) (h : i < l.length) (hj : j < 4), (l.flatMap Rw.cells)[i * 4 + j]? = (l[i].cells)[j]?
  | [], i, j, h, _ => absurd h (Nat.not_lt_zero _)
  | r :: l, 0, j, _, hj => by
    rw [List.flatMap_cons, List.getElem?_append_left (by show _ < 4; omega), Nat.zero_mul, Nat.zero_add]; rfl
  | r :: l, i + 1, j, h, hj => by
    rw [List.flatMap_cons, List.getElem?_append_right (by show 4 ≤ _; omega), show (i + 1) * 4 + j - r.cells.length = i * 4 + j from by show _ - 4 = _; omega]
    exact flat_get l i j (by simpa using h) hj
theorem rowsAt_new (w : World) : RowsAt (w.alloc (.cells rowsA 55)) w.heap.size := fun i hi => by
  have hg : ∀ j, j < 4 → rowsA[i * 4 + j]? = (rowsL[i].cells)[j]? := fun j hj => by
    rw [rowsA, List.getElem?_toArray]; exact flat_get rowsL i j hi hj
  refine ⟨?_, ?_, ?_, ?_⟩
  · exact cell_newA w _ _ _ _ _ rfl (hg 0 (by decide))
  · exact cell_newA w _ _ _ _ _ rfl (hg 1 (by decide))
  · exact cell_newA w _ _ _ _ _ rfl (hg 2 (by decide))
  · exact cell_newA w _ _ _ _ _ rfl (hg 3 (by decide))
theorem rows_len : rowsL.length = 83 := by decide +kernel
theorem box4 (w : World) (a b c d : Value) (t : Nat) : ∃ W, w.alloc (.cells #[a, b, c, d] t) = W ∧ Below w.heap.size w W ∧ W.heap.size = w.heap.size + 1 ∧
    W.cell? ⟨w.heap.size, 0, none⟩ = some a ∧ W.cell? ⟨w.heap.size, 1, none⟩ = some b ∧ W.cell? ⟨w.heap.size, 2, none⟩ = some c ∧ W.cell? ⟨w.heap.size, 3, none⟩ = some d ∧ Free W ⟨w.heap.size, 0, none⟩ ∧ Free W ⟨w.heap.size, 1, none⟩ ∧ Free W ⟨w.heap.size, 2, none⟩ ∧ Free W ⟨w.heap.size, 3, none⟩ := by
  refine ⟨_, rfl, (Below.refl _ _).alloc (Nat.le_refl _) _, by simp, ?_, ?_, ?_, ?_, ⟨⟨a, ?_⟩, ?_⟩, ⟨⟨b, ?_⟩, ?_⟩, ⟨⟨c, ?_⟩, ?_⟩, ⟨⟨d, ?_⟩, ?_⟩⟩
  all_goals first | exact cell_newA w _ _ _ _ _ rfl rfl | (rw [World.frozen?_alloc_at _ _ _ _ rfl])
theorem res4 (w : World) (n : Nat) (x0 x1 x2 x3 : Value) (f0 : Free w ⟨n, 0, none⟩) (f1 : Free w ⟨n, 1, none⟩) (f2 : Free w ⟨n, 2, none⟩) (f3 : Free w ⟨n, 3, none⟩) :
    let W := (((w.setCell ⟨n, 0, none⟩ x0).setCell ⟨n, 1, none⟩ x1).setCell ⟨n, 2, none⟩ x2).setCell ⟨n, 3, none⟩ x3
    W.cell? ⟨n, 0, none⟩ = some x0 ∧ W.cell? ⟨n, 1, none⟩ = some x1 ∧ W.cell? ⟨n, 2, none⟩ = some x2 ∧ W.cell? ⟨n, 3, none⟩ = some x3 := by
  refine ⟨?_, ?_, ?_, ?_⟩
  · rw [World.cell?_setCell_other _ _ _ _ (by simp)]; rw [World.cell?_setCell_other _ _ _ _ (by simp)]; rw [World.cell?_setCell_other _ _ _ _ (by simp)]; exact World.cell?_setCell_same _ _ _ f0.cell
  · rw [World.cell?_setCell_other _ _ _ _ (by simp)]; rw [World.cell?_setCell_other _ _ _ _ (by simp)]; exact World.cell?_setCell_same _ _ _ (f1.set _ _).cell
  · rw [World.cell?_setCell_other _ _ _ _ (by simp)]; exact World.cell?_setCell_same _ _ _ ((f2.set _ _).set _ _).cell
  · exact World.cell?_setCell_same _ _ _ (((f3.set _ _).set _ _).set _ _).cell
theorem below4 {B : Nat} {w0 w : World} {n : Nat} (h : Below B w0 w) (hn : B ≤ n) (x0 x1 x2 x3 : Value) : Below B w0 ((((w.setCell ⟨n, 0, none⟩ x0).setCell ⟨n, 1, none⟩ x1).setCell ⟨n, 2, none⟩ x2).setCell ⟨n, 3, none⟩ x3) :=
  (((h.setCell hn _).setCell hn _).setCell hn _).setCell hn _
/-- Which of them is the first; -1 if there is none. -/
def idxI (p : Rw → Bool) : Int := match rowsL.findIdx? p with | some k => (k : Int) | none => -1
theorem idx_at (p : Rw → Bool) (k : Nat) (h : k < rowsL.length) (hp : p rowsL[k] = true) (hb : ∀ j (hj : j < rowsL.length), j < k → p rowsL[j] = false) : idxI p = (k : Int) := by
  have : rowsL.findIdx? p = some k := List.findIdx?_eq_some_iff_getElem.2 ⟨h, hp, fun j hj => by rw [hb j (by omega) hj]; decide⟩
  unfold idxI; rw [this]
theorem idx_none (p : Rw → Bool) (hb : ∀ j (hj : j < rowsL.length), p rowsL[j] = false) : idxI p = -1 := by
  have : rowsL.findIdx? p = none := List.findIdx?_eq_none_iff.2 (fun x hx => by obtain ⟨i, hi, rfl⟩ := List.getElem_of_mem hx; exact hb i hi)
  unfold idxI; rw [this]
theorem idx_cases (p : Rw → Bool) : (idxI p = -1 ∧ rowsL.find? p = none) ∨ ∃ k, ∃ h : k < rowsL.length, idxI p = (k : Int) ∧ rowsL.find? p = some rowsL[k] := by
  unfold idxI
  cases h : rowsL.findIdx? p with
  | none =>
    refine .inl ⟨rfl, List.find?_eq_none.2 (fun x hx => ?_)⟩
    have := List.findIdx?_eq_none_iff.1 h x hx
    rw [this]; decide
  | some k =>
    obtain ⟨h1, h2, h3⟩ := List.findIdx?_eq_some_iff_getElem.1 h
    refine .inr ⟨k, h1, rfl, ?_⟩
    rw [List.find?_eq_some_iff_getElem]
    exact ⟨h2, k, h1, rfl, fun j hj => by simpa using h3 j hj⟩
/-- The row that is found. -/
def foundR (p : Rw → Bool) : Rw := (rowsL.find? p).getD zeroR
def isFound (p : Rw → Bool) : Bool := (rowsL.find? p).isSome
end Go.Proofs.YtogokbefpgaciaaDoor
