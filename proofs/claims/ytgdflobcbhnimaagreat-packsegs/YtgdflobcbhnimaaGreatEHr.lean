/- What is proved here: a segment is taken off a file, or it throws. -/
import Derived.Test.YtgdflobcbhnimaaGreatESl
import Derived.Test.YtgdflobcbhnimaaGreatEWn
import Derived.OwnWalk
import Derived.RegionTactic
import Derived.Defers
import Derived.Recover
import Derived.Laws.Pointers
namespace Go.Proofs.YtgdflobcbhnimaaGreat.E
open Go.RowKit
set_option linter.unusedVariables false
set_option linter.unusedSimpArgs false
set_option maxRecDepth 100000
/-- A segment's block. -/
def B7 (g : Sg) (b : Nat) (w : World) : Prop := w.heap[b]? = some (.cells #[.int .i64 (g.kind : Int), .int .u32 (g.off : Int), .int .u32 (g.at_ : Int), .int .u32 (g.size : Int), .int .u32 (g.room : Int), .int .i64 (g.prot : Int), .int .u32 (g.align : Int)] 41 (0, 0))
theorem B7.lt {g : Sg} {b : Nat} {w : World} (h : B7 g b w) : b < w.heap.size := (Array.getElem?_eq_some_iff.1 h).1
theorem B7.cells {g : Sg} {b : Nat} {w : World} (h : B7 g b w) : w.cell? ⟨b, 0, none⟩ = some (.int .i64 (g.kind : Int)) ∧ w.cell? ⟨b, 1, none⟩ = some (.int .u32 (g.off : Int)) ∧ w.cell? ⟨b, 2, none⟩ = some (.int .u32 (g.at_ : Int)) ∧ w.cell? ⟨b, 3, none⟩ = some (.int .u32 (g.size : Int)) ∧ w.cell? ⟨b, 4, none⟩ = some (.int .u32 (g.room : Int)) ∧ w.cell? ⟨b, 5, none⟩ = some (.int .i64 (g.prot : Int)) ∧ w.cell? ⟨b, 6, none⟩ = some (.int .u32 (g.align : Int)) := by
  have h' : w.heap[b]? = _ := h
  refine ⟨?_, ?_, ?_, ?_, ?_, ?_, ?_⟩ <;> simp [World.cell?, h']
theorem B7.frozen {g : Sg} {b : Nat} {w : World} (h : B7 g b w) (k : Nat) : w.frozen? ⟨b, k, none⟩ = false := by
  have h' : w.heap[b]? = _ := h
  simp [World.frozen?, h']
theorem B7.row {g : Sg} {b : Nat} {w w' : World} {row : Option Nat} (h : B7 g b w) (hg : w.grownBy w' row) (hr : some b ≠ row) : B7 g b w' := (hg.block b h.lt hr).trans h
theorem blk_set {w : World} {b : Nat} {cs : Array Value} {t : Nat} (h : w.heap[b]? = some (.cells cs t (0, 0))) (k : Nat) (v : Value) : (w.setCell ⟨b, k, none⟩ v).heap[b]? = some (.cells (cs.setIfInBounds k v) t (0, 0)) := by
  obtain ⟨hlt, hk⟩ := Array.getElem?_eq_some_iff.1 h
  show (w.heap.modify b _)[b]? = _
  rw [Array.getElem?_eq_getElem (by rw [Array.size_modify]; exact hlt), Array.getElem_modify_self, hk]
  simp
theorem grown_setk (w : World) (b k : Nat) (v : Value) : w.grownBy (w.setCell ⟨b, k, none⟩ v) (some b) :=
  ⟨rfl, rfl, rfl, (KeepsWalks.setCell w _ v).size, fun j _ hk => Below.heap_setCell _ _ _ j (fun e => hk (by rw [e]))⟩
theorem wd_drop (l : L8) (a b : Nat) : wd (l.drop a) b = wd l (a + b) := by unfold wd; rw [List.drop_drop]
end Go.Proofs.YtgdflobcbhnimaaGreat.E
namespace Go.Proofs.YtgdflobcbhnimaaGreat.E
open Go.RowKit
set_option linter.unusedVariables false
set_option linter.unusedSimpArgs false
set_option maxRecDepth 100000
/-- A header's block. -/
def B3 (a b c : Value) (n : Nat) (w : World) : Prop := w.heap[n]? = some (.cells #[a, b, c] 37 (0, 0))
theorem B3.lt {a b c : Value} {n : Nat} {w : World} (h : B3 a b c n w) : n < w.heap.size := (Array.getElem?_eq_some_iff.1 h).1
theorem B3.cells {a b c : Value} {n : Nat} {w : World} (h : B3 a b c n w) : w.cell? ⟨n, 0, none⟩ = some a ∧ w.cell? ⟨n, 1, none⟩ = some b ∧ w.cell? ⟨n, 2, none⟩ = some c := by
  have h' : w.heap[n]? = _ := h
  refine ⟨?_, ?_, ?_⟩ <;> simp [World.cell?, h']
theorem B3.frozen {a b c : Value} {n : Nat} {w : World} (h : B3 a b c n w) (k : Nat) : w.frozen? ⟨n, k, none⟩ = false := by
  have h' : w.heap[n]? = _ := h
  simp [World.frozen?, h']
theorem B3.row {a b c : Value} {n : Nat} {w w' : World} {row : Option Nat} (h : B3 a b c n w) (hg : w.grownBy w' row) (hr : some n ≠ row) : B3 a b c n w' := (hg.block n h.lt hr).trans h
theorem B3.keep {a b c : Value} {n : Nat} {w w' : World} (h : B3 a b c n w) (hb : Below w.heap.size w w') : B3 a b c n w' := (hb.block n h.lt).trans h
def st3 (w : World) (n : Nat) (a b c : Value) : World := ((w.setCell ⟨n, 0, none⟩ a).setCell ⟨n, 1, none⟩ b).setCell ⟨n, 2, none⟩ c
theorem st3_in {w : World} {n : Nat} {x y z : Value} (h : B3 x y z n w) (a b c : Value) : B3 a b c n (st3 w n a b c) := by
  unfold B3 st3
  unfold B3 at h
  have h2 := blk_set (blk_set (blk_set h 0 a) 1 b) 2 c
  simp at h2
  exact h2
theorem st3_grown (w : World) (n : Nat) (a b c : Value) : w.grownBy (st3 w n a b c) (some n) := by
  unfold st3
  refine gb_trans ?_ (grown_setk _ n 2 _)
  refine gb_trans ?_ (grown_setk _ n 1 _)
  exact grown_setk w n 0 _
abbrev Z3 (n : Nat) (w : World) : Prop := B3 (.bool false) (.int .u32 0) (.slice none 0 0) n w
end Go.Proofs.YtgdflobcbhnimaaGreat.E
namespace Go.Proofs.YtgdflobcbhnimaaGreat.E
open Go.RowKit
set_option linter.unusedVariables false
set_option linter.unusedSimpArgs false
set_option maxRecDepth 100000
/-- A row of segments of one's own. -/
def OwnG (B : Nat) (w : World) (v : Value) (gs : List Sg) : Prop := w.ownsRow B 41 7 v gs.length (gs.flatMap Sg.cells)
theorem cells_at (gs : List Sg) : ∀ i (h : i < gs.length) j (hj : j < 7), (gs.flatMap Sg.cells)[i * 7 + j]? = (gs[i].cells)[j]? := by
  induction gs with
  | nil => intro i h; simp at h
  | cons g t ih =>
    intro i h j hj
    rw [List.flatMap_cons]
    match i, h with
    | 0, _ => rw [Nat.zero_mul, Nat.zero_add, List.getElem?_append_left (by show j < 7; exact hj)]; rfl
    | i + 1, h =>
      rw [List.getElem?_append_right (by show 7 ≤ _; omega), show (i + 1) * 7 + j - g.cells.length = i * 7 + j from by show (i + 1) * 7 + j - 7 = _; omega]
      exact ih i (by simpa using h) j hj
theorem OwnG.sl {B : Nat} {w : World} {v : Value} {gs : List Sg} (h : OwnG B w v gs) : SlG w v gs := by
  obtain ⟨h0, h | ⟨g, cap, cur, h1, h2, h3, h4, h5, h6, h7⟩⟩ := h
  · obtain ⟨rfl, h⟩ := h
    have : gs = [] := List.eq_nil_of_length_eq_zero h
    subst this
    exact SlG.nil w
  · refine ⟨some ⟨g, 0, none⟩, cap, h1, h4, by unfold maxLen at h5; omega, (by simp), fun i hi => ⟨g, 0, rfl, ?_⟩⟩
    have key : ∀ j v, j < 7 → (gs[i].cells)[j]? = some v → w.cell? ⟨g, 0 + i * 7 + j, none⟩ = some v := by
      intro j v hj hv
      have e := cells_at gs i hi j hj
      rw [hv, ← h7] at e
      have hlt : i * 7 + j < gs.length * 7 := by omega
      rw [List.getElem?_take_of_lt hlt] at e
      simp only [World.cell?, h3, Nat.zero_add]
      simpa using e
    exact ⟨key 0 _ (by decide) rfl, key 1 _ (by decide) rfl, key 2 _ (by decide) rfl, key 3 _ (by decide) rfl, key 4 _ (by decide) rfl, key 5 _ (by decide) rfl, key 6 _ (by decide) rfl⟩
theorem OwnG.keep {B : Nat} {w w' : World} {v : Value} {gs : List Sg} (h : OwnG B w v gs) (hb : Below w.heap.size w w') : OwnG B w' v gs := own_keep h hb
theorem OwnG.row {B n : Nat} {w w' : World} {v : Value} {gs : List Sg} (h : OwnG B w v gs) (hg : w.grownBy w' (some n)) (hn : n < B) : OwnG B w' v gs := by
  obtain ⟨h0, h | ⟨g, cap, cur, h1, h2, h3, h4⟩⟩ := h
  · exact ⟨h0, Or.inl h⟩
  · refine ⟨h0, Or.inr ⟨g, cap, cur, h1, h2, ?_, h4⟩⟩
    rw [hg.block g (Array.getElem?_eq_some_iff.1 h3).1 (by intro e; injection e with e; omega)]; exact h3
theorem OwnG.base {B B' : Nat} {w : World} {v : Value} {gs : List Sg} (h : OwnG B w v gs) (hb : B' ≤ B) : OwnG B' w v gs := by
  obtain ⟨h0, h | ⟨g, cap, cur, h1, h2, h3, h4⟩⟩ := h
  · exact ⟨h0, Or.inl h⟩
  · exact ⟨h0, Or.inr ⟨g, cap, cur, h1, Nat.le_trans hb h2, h3, h4⟩⟩
theorem OwnG.shape {B : Nat} {w : World} {v : Value} {gs : List Sg} (h : OwnG B w v gs) : ∃ a c, v = .slice a gs.length c := by
  obtain ⟨_, h | ⟨g, cap, cur, h1, _⟩⟩ := h
  · exact ⟨none, 0, by rw [h.1, h.2]⟩
  · exact ⟨_, _, h1⟩
theorem OwnG.ge {B : Nat} {w : World} {v : Value} {gs : List Sg} (h : OwnG B w v gs) : ∀ r, v.ownBlock = some r → B ≤ r := by
  intro r hr
  obtain ⟨_, h | ⟨g, cap, cur, h1, h2, _⟩⟩ := h
  · rw [h.1] at hr; cases hr
  · rw [h1] at hr
    injection hr with hr
    subst hr
    exact h2
theorem B3.rows {a b c : Value} {n N : Nat} {w w' : World} {row : Option Nat} (h : B3 a b c n w) (hg : w.grownBy w' row) (hr : ∀ k, row = some k → N ≤ k) (hN : n < N) : B3 a b c n w' := h.row hg (fun e => by have := hr n e.symm; omega)
theorem info39 : ∃ i, Tryz.prog.info? 41 = some i ∧ i.zero = some (.agg #[.int .i64 0, .int .u32 0, .int .u32 0, .int .u32 0, .int .u32 0, .int .i64 0, .int .u32 0]) ∧ i.size = 7 ∧ i.bytes = 40 := info_parts (P := Tryz.prog) (e := 41) (by kernel_rfl)
theorem cells7 (wy : World) (g : Nat) (G : Sg) (h : wy.heap[g]? = some (.cells #[.int .i64 G.kind, .int .u32 (G.off : Int), .int .u32 (G.at_ : Int), .int .u32 (G.size : Int), .int .u32 (G.room : Int), .int .i64 G.prot, .int .u32 (G.align : Int)] 41 (0, 0))) : ∀ j u, (G.cells)[j]? = some u → wy.cell? ((⟨g, 0, none⟩ : Addr).add j) = some u := by
  intro j u hj
  have : j < 7 := (List.getElem?_eq_some_iff.1 hj).1
  have hc : j = 0 ∨ j = 1 ∨ j = 2 ∨ j = 3 ∨ j = 4 ∨ j = 5 ∨ j = 6 := by omega
  rcases hc with rfl | rfl | rfl | rfl | rfl | rfl | rfl <;> (simp [Sg.cells] at hj; subst hj; simp [Addr.add, World.cell?, h])
theorem segsAt_len (l : L8) (n : Nat) : (segsAt l n).length = n := by unfold segsAt; simp
theorem segsAt_get (l : L8) (n k : Nat) (h : k < n) (h' : k < (segsAt l n).length) : (segsAt l n)[k] = segN (l.drop (52 + 32 * k)) := by
  simp only [segsAt, List.getElem_map, List.getElem_range]
theorem segsAt_bd (l : L8) (n : Nat) : ∀ g ∈ segsAt l n, g.Bd := by
  intro g hg
  unfold segsAt at hg
  obtain ⟨i, _, rfl⟩ := List.mem_map.1 hg
  exact segN_bd _
end Go.Proofs.YtgdflobcbhnimaaGreat.E
namespace Go.Proofs.YtgdflobcbhnimaaGreat.E
open Go.RowKit
set_option linter.unusedVariables false
set_option linter.unusedSimpArgs false
set_option maxRecDepth 100000
end Go.Proofs.YtgdflobcbhnimaaGreat.E
namespace Go.Proofs.YtgdflobcbhnimaaGreat.E
open Go.RowKit
set_option linter.unusedVariables false
set_option linter.unusedSimpArgs false
set_option maxRecDepth 100000
theorem own_nil (B : Nat) (w : World) : OwnG B w (.slice none 0 0) [] := ⟨by simp, Or.inl ⟨rfl, by simp⟩⟩
end Go.Proofs.YtgdflobcbhnimaaGreat.E
