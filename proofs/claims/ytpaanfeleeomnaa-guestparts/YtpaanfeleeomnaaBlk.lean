/- What is proved here: blocks of two cells that a statement lays, among rows of one's own. -/
import Derived.Test.YtpaanfeleeomnaaCopied
import Derived.Lib.OwnKind
import Derived.OneCell
namespace Go.Proofs.Ytpaanfeleeomnaa
open Go.RowKit
set_option maxRecDepth 100000
set_option linter.unusedVariables false
/-- A block of two cells, of a memory's type. -/
def Blk (w : World) (b : Nat) (x y : Value) : Prop := w.heap[b]? = some (.cells #[x, y] 25 (0, 0))
theorem Blk.lt {w : World} {b : Nat} {x y : Value} (h : Blk w b x y) : b < w.heap.size := by
  rw [Blk, Array.getElem?_eq_some_iff] at h
  exact h.1
theorem Blk.c0 {w : World} {b : Nat} {x y : Value} (h : Blk w b x y) : w.cell? ⟨b, 0, none⟩ = some x := by
  rw [Blk] at h; simp [World.cell?, h]
theorem Blk.c1 {w : World} {b : Nat} {x y : Value} (h : Blk w b x y) : w.cell? ⟨b, 1, none⟩ = some y := by
  rw [Blk] at h; simp [World.cell?, h]
theorem Blk.f0 {w : World} {b : Nat} {x y : Value} (h : Blk w b x y) : w.frozen? ⟨b, 0, none⟩ = false := by
  rw [Blk] at h; simp [World.frozen?, h]
theorem Blk.f1 {w : World} {b : Nat} {x y : Value} (h : Blk w b x y) : w.frozen? ⟨b, 1, none⟩ = false := by
  rw [Blk] at h; simp [World.frozen?, h]
theorem Blk.new {w : World} {x y : Value} {n : Nat} (h : n = w.heap.size) : Blk (w.alloc (.cells #[x, y] 25)) n x y := by
  subst h
  show (w.heap.push _)[w.heap.size]? = _
  simp
theorem Blk.keep {w w' : World} {b : Nat} {x y : Value} (hb : Below w.heap.size w w') (h : Blk w b x y) : Blk w' b x y := (hb.block b h.lt).trans h
theorem Blk.alloc {w : World} {b : Nat} {x y : Value} (h : Blk w b x y) (o : Obj) : Blk (w.alloc o) b x y := h.keep ((Below.refl _ _).alloc (Nat.le_refl _) _)
theorem Blk.drew {w : World} {b : Nat} {x y : Value} (h : Blk w b x y) : Blk w.drew b x y := h.keep (Below.refl _ _).drew
theorem Blk.setA {w : World} {b : Nat} {x y : Value} (h : Blk w b x y) (u : Value) : Blk (w.setCell ⟨b, 0, none⟩ u) b u y := heap_setCell_same w b 0 _ _ u h
theorem Blk.setB {w : World} {b : Nat} {x y : Value} (h : Blk w b x y) (u : Value) : Blk (w.setCell ⟨b, 1, none⟩ u) b x u := heap_setCell_same w b 1 _ _ u h
theorem Blk.setO {w : World} {b c i : Nat} {x y : Value} (h : Blk w b x y) (hn : b ≠ c) (u : Value) : Blk (w.setCell ⟨c, i, none⟩ u) b x y := (Below.heap_setCell w ⟨c, i, none⟩ u b hn).trans h
theorem Blk.own {w : World} {b B e n i : Nat} {x y v : Value} {xs : List Value} (hb : Blk w b x y) (he : e ≠ 25) (h : w.ownsRow B e 2 v n xs) (u : Value) : (w.setCell ⟨b, i, none⟩ u).ownsRow B e 2 v n xs := by
  refine ownsRow_setCell_other h (fun e' => ?_) u
  obtain ⟨c, fz, hk⟩ := Go.Lib.ownsRow_kind h b e'
  rw [Blk] at hb
  rw [hb] at hk
  simp at hk
  exact he hk.2.1.symm
theorem OwnH.blk {w : World} {b B i : Nat} {x y vm vc : Value} {ms cs : List (Nat × Int)} (h : OwnH B w vm vc ms cs) (hb : Blk w b x y) (u : Value) : OwnH B (w.setCell ⟨b, i, none⟩ u) vm vc ms cs :=
  ⟨hb.own (by decide) h.1 u, hb.own (by decide) h.2 u⟩
theorem Blk.set2 {w : World} {b : Nat} {x y : Value} (h : Blk w b (.slice none 0 0) (.slice none 0 0)) : Blk ((w.setCell ⟨b, 0, none⟩ x).setCell ⟨b, 1, none⟩ y) b x y := (h.setA x).setB y
theorem Blk.setO2 {w : World} {b c : Nat} {x y u v : Value} (h : Blk w b x y) (hn : b ≠ c) : Blk ((w.setCell ⟨c, 0, none⟩ u).setCell ⟨c, 1, none⟩ v) b x y := (h.setO hn u).setO hn v
theorem OwnH.blk2 {w : World} {b B : Nat} {x y vm vc : Value} {ms cs : List (Nat × Int)} (h : OwnH B w vm vc ms cs) (hb : Blk w b (.slice none 0 0) (.slice none 0 0)) : OwnH B ((w.setCell ⟨b, 0, none⟩ x).setCell ⟨b, 1, none⟩ y) vm vc ms cs := (h.blk hb x).blk (hb.setA x) y
theorem Blk.own2 {w : World} {b B e n : Nat} {x y v : Value} {xs : List Value} (hb : Blk w b (.slice none 0 0) (.slice none 0 0)) (he : e ≠ 25) (h : w.ownsRow B e 2 v n xs) : ((w.setCell ⟨b, 0, none⟩ x).setCell ⟨b, 1, none⟩ y).ownsRow B e 2 v n xs := (hb.setA x).own he (hb.own he h x) y
end Go.Proofs.Ytpaanfeleeomnaa
