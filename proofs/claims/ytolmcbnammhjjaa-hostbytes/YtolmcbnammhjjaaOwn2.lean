/- What is proved here: a memory of one's own: rows that no elder block holds. -/
import Derived.Test.YtolmcbnammhjjaaHeld
namespace Go.Proofs.Ytolmcbnammhjjaa
open Go.RowKit
set_option linter.unusedVariables false
/-- A memory whose rows lie in blocks from B on. -/
def OwnH (B : Nat) (w : World) (vm vc : Value) (ms cs : List (Nat × Int)) : Prop := w.ownsRow B 54 2 vm ms.length (rowOf .i64 ms) ∧ w.ownsRow B 58 2 vc cs.length (rowOf .u64 cs)
theorem OwnH.m {B : Nat} {w : World} {vm vc : Value} {ms cs : List (Nat × Int)} (h : OwnH B w vm vc ms cs) : Sl .i64 w vm ms := own_sl h.1
theorem OwnH.c {B : Nat} {w : World} {vm vc : Value} {ms cs : List (Nat × Int)} (h : OwnH B w vm vc ms cs) : Sl .u64 w vc cs := own_sl h.2
theorem OwnH.shape {B : Nat} {w : World} {vm vc : Value} {ms cs : List (Nat × Int)} (h : OwnH B w vm vc ms cs) : ∃ a n p a' n' p', vm = .slice a n p ∧ vc = .slice a' n' p' := by
  obtain ⟨a, n, p, rfl⟩ := own_shape h.1
  obtain ⟨a', n', p', rfl⟩ := own_shape h.2
  exact ⟨_, _, _, _, _, _, rfl, rfl⟩
theorem OwnH.keep {B : Nat} {w w' : World} {vm vc : Value} {ms cs : List (Nat × Int)} (h : OwnH B w vm vc ms cs) (hb : Below w.heap.size w w') : OwnH B w' vm vc ms cs := ⟨own_keep h.1 hb, own_keep h.2 hb⟩
theorem OwnH.base {B B' : Nat} {w : World} {vm vc : Value} {ms cs : List (Nat × Int)} (h : OwnH B w vm vc ms cs) (hb : B' ≤ B) : OwnH B' w vm vc ms cs := ⟨own_base h.1 hb, own_base h.2 hb⟩
theorem OwnH.set {B : Nat} {w : World} {vm vc : Value} {ms cs : List (Nat × Int)} (h : OwnH B w vm vc ms cs) {a : Addr} (ha : a.block < B) (u : Value) : OwnH B (w.setCell a u) vm vc ms cs :=
  ⟨ownsRow_setCell_below h.1 ha u, ownsRow_setCell_below h.2 ha u⟩
theorem OwnH.alloc {B : Nat} {w : World} {vm vc : Value} {ms cs : List (Nat × Int)} (h : OwnH B w vm vc ms cs) (o : Obj) : OwnH B (w.alloc o) vm vc ms cs := h.keep ((Below.refl _ _).alloc (Nat.le_refl _) _)
theorem OwnH.drew {B : Nat} {w : World} {vm vc : Value} {ms cs : List (Nat × Int)} (h : OwnH B w vm vc ms cs) : OwnH B w.drew vm vc ms cs := h.keep (Below.refl _ _).drew
theorem res2_own {w : World} {n B : Nat} {x y v : Value} {m : Nat} {xs : List Value} {base e : Nat} (h : w.ownsRow base e 2 v m xs) (hn : n < base) (hB : B ≤ base) : ((w.setCell ⟨n, 0, none⟩ x).setCell ⟨n, 1, none⟩ y).ownsRow B e 2 v m xs :=
  own_base (ownsRow_setCell_below (ownsRow_setCell_below h (by simpa using hn) _) (by simpa using hn) _) hB
theorem res4_own {w : World} {n m B : Nat} {x y u t v : Value} {j : Nat} {xs : List Value} {base e : Nat} (h : w.ownsRow base e 2 v j xs) (hn : n < base) (hm : m < base) (hB : B ≤ base) :
    ((((w.setCell ⟨n, 0, none⟩ x).setCell ⟨n, 1, none⟩ y).setCell ⟨m, 0, none⟩ u).setCell ⟨m, 1, none⟩ t).ownsRow B e 2 v j xs :=
  res2_own (res2_own h hn (Nat.le_refl _)) hm hB
end Go.Proofs.Ytolmcbnammhjjaa
