/- What is proved here: what is put where a relocation is, the program's and the document's; the examples; the law's walk. -/
import Derived.Test.YtopclpdoinbegaaProg
import Derived.WalkKit
import Derived.WalkSpells
import Derived.WalkLawsBesides
import Derived.Below
import Derived.BigQuiet
import Derived.Deep.QuietTactic
import Derived.RegionTactic
namespace Go.Proofs.Ytopclpdoinbegaa
open Go.RowKit
set_option linter.unusedVariables false
set_option linter.unusedSimpArgs false
set_option maxRecDepth 100000
theorem below_tr {w w1 w2 : World} (h : Below w.heap.size w w1) (h' : Below w1.heap.size w1 w2) : Below w.heap.size w w2 := h.trans (h'.mono h.size)
theorem box3 (w : World) (a b c : Value) (t : Nat) : ∃ W, w.alloc (.cells #[a, b, c] t) = W ∧ Below w.heap.size w W ∧ W.cell? ⟨w.heap.size, 0, none⟩ = some a ∧ W.cell? ⟨w.heap.size, 1, none⟩ = some b ∧ W.cell? ⟨w.heap.size, 2, none⟩ = some c := by
  refine ⟨_, rfl, (Below.refl _ _).alloc (Nat.le_refl _) _, ?_, ?_, ?_⟩ <;> (rw [World.cell?_alloc_at _ _ _ _ (by simp)]; rfl)
/-- What is put where a relocation of this kind and this symbol is, and the error. -/
def valN (k s x y z : Int) : Int × Int :=
  if k = 0 then (x, 0) else if k = 3 then (if s = 0 then ((x + y) % 4294967296, 0) else ((x + z) % 4294967296, 0)) else (0, 107)
set_option maxHeartbeats 1000000 in
theorem value4 (a k s x y z : Int) (hx : 0 ≤ x ∧ x < 4294967296) (w : World) : Calls Try.prog 4 #[.agg #[.int .u32 a, .int .i64 k, .int .i64 s], .int .u32 x, .int .u32 y, .int .u32 z] w fun e w' => e = .returned (.tuple #[.int .u32 (valN k s x y z).1, .int .i64 (valN k s x y z).2]) ∧ Below w.heap.size w w' := by
  obtain ⟨W, hW, hb, c0, c1, c2⟩ := box3 w (.int .u32 a) (.int .i64 k) (.int .i64 s) 24
  have HB : Hid (Below w.heap.size w W) := hb
  clear hb
  by_cases h0 : k = 0
  · have hv : valN k s x y z = (x, 0) := if_pos h0
    rw [hv]
    subst h0
    go_enter Try.func4, Try.ntmps4
    go_wp2
    go_ret2
    exact ⟨rfl, HB.out⟩
  · by_cases h3 : k = 3
    · subst h3
      by_cases hs : s = 0
      · have hv : valN 3 s x y z = ((x + y) % 4294967296, 0) := by unfold valN; rw [if_neg h0, if_pos rfl, if_pos hs]
        rw [hv]
        subst hs
        go_enter Try.func4, Try.ntmps4
        go_wp2
        go_ret2
        exact ⟨rfl, HB.out⟩
      · have hv : valN 3 s x y z = ((x + z) % 4294967296, 0) := by unfold valN; rw [if_neg h0, if_pos rfl, if_neg hs]
        rw [hv]
        go_enter Try.func4, Try.ntmps4
        go_wp2_with fail
        go_ret2
        exact ⟨rfl, HB.out⟩
    · have hv : valN k s x y z = (0, 107) := by unfold valN; rw [if_neg h0, if_neg h3]
      rw [hv]
      go_enter Try.func4, Try.ntmps4
      go_wp2
      go_ret2
      exact ⟨rfl, HB.out⟩
set_option maxHeartbeats 1000000 in
theorem rvalue5 (a k s x y z : Int) (hx : 0 ≤ x ∧ x < 4294967296) (w : World) : Calls Try.prog 5 #[.agg #[.int .u32 a, .int .i64 k, .int .i64 s], .int .u32 x, .int .u32 y, .int .u32 z] w fun e w' => e = .returned (.tuple #[.int .u32 (valN k s x y z).1, .int .i64 (valN k s x y z).2]) ∧ Below w.heap.size w w' := by
  obtain ⟨W, hW, hb, c0, c1, c2⟩ := box3 w (.int .u32 a) (.int .i64 k) (.int .i64 s) 24
  have HB : Hid (Below w.heap.size w W) := hb
  clear hb
  by_cases h0 : k = 0
  · have hv : valN k s x y z = (x, 0) := if_pos h0
    rw [hv]
    subst h0
    go_enter Try.func5, Try.ntmps5
    go_wp2
    go_ret2
    exact ⟨rfl, HB.out⟩
  · by_cases h3 : k = 3
    · subst h3
      by_cases hs : s = 0
      · have hv : valN 3 s x y z = ((x + y) % 4294967296, 0) := by unfold valN; rw [if_neg h0, if_pos rfl, if_pos hs]
        rw [hv]
        subst hs
        go_enter Try.func5, Try.ntmps5
        go_wp2
        go_ret2
        exact ⟨rfl, HB.out⟩
      · have hv : valN 3 s x y z = ((x + z) % 4294967296, 0) := by unfold valN; rw [if_neg h0, if_pos rfl, if_neg hs]
        rw [hv]
        go_enter Try.func5, Try.ntmps5
        go_wp2_with fail
        go_ret2
        exact ⟨rfl, HB.out⟩
    · have hv : valN k s x y z = (0, 107) := by unfold valN; rw [if_neg h0, if_neg h3]
      rw [hv]
      go_enter Try.func5, Try.ntmps5
      go_wp2
      go_ret2
      exact ⟨rfl, HB.out⟩
set_option maxHeartbeats 1000000 in
theorem awake6 (w : World) : Calls Try.prog 6 #[] w fun e w' => e = .returned (.bool true) ∧ Below w.heap.size w w' := by
  go_enter Try.func6, Try.ntmps6
  go_wp2_with fail
  refine (value4 0 3 0 100 4096 50 (by decide) w).mono ?_
  rintro e w1 ⟨rfl, b1⟩
  have H1 : Hid (Below w.heap.size w w1) := b1
  clear b1
  have hv : valN 3 0 100 4096 50 = (4196, 0) := by decide
  rw [hv]
  clear hv
  go_wp2_with fail
  refine (value4 0 3 2 100 4096 50 (by decide) w1).mono ?_
  rintro e w2 ⟨rfl, b2⟩
  have H2 : Hid (Below w.heap.size w w2) := below_tr H1.out b2
  clear b2
  have hv : valN 3 2 100 4096 50 = (150, 0) := by decide
  rw [hv]
  clear hv
  go_wp2_with fail
  refine (value4 0 9 0 1 2 3 (by decide) w2).mono ?_
  rintro e w3 ⟨rfl, b3⟩
  have H3 : Hid (Below w.heap.size w w3) := below_tr H2.out b3
  clear b3
  have hv : valN 9 0 1 2 3 = (0, 107) := by decide
  rw [hv]
  clear hv
  go_wp2
  go_ret
  exact ⟨rfl, H3.out⟩
set_option maxHeartbeats 1000000 in
theorem values_walk (a k s x y z : Int) (hx : 0 ≤ x ∧ x < 4294967296) (w : World) : Calls Try.prog 3 #[.agg #[.int .u32 a, .int .i64 k, .int .i64 s], .int .u32 x, .int .u32 y, .int .u32 z] w fun e w' => e = .returned (.bool true) ∧ Below w.heap.size w w' := by
  obtain ⟨W, hW, hb, c0, c1, c2⟩ := box3 w (.int .u32 a) (.int .i64 k) (.int .i64 s) 24
  have HB : Hid (Below w.heap.size w W) := hb
  clear hb
  have K4 : Hid (∀ w', Calls Try.prog 4 #[.agg #[.int .u32 a, .int .i64 k, .int .i64 s], .int .u32 x, .int .u32 y, .int .u32 z] w' fun e w'' => e = .returned (.tuple #[.int .u32 (valN k s x y z).1, .int .i64 (valN k s x y z).2]) ∧ Below w'.heap.size w' w'') := fun w' => value4 a k s x y z hx w'
  have K5 : Hid (∀ w', Calls Try.prog 5 #[.agg #[.int .u32 a, .int .i64 k, .int .i64 s], .int .u32 x, .int .u32 y, .int .u32 z] w' fun e w'' => e = .returned (.tuple #[.int .u32 (valN k s x y z).1, .int .i64 (valN k s x y z).2]) ∧ Below w'.heap.size w' w'') := fun w' => rvalue5 a k s x y z hx w'
  generalize (valN k s x y z).1 = A at K4 K5
  generalize (valN k s x y z).2 = B at K4 K5
  clear hx
  go_enter Try.func3, Try.ntmps3
  go_wp2_with fail
  refine (K4.out W).mono ?_
  rintro e w1 ⟨rfl, b1⟩
  have H1 : Hid (Below w.heap.size w w1) := below_tr HB.out b1
  have C : Hid (w1.cell? ⟨w.heap.size, 0, none⟩ = some (.int .u32 a) ∧ w1.cell? ⟨w.heap.size, 1, none⟩ = some (.int .i64 k) ∧ w1.cell? ⟨w.heap.size, 2, none⟩ = some (.int .i64 s)) :=
    ⟨(b1.cell (World.block_lt_of_cell? W _ c0)).trans c0, (b1.cell (World.block_lt_of_cell? W _ c1)).trans c1, (b1.cell (World.block_lt_of_cell? W _ c2)).trans c2⟩
  clear b1 c0 c1 c2
  obtain ⟨c0, c1, c2⟩ := C.out
  go_wp2_with fail
  refine (K5.out w1).mono ?_
  rintro e w2 ⟨rfl, b2⟩
  have H2 : Hid (Below w.heap.size w w2) := below_tr H1.out b2
  clear b2 c0 c1 c2
  go_wp2_with fail
  refine (awake6 w2).mono ?_
  rintro e w3 ⟨rfl, b3⟩
  have H3 : Hid (Below w.heap.size w w3) := below_tr H2.out b3
  clear b3
  go_wp2
  go_ret
  exact ⟨rfl, H3.out⟩
end Go.Proofs.Ytopclpdoinbegaa
