/- What is proved here: Store, with a fault. -/
import Derived.Test.YtolmcbnammhjjaaStore
namespace Go.Proofs.Ytolmcbnammhjjaa
open Go.RowKit
set_option linter.unusedVariables false
set_option maxHeartbeats 4000000 in
theorem store22_fault (vm vc : Value) (ms cs : List (Nat × Int)) (a k v : Nat) (w : World) (hm : Sl .i64 w vm ms) (hc : Sl .u64 w vc cs) (sm : Srt ms) (lm : ms.length ≤ 1073741824) (lc : cs.length ≤ 1073741822)
    (ha : a < 18446744073709551616) (k1 : 1 ≤ k) (k8 : k ≤ 8) (hf : (faultFrom ms a 2 0 k).1 ≠ 0) :
    Calls Try.prog 22 #[.agg #[vm, vc], .int .u64 (a : Int), .int .i64 (k : Int), .int .u64 (v : Int)] w fun e w' => ∃ vm' vc', e = .returned (.tuple #[.agg #[vm', vc'], .agg #[.int .i64 (faultFrom ms a 2 0 k).1, .int .u64 ((faultFrom ms a 2 0 k).2 : Int)]]) ∧ OwnH w.heap.size w' vm' vc' ms cs ∧ Below w.heap.size w w' := by
  obtain ⟨W, hW, hb, hsz, c0, c1, g0, g1, g2, g3⟩ := box2c w vm vc (.slice none 0 0) (.slice none 0 0) (.int .i64 0) (.int .u64 0) 25 25 39
  have K37 : Hid (∀ w1, Below W.heap.size W w1 → Calls Try.prog 37 #[.agg #[vm, vc]] w1 fun e w' => ∃ b1 k1 q1 b2 k2 q2, e = .returned (.agg #[.slice b1 k1 q1, .slice b2 k2 q2]) ∧ w'.ownsRow (w.heap.size + 3) 54 2 (.slice b1 k1 q1) ms.length (rowOf .i64 ms) ∧ w'.ownsRow (w.heap.size + 3) 58 2 (.slice b2 k2 q2) cs.length (rowOf .u64 cs) ∧ Below w1.heap.size w1 w') := fun w1 hb1 =>
    (copied37 vm vc ms cs w1 (hm.keep (below_tr hb hb1)) (hc.keep (below_tr hb hb1)) lm (by omega)).mono (by
      rintro e w' ⟨v1, v2, rfl, ho, ho2, hB⟩
      obtain ⟨b1, k1, q1, rfl⟩ := own_shape ho
      obtain ⟨b2, k2, q2, rfl⟩ := own_shape ho2
      have := hb1.size
      exact ⟨b1, k1, q1, b2, k2, q2, rfl, own_base ho (by omega), own_base ho2 (by omega), hB⟩)
  obtain ⟨x, nm, p, rfl⟩ : ∃ a n p, vm = .slice a n p := by obtain ⟨a, p, h, _⟩ := hm; exact ⟨_, _, _, h⟩
  obtain ⟨x', nc, p', rfl⟩ : ∃ a n p, vc = .slice a n p := by obtain ⟨a, p, h, _⟩ := hc; exact ⟨_, _, _, h⟩
  have K44 : Hid (Calls Try.prog 44 #[.agg #[.slice x nm p, .slice x' nc p'], .int .u64 (a : Int), .int .u64 (k : Int), .int .i64 2] W fun e w' => e = .returned (.agg #[.int .i64 (faultFrom ms a 2 0 k).1, .int .u64 ((faultFrom ms a 2 0 k).2 : Int)]) ∧ Below W.heap.size W w') :=
    firstFault44 (.slice x nm p) (.slice x' nc p') ms a k 2 W (hm.keep hb) ⟨_, _, _, rfl⟩ sm lm ha k8
  generalize (faultFrom ms a 2 0 k).1 = fk at K44 hf ⊢
  generalize (faultFrom ms a 2 0 k).2 = fa at K44 ⊢
  have hne : (fk != 0) = true := by simpa using hf
  clear hm hc sm hf ha
  go_enter Try.func22, Try.ntmps22
  go_wp2_with fail
  refine K44.out.mono ?_
  rintro e w1 ⟨rfl, hb1⟩
  obtain ⟨W3, hW3, hb3, _, m0, m1, _, _⟩ := box2 w1 (.int .i64 fk) (.int .u64 (fa : Int)) 39
  have e0 := keep_cell hb3 (keep_cell hb1 c0)
  have e1 := keep_cell hb3 (keep_cell hb1 c1)
  have hlt : w.heap.size + 2 < w1.heap.size := by have := hb1.size; omega
  have HLT : Hid (w.heap.size + 2 < w1.heap.size) := hlt
  clear hlt K44
  have G0 : Free W3 ⟨w.heap.size + 1, 0, none⟩ := (by (repeat (first | with_reducible assumption | with_reducible refine Free.drew ?_ | with_reducible refine Free.alloc ?_ _ | with_reducible refine Free.set ?_ _ _ | with_reducible refine Free.keep (by with_reducible assumption) ?_)))
  have G1 : Free W3 ⟨w.heap.size + 1, 1, none⟩ := (by (repeat (first | with_reducible assumption | with_reducible refine Free.drew ?_ | with_reducible refine Free.alloc ?_ _ | with_reducible refine Free.set ?_ _ _ | with_reducible refine Free.keep (by with_reducible assumption) ?_)))
  have G2 : Free W3 ⟨w.heap.size + 1 + 1, 0, none⟩ := (by (repeat (first | with_reducible assumption | with_reducible refine Free.drew ?_ | with_reducible refine Free.alloc ?_ _ | with_reducible refine Free.set ?_ _ _ | with_reducible refine Free.keep (by with_reducible assumption) ?_)))
  have G3 : Free W3 ⟨w.heap.size + 1 + 1, 1, none⟩ := (by (repeat (first | with_reducible assumption | with_reducible refine Free.drew ?_ | with_reducible refine Free.alloc ?_ _ | with_reducible refine Free.set ?_ _ _ | with_reducible refine Free.keep (by with_reducible assumption) ?_)))
  have i0 := G0.cell
  have i1 := G1.cell
  have i2 := G2.cell
  have i3 := G3.cell
  have j0 := G0.frozen
  have j1 := G1.frozen
  have j2 := G2.frozen
  have j3 := G3.frozen
  have hbW3 : Below W.heap.size W W3 := below_tr hb1 hb3
  have hbw3 : Below w.heap.size w W3 := below_tr hb hbW3
  clear hb1 hb3
  go_wp2
  go_region_held3 (fun w' => Below w.heap.size w w' ∧ w'.cell? ⟨w.heap.size, 0, none⟩ = some (.slice x nm p) ∧ w'.cell? ⟨w.heap.size, 1, none⟩ = some (.slice x' nc p') ∧ w'.cell? ⟨w1.heap.size, 0, none⟩ = some (.int .i64 fk) ∧ w'.cell? ⟨w1.heap.size, 1, none⟩ = some (.int .u64 (fa : Int)) ∧ w'.cell? ⟨w.heap.size + 1, 0, none⟩ = some (cellAt w' ⟨w.heap.size + 1, 0, none⟩) ∧ w'.cell? ⟨w.heap.size + 1, 1, none⟩ = some (cellAt w' ⟨w.heap.size + 1, 1, none⟩) ∧ w'.cell? ⟨w.heap.size + 1 + 1, 0, none⟩ = some (cellAt w' ⟨w.heap.size + 1 + 1, 0, none⟩) ∧ w'.cell? ⟨w.heap.size + 1 + 1, 1, none⟩ = some (cellAt w' ⟨w.heap.size + 1 + 1, 1, none⟩) ∧ w'.frozen? ⟨w.heap.size + 1, 0, none⟩ = false ∧ w'.frozen? ⟨w.heap.size + 1, 1, none⟩ = false ∧ w'.frozen? ⟨w.heap.size + 1 + 1, 0, none⟩ = false ∧ w'.frozen? ⟨w.heap.size + 1 + 1, 1, none⟩ = false)
    (refine ⟨?_, ?_, ?_, ?_, ?_, ?_, ?_, ?_, ?_, ?_, ?_, ?_, ?_⟩ <;> first | (with_reducible refine Free.cell ?_; (repeat (first | with_reducible assumption | with_reducible refine Free.drew ?_ | with_reducible refine Free.alloc ?_ _ | with_reducible refine Free.set ?_ _ _ | with_reducible refine Free.keep (by with_reducible assumption) ?_)); done) | (with_reducible refine Free.frozen ?_; (repeat (first | with_reducible assumption | with_reducible refine Free.drew ?_ | with_reducible refine Free.alloc ?_ _ | with_reducible refine Free.set ?_ _ _ | with_reducible refine Free.keep (by with_reducible assumption) ?_)); done) | ((repeat (first | with_reducible assumption | with_reducible exact Below.refl _ _ | with_reducible refine Below.drew ?_ | with_reducible refine below_alloc ?_ _ | (with_reducible refine below_set ?_ ?_ _; rotate_left; focus (first | (simp; done) | (simp; omega))) | with_reducible refine below_tr ?_ (by with_reducible assumption))); done) | ((repeat (first | with_reducible assumption | with_reducible refine cell_drew ?_ | with_reducible refine cell_old ?_ _ | (with_reducible refine cell_far ?_ ?_ _; rotate_left; focus (first | (simp; done) | (have := HLT.out; simp; omega))) | with_reducible refine keep_cell (by with_reducible assumption) ?_)); done))
    (first | (go_at_call 37; refine (K37.out _ (by (repeat (first | with_reducible assumption | with_reducible exact Below.refl _ _ | with_reducible refine Below.drew ?_ | with_reducible refine below_alloc ?_ _ | (with_reducible refine below_set ?_ ?_ _; rotate_left; focus (first | (simp; done) | (simp; omega))) | with_reducible refine below_tr ?_ (by with_reducible assumption))))).mono ?_; rintro e w' ⟨b1, k1', q1, b2, k2, q2, rfl, ho, ho2, hB1⟩))
  all_goals (go_wp2; (try simp only [Exit.inBlock, Exit.then]))
  all_goals have r := res4 w' (w.heap.size + 1) (w.heap.size + 1 + 1) (.slice b1 k1' q1) (.slice b2 k2 q2) (.int .i64 fk) (.int .u64 (fa : Int)) (by omega) (by (repeat (first | with_reducible assumption | with_reducible refine Free.drew ?_ | with_reducible refine Free.alloc ?_ _ | with_reducible refine Free.set ?_ _ _ | with_reducible refine Free.keep (by with_reducible assumption) ?_))) (by (repeat (first | with_reducible assumption | with_reducible refine Free.drew ?_ | with_reducible refine Free.alloc ?_ _ | with_reducible refine Free.set ?_ _ _ | with_reducible refine Free.keep (by with_reducible assumption) ?_))) (by (repeat (first | with_reducible assumption | with_reducible refine Free.drew ?_ | with_reducible refine Free.alloc ?_ _ | with_reducible refine Free.set ?_ _ _ | with_reducible refine Free.keep (by with_reducible assumption) ?_))) (by (repeat (first | with_reducible assumption | with_reducible refine Free.drew ?_ | with_reducible refine Free.alloc ?_ _ | with_reducible refine Free.set ?_ _ _ | with_reducible refine Free.keep (by with_reducible assumption) ?_)))
  all_goals obtain ⟨r0, r1, r2, r3⟩ := r
  all_goals refine bodyPost_ret (v := .tuple #[.agg #[.slice b1 k1' q1, .slice b2 k2 q2], .agg #[.int .i64 fk, .int .u64 (fa : Int)]]) ?_ rfl ⟨_, _, rfl, ⟨own_base (base := w.heap.size + 3) (by (repeat (first | with_reducible assumption | (with_reducible refine ownsRow_setCell_below ?_ ?_ _; rotate_left; focus (first | (simp; done) | (simp; omega))) | with_reducible refine own_keep ?_ (by with_reducible assumption) | with_reducible refine own_alloc ?_ _ | with_reducible refine own_drew ?_))) (by omega), own_base (base := w.heap.size + 3) (by (repeat (first | with_reducible assumption | (with_reducible refine ownsRow_setCell_below ?_ ?_ _; rotate_left; focus (first | (simp; done) | (simp; omega))) | with_reducible refine own_keep ?_ (by with_reducible assumption) | with_reducible refine own_alloc ?_ _ | with_reducible refine own_drew ?_))) (by omega)⟩, (by (repeat (first | with_reducible assumption | with_reducible exact Below.refl _ _ | with_reducible refine Below.drew ?_ | with_reducible refine below_alloc ?_ _ | (with_reducible refine below_set ?_ ?_ _; rotate_left; focus (first | (simp; done) | (simp; omega))) | with_reducible refine below_tr ?_ (by with_reducible assumption))))⟩
  all_goals (rw [results_cells rfl]; simp [go_sem, r0, r1, r2, r3])
end Go.Proofs.Ytolmcbnammhjjaa
