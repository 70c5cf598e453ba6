/- What is proved here: a list without the items from one place to another. -/
import Derived.Test.YtkpmkgkfpikpfaaGreatSpan
import Derived.Test.YtkpmkgkfpikpfaaGreatHeld
namespace Go.Proofs.YtkpmkgkfpikpfaaGreat
open Go.RowKit
set_option maxRecDepth 100000
set_option linter.unusedVariables false
set_option maxHeartbeats 2000000 in
theorem without42 (v : Value) (A B C : List (Nat × Int)) (first last : Nat) (w : World) (hS : Sl .i64 w v (A ++ B ++ C)) (hn : (A ++ B ++ C).length ≤ 1073741824)
  (hA : ∀ x ∈ A, x.1 < first) (hB : ∀ x ∈ B, first ≤ x.1 ∧ x.1 ≤ last) (hC : ∀ x ∈ C, first ≤ x.1 ∧ last < x.1) :
  Calls Tryz.prog 121 #[v, .func (.func 67) #[] #[], .int .u64 (first : Int), .int .u64 (last : Int)] w
   fun e w' => ∃ v', e = .returned v' ∧ w'.ownsRow w.heap.size 77 2 v' (A ++ C).length (rowOf .i64 (A ++ C)) ∧ Below w.heap.size w w' := by
 have K := span38 v A B C first last w hS hn hA hB hC
 have hn' : (A ++ C).length ≤ 1073741824 := by simp at hn ⊢; omega
 obtain ⟨v1, e1, s1, a1, n1, p1, rfl⟩ := hS.to22 A.length (by simp)
 obtain ⟨v2, e2, s2, a2, n2, p2, rfl⟩ := hS.from22 (A.length + B.length) (by simp)
 rw [show (A ++ B ++ C).take A.length = A by simp] at s1
 rw [show (A ++ B ++ C).drop (A.length + B.length) = C by rw [← List.length_append]; simp] at s2
 have K39 : Hid (∀ b w1, Below w.heap.size w w1 → w1.cell? ⟨b, 0, none⟩ = some (.slice a1 n1 p1) → w1.cell? ⟨b, 1, none⟩ = some (.slice a2 n2 p2) → Calls Tryz.prog 90 #[.slice (some ⟨b, 0, none⟩) 2 2] w1 fun e w' => ∃ v, e = .returned v ∧ w'.ownsRow w.heap.size 77 2 v (A ++ C).length (rowOf .i64 (A ++ C)) ∧ Below w1.heap.size w1 w') := fun b w1 hb1 c0 c1 =>
  (cat39_2 b _ _ A C w1 c0 c1 (s1.keep hb1) (s2.keep hb1) hn').mono (by rintro e w' ⟨v, rfl, ho, hB⟩; exact ⟨v, rfl, own_base ho hb1.size, hB⟩)
 have hl : A.length + B.length ≤ 1073741824 := by simp at hn; omega
 obtain ⟨av, nv, pv, rfl⟩ : ∃ a n p, v = .slice a n p := by obtain ⟨a, p, h, _⟩ := hS; exact ⟨_, _, _, h⟩
 clear hS s1 s2 hA hB hC hn hn'
 generalize A.length + B.length = t at K e2 hl
 generalize A.length = f at K e1
 go_enter Tryz.func121, Tryz.ntmps121
 go_wp2_with fail
 refine K.mono ?_
 rintro e w1 ⟨rfl, hb⟩
 clear K
 go_wp2_with fail
 go_region_held3 (fun w' => Below w.heap.size w w') ((repeat (first | with_reducible assumption | with_reducible exact Below.refl _ _ | with_reducible refine Below.drew ?_ | with_reducible refine below_alloc ?_ _ | (with_reducible refine below_set ?_ ?_ _; rotate_left; focus (simp; done)) | with_reducible refine below_tr ?_ (by with_reducible assumption)))) ((go_at_call 90; refine (K39.out _ _ (by (repeat (first | with_reducible assumption | with_reducible exact Below.refl _ _ | with_reducible refine Below.drew ?_ | with_reducible refine below_alloc ?_ _ | (with_reducible refine below_set ?_ ?_ _; rotate_left; focus (simp; done)) | with_reducible refine below_tr ?_ (by with_reducible assumption)))) (by (repeat (first | with_reducible assumption | with_reducible refine cell_drew ?_ | (with_reducible refine cell_newA _ _ _ _ _ _ ?_ rfl; (simp [*]; done)) | with_reducible refine cell_old ?_ _ | (with_reducible refine cell_far ?_ ?_ _; rotate_left; focus (simp; done)) | with_reducible refine keep_cell (by with_reducible assumption) ?_))) (by (repeat (first | with_reducible assumption | with_reducible refine cell_drew ?_ | (with_reducible refine cell_newA _ _ _ _ _ _ ?_ rfl; (simp [*]; done)) | with_reducible refine cell_old ?_ _ | (with_reducible refine cell_far ?_ ?_ _; rotate_left; focus (simp; done)) | with_reducible refine keep_cell (by with_reducible assumption) ?_)))).mono ?_; rintro e w' ⟨v3, rfl, ho, hB1⟩))
 all_goals go_wp2
 all_goals go_ret
 all_goals exact ⟨v3, rfl, ho, (by (repeat (first | with_reducible assumption | with_reducible exact Below.refl _ _ | with_reducible refine Below.drew ?_ | with_reducible refine below_alloc ?_ _ | (with_reducible refine below_set ?_ ?_ _; rotate_left; focus (simp; done)) | with_reducible refine below_tr ?_ (by with_reducible assumption))))⟩
set_option maxHeartbeats 2000000 in
theorem without43 (v : Value) (A B C : List (Nat × Int)) (first last : Nat) (w : World) (hS : Sl .u64 w v (A ++ B ++ C)) (hn : (A ++ B ++ C).length ≤ 1073741824)
  (hA : ∀ x ∈ A, x.1 < first) (hB : ∀ x ∈ B, first ≤ x.1 ∧ x.1 ≤ last) (hC : ∀ x ∈ C, first ≤ x.1 ∧ last < x.1) :
  Calls Tryz.prog 122 #[v, .func (.func 69) #[] #[], .int .u64 (first : Int), .int .u64 (last : Int)] w
   fun e w' => ∃ v', e = .returned v' ∧ w'.ownsRow w.heap.size 82 2 v' (A ++ C).length (rowOf .u64 (A ++ C)) ∧ Below w.heap.size w w' := by
 have K := span50 v A B C first last w hS hn hA hB hC
 have hn' : (A ++ C).length ≤ 1073741824 := by simp at hn ⊢; omega
 obtain ⟨v1, e1, s1, a1, n1, p1, rfl⟩ := hS.to23 A.length (by simp)
 obtain ⟨v2, e2, s2, a2, n2, p2, rfl⟩ := hS.from23 (A.length + B.length) (by simp)
 rw [show (A ++ B ++ C).take A.length = A by simp] at s1
 rw [show (A ++ B ++ C).drop (A.length + B.length) = C by rw [← List.length_append]; simp] at s2
 have K40 : Hid (∀ b w1, Below w.heap.size w w1 → w1.cell? ⟨b, 0, none⟩ = some (.slice a1 n1 p1) → w1.cell? ⟨b, 1, none⟩ = some (.slice a2 n2 p2) → Calls Tryz.prog 91 #[.slice (some ⟨b, 0, none⟩) 2 2] w1 fun e w' => ∃ v, e = .returned v ∧ w'.ownsRow w.heap.size 82 2 v (A ++ C).length (rowOf .u64 (A ++ C)) ∧ Below w1.heap.size w1 w') := fun b w1 hb1 c0 c1 =>
  (cat40_2 b _ _ A C w1 c0 c1 (s1.keep hb1) (s2.keep hb1) hn').mono (by rintro e w' ⟨v, rfl, ho, hB⟩; exact ⟨v, rfl, own_base ho hb1.size, hB⟩)
 have hl : A.length + B.length ≤ 1073741824 := by simp at hn; omega
 obtain ⟨av, nv, pv, rfl⟩ : ∃ a n p, v = .slice a n p := by obtain ⟨a, p, h, _⟩ := hS; exact ⟨_, _, _, h⟩
 clear hS s1 s2 hA hB hC hn hn'
 generalize A.length + B.length = t at K e2 hl
 generalize A.length = f at K e1
 go_enter Tryz.func122, Tryz.ntmps122
 go_wp2_with fail
 refine K.mono ?_
 rintro e w1 ⟨rfl, hb⟩
 clear K
 go_wp2_with fail
 go_region_held3 (fun w' => Below w.heap.size w w') ((repeat (first | with_reducible assumption | with_reducible exact Below.refl _ _ | with_reducible refine Below.drew ?_ | with_reducible refine below_alloc ?_ _ | (with_reducible refine below_set ?_ ?_ _; rotate_left; focus (simp; done)) | with_reducible refine below_tr ?_ (by with_reducible assumption)))) ((go_at_call 91; refine (K40.out _ _ (by (repeat (first | with_reducible assumption | with_reducible exact Below.refl _ _ | with_reducible refine Below.drew ?_ | with_reducible refine below_alloc ?_ _ | (with_reducible refine below_set ?_ ?_ _; rotate_left; focus (simp; done)) | with_reducible refine below_tr ?_ (by with_reducible assumption)))) (by (repeat (first | with_reducible assumption | with_reducible refine cell_drew ?_ | (with_reducible refine cell_newA _ _ _ _ _ _ ?_ rfl; (simp [*]; done)) | with_reducible refine cell_old ?_ _ | (with_reducible refine cell_far ?_ ?_ _; rotate_left; focus (simp; done)) | with_reducible refine keep_cell (by with_reducible assumption) ?_))) (by (repeat (first | with_reducible assumption | with_reducible refine cell_drew ?_ | (with_reducible refine cell_newA _ _ _ _ _ _ ?_ rfl; (simp [*]; done)) | with_reducible refine cell_old ?_ _ | (with_reducible refine cell_far ?_ ?_ _; rotate_left; focus (simp; done)) | with_reducible refine keep_cell (by with_reducible assumption) ?_)))).mono ?_; rintro e w' ⟨v3, rfl, ho, hB1⟩))
 all_goals go_wp2
 all_goals go_ret
 all_goals exact ⟨v3, rfl, ho, (by (repeat (first | with_reducible assumption | with_reducible exact Below.refl _ _ | with_reducible refine Below.drew ?_ | with_reducible refine below_alloc ?_ _ | (with_reducible refine below_set ?_ ?_ _; rotate_left; focus (simp; done)) | with_reducible refine below_tr ?_ (by with_reducible assumption))))⟩
end Go.Proofs.YtkpmkgkfpikpfaaGreat
