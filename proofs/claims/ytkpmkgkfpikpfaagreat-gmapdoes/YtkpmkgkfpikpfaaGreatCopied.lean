/- What is proved here: a cell whose bits are others is added, if it is not 0. -/
import Derived.Test.YtkpmkgkfpikpfaaGreatHeld
import Derived.Test.YtkpmkgkfpikpfaaGreatBitsOf
import Derived.Test.YtkpmkgkfpikpfaaGreatSl
import Derived.Test.YtkpmkgkfpikpfaaGreatSpan
import Derived.Test.YtkpmkgkfpikpfaaGreatSmall
namespace Go.Proofs.YtkpmkgkfpikpfaaGreat
open Go.RowKit
set_option maxRecDepth 100000
set_option linter.unusedVariables false
def nowN (old mask v : Nat) : Nat := clr old mask ||| (v &&& mask)
def cellIf (a now : Nat) : List (Nat × Int) := if now = 0 then [] else [(a, (now : Int))]
theorem nowN_lt (old mask v : Nat) (h1 : old < 18446744073709551616) (h2 : mask < 18446744073709551616) : nowN old mask v < 18446744073709551616 := by
 have a : clr old mask < 2 ^ 64 := Nat.lt_of_le_of_lt Nat.and_le_left h1
 have b : (v &&& mask) < 2 ^ 64 := Nat.lt_of_le_of_lt Nat.and_le_right h2
 exact Nat.or_lt_two_pow a b
set_option maxHeartbeats 4000000 in
theorem exchanged51 (vm vc vn : Value) (ms cs ns : List (Nat × Int)) (f t : Nat) (w : World) (hm : Sl .i64 w vm ms) (hc : Sl .u64 w vc cs) (hn : Sl .u64 w vn ns) (lm : ms.length ≤ 1073741824) (lc : (cs.take f ++ ns ++ cs.drop t).length ≤ 1073741824) (hf : f ≤ cs.length) (ht : t ≤ cs.length) (lcs : cs.length ≤ 1073741824) :
  Calls Tryz.prog 120 #[.agg #[vm, vc], .int .i64 (f : Int), .int .i64 (t : Int), vn] w fun e w' => ∃ vm' vc', e = .returned (.agg #[vm', vc']) ∧ w'.ownsRow w.heap.size 77 2 vm' ms.length (rowOf .i64 ms) ∧ w'.ownsRow w.heap.size 82 2 vc' (cs.take f ++ ns ++ cs.drop t).length (rowOf .u64 (cs.take f ++ ns ++ cs.drop t)) ∧ Below w.heap.size w w' := by
 obtain ⟨W, hW, hb, hsz, c0, c1, _, _, g0, g1⟩ := box2b w vm vc (.slice none 0 0) (.slice none 0 0) 25 25
 obtain ⟨v1, e1, s1, a1, n1, p1, rfl⟩ := hc.to23 f hf
 obtain ⟨v2, e2, s2, a2, n2, p2, rfl⟩ := hc.from23 t ht
 obtain ⟨an, nn, pn, rfl⟩ : ∃ a n p, vn = .slice a n p := by obtain ⟨a, p, h, _⟩ := hn; exact ⟨_, _, _, h⟩
 have K39 : Hid (∀ b w1, Below W.heap.size W w1 → w1.cell? ⟨b, 0, none⟩ = some vm → Calls Tryz.prog 90 #[.slice (some ⟨b, 0, none⟩) 1 1] w1 fun e w' => ∃ a n p, e = .returned (.slice a n p) ∧ w'.ownsRow (w.heap.size + 2) 77 2 (.slice a n p) ms.length (rowOf .i64 ms) ∧ Below w1.heap.size w1 w') := fun b w1 hb1 hc1 =>
  (cat39_1 b vm ms w1 hc1 (hm.keep (below_tr hb hb1)) lm).mono (by rintro e w' ⟨v, rfl, ho, hB⟩; obtain ⟨a, n, p, rfl⟩ := own_shape ho; exact ⟨a, n, p, rfl, own_base ho (by have := hb1.size; omega), hB⟩)
 have K40 : Hid (∀ b w1, Below W.heap.size W w1 → w1.cell? ⟨b, 0, none⟩ = some (.slice a1 n1 p1) → w1.cell? ⟨b, 1, none⟩ = some (.slice an nn pn) → w1.cell? ⟨b, 2, none⟩ = some (.slice a2 n2 p2) → Calls Tryz.prog 91 #[.slice (some ⟨b, 0, none⟩) 3 3] w1 fun e w' => ∃ a n p, e = .returned (.slice a n p) ∧ w'.ownsRow (w.heap.size + 2) 82 2 (.slice a n p) (cs.take f ++ ns ++ cs.drop t).length (rowOf .u64 (cs.take f ++ ns ++ cs.drop t)) ∧ Below w1.heap.size w1 w') := fun b w1 hb1 hc1 hc2 hc3 =>
  (cat40_3 b _ _ _ _ _ _ w1 hc1 hc2 hc3 (s1.keep (below_tr hb hb1)) (hn.keep (below_tr hb hb1)) (s2.keep (below_tr hb hb1)) lc).mono (by rintro e w' ⟨v, rfl, ho, hB⟩; obtain ⟨a, n, p, rfl⟩ := own_shape ho; exact ⟨a, n, p, rfl, own_base ho (by have := hb1.size; omega), hB⟩)
 obtain ⟨am, nm, pm, rfl⟩ : ∃ a n p, vm = .slice a n p := by obtain ⟨a, p, h, _⟩ := hm; exact ⟨_, _, _, h⟩
 obtain ⟨ac, nc, pc, rfl⟩ : ∃ a n p, vc = .slice a n p := by obtain ⟨a, p, h, _⟩ := hc; exact ⟨_, _, _, h⟩
 generalize cs.take f ++ ns ++ cs.drop t = zs at K40 lc ⊢
 clear hm hc hn s1 s2 lc hf ht
 go_enter Tryz.func120, Tryz.ntmps120
 go_wp2
 go_region_held3 (fun w' => Below w.heap.size w w' ∧ w'.cell? ⟨w.heap.size, 0, none⟩ = some (.slice am nm pm) ∧ w'.cell? ⟨w.heap.size, 1, none⟩ = some (.slice ac nc pc) ∧ w'.cell? ⟨w.heap.size + 1, 0, none⟩ = some (cellAt w' ⟨w.heap.size + 1, 0, none⟩) ∧ w'.cell? ⟨w.heap.size + 1, 1, none⟩ = some (cellAt w' ⟨w.heap.size + 1, 1, none⟩) ∧ w'.frozen? ⟨w.heap.size + 1, 0, none⟩ = false ∧ w'.frozen? ⟨w.heap.size + 1, 1, none⟩ = false)
  (refine ⟨?_, ?_, ?_, ?_, ?_, ?_, ?_⟩ <;> first | (with_reducible refine Free.cell ?_; (repeat (first | with_reducible assumption | with_reducible refine Free.drew ?_ | with_reducible refine Free.alloc ?_ _ | with_reducible refine Free.set ?_ _ _ | with_reducible refine Free.keep (by with_reducible assumption) ?_)); done) | (with_reducible refine Free.frozen ?_; (repeat (first | with_reducible assumption | with_reducible refine Free.drew ?_ | with_reducible refine Free.alloc ?_ _ | with_reducible refine Free.set ?_ _ _ | with_reducible refine Free.keep (by with_reducible assumption) ?_)); done) | ((repeat (first | with_reducible assumption | with_reducible exact Below.refl _ _ | with_reducible refine Below.drew ?_ | with_reducible refine below_alloc ?_ _ | (with_reducible refine below_set ?_ ?_ _; rotate_left; focus (simp; done)) | with_reducible refine below_tr ?_ (by with_reducible assumption))); done) | ((repeat (first | with_reducible assumption | with_reducible refine cell_drew ?_ | (with_reducible refine cell_newA _ _ _ _ _ _ ?_ rfl; (simp [*]; done)) | with_reducible refine cell_old ?_ _ | (with_reducible refine cell_far ?_ ?_ _; rotate_left; focus (simp; done)) | with_reducible refine keep_cell (by with_reducible assumption) ?_)); done))
  (first | (go_at_call 90; refine (K39.out _ _ (by (repeat (first | with_reducible assumption | with_reducible exact Below.refl _ _ | with_reducible refine Below.drew ?_ | with_reducible refine below_alloc ?_ _ | (with_reducible refine below_set ?_ ?_ _; rotate_left; focus (simp; done)) | with_reducible refine below_tr ?_ (by with_reducible assumption)))) (by (repeat (first | with_reducible assumption | with_reducible refine cell_drew ?_ | (with_reducible refine cell_newA _ _ _ _ _ _ ?_ rfl; (simp [*]; done)) | with_reducible refine cell_old ?_ _ | (with_reducible refine cell_far ?_ ?_ _; rotate_left; focus (simp; done)) | with_reducible refine keep_cell (by with_reducible assumption) ?_)))).mono ?_; rintro e w' ⟨b1, k1, q1, rfl, ho1, hB1⟩) | (go_at_call 91; refine (K40.out _ _ (by (repeat (first | with_reducible assumption | with_reducible exact Below.refl _ _ | with_reducible refine Below.drew ?_ | with_reducible refine below_alloc ?_ _ | (with_reducible refine below_set ?_ ?_ _; rotate_left; focus (simp; done)) | with_reducible refine below_tr ?_ (by with_reducible assumption)))) (by (repeat (first | with_reducible assumption | with_reducible refine cell_drew ?_ | (with_reducible refine cell_newA _ _ _ _ _ _ ?_ rfl; (simp [*]; done)) | with_reducible refine cell_old ?_ _ | (with_reducible refine cell_far ?_ ?_ _; rotate_left; focus (simp; done)) | with_reducible refine keep_cell (by with_reducible assumption) ?_))) (by (repeat (first | with_reducible assumption | with_reducible refine cell_drew ?_ | (with_reducible refine cell_newA _ _ _ _ _ _ ?_ rfl; (simp [*]; done)) | with_reducible refine cell_old ?_ _ | (with_reducible refine cell_far ?_ ?_ _; rotate_left; focus (simp; done)) | with_reducible refine keep_cell (by with_reducible assumption) ?_))) (by (repeat (first | with_reducible assumption | with_reducible refine cell_drew ?_ | (with_reducible refine cell_newA _ _ _ _ _ _ ?_ rfl; (simp [*]; done)) | with_reducible refine cell_old ?_ _ | (with_reducible refine cell_far ?_ ?_ _; rotate_left; focus (simp; done)) | with_reducible refine keep_cell (by with_reducible assumption) ?_)))).mono ?_; rintro e w' ⟨b2, k2, q2, rfl, ho2, hB2⟩))
 all_goals (go_wp2; (try simp only [Exit.inBlock, Exit.then]))
 all_goals have r := res2 w' (w.heap.size + 1) (.slice b1 k1 q1) (.slice b2 k2 q2) (by (repeat (first | with_reducible assumption | with_reducible refine Free.drew ?_ | with_reducible refine Free.alloc ?_ _ | with_reducible refine Free.set ?_ _ _ | with_reducible refine Free.keep (by with_reducible assumption) ?_))) (by (repeat (first | with_reducible assumption | with_reducible refine Free.drew ?_ | with_reducible refine Free.alloc ?_ _ | with_reducible refine Free.set ?_ _ _ | with_reducible refine Free.keep (by with_reducible assumption) ?_)))
 all_goals obtain ⟨r0, r1⟩ := r
 all_goals refine bodyPost_ret (v := .agg #[.slice b1 k1 q1, .slice b2 k2 q2]) ?_ rfl ⟨_, _, rfl, own_base (base := w.heap.size + 2) (by (repeat (first | with_reducible assumption | (with_reducible refine ownsRow_setCell_below ?_ ?_ _; rotate_left; focus (simp; done)) | with_reducible refine own_keep ?_ (by with_reducible assumption) | with_reducible refine own_alloc ?_ _ | with_reducible refine own_drew ?_))) (by omega), own_base (base := w.heap.size + 2) (by (repeat (first | with_reducible assumption | (with_reducible refine ownsRow_setCell_below ?_ ?_ _; rotate_left; focus (simp; done)) | with_reducible refine own_keep ?_ (by with_reducible assumption) | with_reducible refine own_alloc ?_ _ | with_reducible refine own_drew ?_))) (by omega), (by (repeat (first | with_reducible assumption | with_reducible exact Below.refl _ _ | with_reducible refine Below.drew ?_ | with_reducible refine below_alloc ?_ _ | (with_reducible refine below_set ?_ ?_ _; rotate_left; focus (simp; done)) | with_reducible refine below_tr ?_ (by with_reducible assumption))))⟩
 all_goals (rw [results_cell1 rfl]; simp [go_sem, r0, r1])
set_option maxHeartbeats 2000000 in
theorem copied37 (vm vc : Value) (ms cs : List (Nat × Int)) (w : World) (hm : Sl .i64 w vm ms) (hc : Sl .u64 w vc cs) (lm : ms.length ≤ 1073741824) (lc : cs.length ≤ 1073741824) :
  Calls Tryz.prog 76 #[.agg #[vm, vc]] w fun e w' => ∃ vm' vc', e = .returned (.agg #[vm', vc']) ∧ w'.ownsRow w.heap.size 77 2 vm' ms.length (rowOf .i64 ms) ∧ w'.ownsRow w.heap.size 82 2 vc' cs.length (rowOf .u64 cs) ∧ Below w.heap.size w w' := by
 obtain ⟨W, hW, hb, hsz, c0, c1, _, _, g0, g1⟩ := box2b w vm vc (.slice none 0 0) (.slice none 0 0) 25 25
 have K39 : Hid (∀ b w1, Below W.heap.size W w1 → w1.cell? ⟨b, 0, none⟩ = some vm → Calls Tryz.prog 90 #[.slice (some ⟨b, 0, none⟩) 1 1] w1 fun e w' => ∃ a n p, e = .returned (.slice a n p) ∧ w'.ownsRow (w.heap.size + 2) 77 2 (.slice a n p) ms.length (rowOf .i64 ms) ∧ Below w1.heap.size w1 w') := fun b w1 hb1 hc1 =>
  (cat39_1 b vm ms w1 hc1 (hm.keep (below_tr hb hb1)) lm).mono (by rintro e w' ⟨v, rfl, ho, hB⟩; obtain ⟨a, n, p, rfl⟩ := own_shape ho; exact ⟨a, n, p, rfl, own_base ho (by have := hb1.size; omega), hB⟩)
 have K40 : Hid (∀ b w1, Below W.heap.size W w1 → w1.cell? ⟨b, 0, none⟩ = some vc → Calls Tryz.prog 91 #[.slice (some ⟨b, 0, none⟩) 1 1] w1 fun e w' => ∃ a n p, e = .returned (.slice a n p) ∧ w'.ownsRow (w.heap.size + 2) 82 2 (.slice a n p) cs.length (rowOf .u64 cs) ∧ Below w1.heap.size w1 w') := fun b w1 hb1 hc1 =>
  (cat40_1 b vc cs w1 hc1 (hc.keep (below_tr hb hb1)) lc).mono (by rintro e w' ⟨v, rfl, ho, hB⟩; obtain ⟨a, n, p, rfl⟩ := own_shape ho; exact ⟨a, n, p, rfl, own_base ho (by have := hb1.size; omega), hB⟩)
 obtain ⟨am, nm, pm, rfl⟩ : ∃ a n p, vm = .slice a n p := by obtain ⟨a, p, h, _⟩ := hm; exact ⟨_, _, _, h⟩
 obtain ⟨ac, nc, pc, rfl⟩ : ∃ a n p, vc = .slice a n p := by obtain ⟨a, p, h, _⟩ := hc; exact ⟨_, _, _, h⟩
 clear hm hc
 go_enter Tryz.func76, Tryz.ntmps76
 go_wp2
 go_region_held3 (fun w' => Below w.heap.size w w' ∧ w'.cell? ⟨w.heap.size, 0, none⟩ = some (.slice am nm pm) ∧ w'.cell? ⟨w.heap.size, 1, none⟩ = some (.slice ac nc pc) ∧ w'.cell? ⟨w.heap.size + 1, 0, none⟩ = some (cellAt w' ⟨w.heap.size + 1, 0, none⟩) ∧ w'.cell? ⟨w.heap.size + 1, 1, none⟩ = some (cellAt w' ⟨w.heap.size + 1, 1, none⟩) ∧ w'.frozen? ⟨w.heap.size + 1, 0, none⟩ = false ∧ w'.frozen? ⟨w.heap.size + 1, 1, none⟩ = false)
  (refine ⟨?_, ?_, ?_, ?_, ?_, ?_, ?_⟩ <;> first | (with_reducible refine Free.cell ?_; (repeat (first | with_reducible assumption | with_reducible refine Free.drew ?_ | with_reducible refine Free.alloc ?_ _ | with_reducible refine Free.set ?_ _ _ | with_reducible refine Free.keep (by with_reducible assumption) ?_)); done) | (with_reducible refine Free.frozen ?_; (repeat (first | with_reducible assumption | with_reducible refine Free.drew ?_ | with_reducible refine Free.alloc ?_ _ | with_reducible refine Free.set ?_ _ _ | with_reducible refine Free.keep (by with_reducible assumption) ?_)); done) | ((repeat (first | with_reducible assumption | with_reducible exact Below.refl _ _ | with_reducible refine Below.drew ?_ | with_reducible refine below_alloc ?_ _ | (with_reducible refine below_set ?_ ?_ _; rotate_left; focus (simp; done)) | with_reducible refine below_tr ?_ (by with_reducible assumption))); done) | ((repeat (first | with_reducible assumption | with_reducible refine cell_drew ?_ | (with_reducible refine cell_newA _ _ _ _ _ _ ?_ rfl; (simp [*]; done)) | with_reducible refine cell_old ?_ _ | (with_reducible refine cell_far ?_ ?_ _; rotate_left; focus (simp; done)) | with_reducible refine keep_cell (by with_reducible assumption) ?_)); done))
  (first | (go_at_call 90; refine (K39.out _ _ (by (repeat (first | with_reducible assumption | with_reducible exact Below.refl _ _ | with_reducible refine Below.drew ?_ | with_reducible refine below_alloc ?_ _ | (with_reducible refine below_set ?_ ?_ _; rotate_left; focus (simp; done)) | with_reducible refine below_tr ?_ (by with_reducible assumption)))) (by (repeat (first | with_reducible assumption | with_reducible refine cell_drew ?_ | (with_reducible refine cell_newA _ _ _ _ _ _ ?_ rfl; (simp [*]; done)) | with_reducible refine cell_old ?_ _ | (with_reducible refine cell_far ?_ ?_ _; rotate_left; focus (simp; done)) | with_reducible refine keep_cell (by with_reducible assumption) ?_)))).mono ?_; rintro e w' ⟨a1, n1, p1, rfl, ho1, hB1⟩) | (go_at_call 91; refine (K40.out _ _ (by (repeat (first | with_reducible assumption | with_reducible exact Below.refl _ _ | with_reducible refine Below.drew ?_ | with_reducible refine below_alloc ?_ _ | (with_reducible refine below_set ?_ ?_ _; rotate_left; focus (simp; done)) | with_reducible refine below_tr ?_ (by with_reducible assumption)))) (by (repeat (first | with_reducible assumption | with_reducible refine cell_drew ?_ | (with_reducible refine cell_newA _ _ _ _ _ _ ?_ rfl; (simp [*]; done)) | with_reducible refine cell_old ?_ _ | (with_reducible refine cell_far ?_ ?_ _; rotate_left; focus (simp; done)) | with_reducible refine keep_cell (by with_reducible assumption) ?_)))).mono ?_; rintro e w' ⟨a2, n2, p2, rfl, ho2, hB2⟩))
 all_goals (go_wp2; (try simp only [Exit.inBlock, Exit.then]))
 all_goals have r := res2 w' (w.heap.size + 1) (.slice a1 n1 p1) (.slice a2 n2 p2) (by (repeat (first | with_reducible assumption | with_reducible refine Free.drew ?_ | with_reducible refine Free.alloc ?_ _ | with_reducible refine Free.set ?_ _ _ | with_reducible refine Free.keep (by with_reducible assumption) ?_))) (by (repeat (first | with_reducible assumption | with_reducible refine Free.drew ?_ | with_reducible refine Free.alloc ?_ _ | with_reducible refine Free.set ?_ _ _ | with_reducible refine Free.keep (by with_reducible assumption) ?_)))
 all_goals obtain ⟨r0, r1⟩ := r
 all_goals refine bodyPost_ret (v := .agg #[.slice a1 n1 p1, .slice a2 n2 p2]) ?_ rfl ⟨_, _, rfl, own_base (base := w.heap.size + 2) (by (repeat (first | with_reducible assumption | (with_reducible refine ownsRow_setCell_below ?_ ?_ _; rotate_left; focus (simp; done)) | with_reducible refine own_keep ?_ (by with_reducible assumption) | with_reducible refine own_alloc ?_ _ | with_reducible refine own_drew ?_))) (by omega), own_base (base := w.heap.size + 2) (by (repeat (first | with_reducible assumption | (with_reducible refine ownsRow_setCell_below ?_ ?_ _; rotate_left; focus (simp; done)) | with_reducible refine own_keep ?_ (by with_reducible assumption) | with_reducible refine own_alloc ?_ _ | with_reducible refine own_drew ?_))) (by omega), (by (repeat (first | with_reducible assumption | with_reducible exact Below.refl _ _ | with_reducible refine Below.drew ?_ | with_reducible refine below_alloc ?_ _ | (with_reducible refine below_set ?_ ?_ _; rotate_left; focus (simp; done)) | with_reducible refine below_tr ?_ (by with_reducible assumption))))⟩
 all_goals (rw [results_cell1 rfl]; simp [go_sem, r0, r1])
def OwnH (B : Nat) (w : World) (vm vc : Value) (ms cs : List (Nat × Int)) : Prop := w.ownsRow B 77 2 vm ms.length (rowOf .i64 ms) ∧ w.ownsRow B 82 2 vc cs.length (rowOf .u64 cs)
theorem OwnH.m {B : Nat} {w : World} {vm vc : Value} {ms cs : List (Nat × Int)} (h : OwnH B w vm vc ms cs) : Sl .i64 w vm ms := own_sl h.1
theorem OwnH.c {B : Nat} {w : World} {vm vc : Value} {ms cs : List (Nat × Int)} (h : OwnH B w vm vc ms cs) : Sl .u64 w vc cs := own_sl h.2
theorem OwnH.shape {B : Nat} {w : World} {vm vc : Value} {ms cs : List (Nat × Int)} (h : OwnH B w vm vc ms cs) : ∃ a n p a' n' p', vm = .slice a n p ∧ vc = .slice a' n' p' := by
 obtain ⟨a, n, p, rfl⟩ := own_shape h.1
 obtain ⟨a', n', p', rfl⟩ := own_shape h.2
 exact ⟨_, _, _, _, _, _, rfl, rfl⟩
theorem OwnH.keep {B : Nat} {w w' : World} {vm vc : Value} {ms cs : List (Nat × Int)} (h : OwnH B w vm vc ms cs) (hb : Below w.heap.size w w') : OwnH B w' vm vc ms cs := ⟨own_keep h.1 hb, own_keep h.2 hb⟩
theorem OwnH.base {B B' : Nat} {w : World} {vm vc : Value} {ms cs : List (Nat × Int)} (h : OwnH B w vm vc ms cs) (hb : B' ≤ B) : OwnH B' w vm vc ms cs := ⟨own_base h.1 hb, own_base h.2 hb⟩
theorem res2_own {w : World} {n B : Nat} {x y v : Value} {m : Nat} {xs : List Value} {base e : Nat} (h : w.ownsRow base e 2 v m xs) (hn : n < base) (hB : B ≤ base) : ((w.setCell ⟨n, 0, none⟩ x).setCell ⟨n, 1, none⟩ y).ownsRow B e 2 v m xs :=
 own_base (ownsRow_setCell_below (ownsRow_setCell_below h (by simpa using hn) _) (by simpa using hn) _) hB
theorem parts_take (xs : List (Nat × Int)) (h : Srt xs) (a b : Nat) (hab : a ≤ b) : xs.take (lo xs a).length = lo xs a := by
 have e := congrArg (List.take (lo xs a).length) (parts xs h a b hab)
 rw [List.append_assoc, List.take_left] at e
 exact e
theorem parts_drop (xs : List (Nat × Int)) (h : Srt xs) (a b : Nat) (hab : a ≤ b) : xs.drop ((lo xs a).length + (mid xs a b).length) = hi xs b := by
 have e := congrArg (List.drop ((lo xs a).length + (mid xs a b).length)) (parts xs h a b hab)
 rw [← List.length_append, List.drop_left] at e
 rw [← List.length_append]
 exact e
theorem parts_len (xs : List (Nat × Int)) (h : Srt xs) (a b : Nat) (hab : a ≤ b) : xs.length = (lo xs a).length + (mid xs a b).length + (hi xs b).length := by
 have e := congrArg List.length (parts xs h a b hab)
 rw [List.length_append, List.length_append] at e
 exact e
theorem results_cells {fn : Func} {p q : Tmp} {ty t2 : TypeId} (h : fn.results = #[.cell p ty, .cell q t2]) (tmps : Array Value) (P : Program) (w : World) :
  (results fn tmps).run P w = ((asAddr (tmps.getD p undef)).run P w).andThen fun a w₁ => ((loadVar ty a).run P w₁).andThen fun v w₂ => ((asAddr (tmps.getD q undef)).run P w₂).andThen fun b w₃ => ((loadVar t2 b).run P w₃).andThen fun u w₄ => .ok (.tuple #[v, u]) w₄ := by
 simp only [results, h]
 simp [Sem.run_bind, Result.andThen]
theorem shl64 (v s : Nat) (hs : s ≤ 64) : IntKind.u64.wrap ((v : Int) * 2 ^ min s 64) = ((v * 2 ^ s % 18446744073709551616 : Nat) : Int) := by
 rw [Nat.min_eq_left hs, IntKind.wrap_u64, Int.natCast_emod, Int.natCast_mul, Int.natCast_pow]; rfl
theorem cellIf_len (a b : Nat) : (cellIf a b).length ≤ 1 := by unfold cellIf; split <;> simp
theorem cut_mid23 (ao : Option Addr) (n cap f t : Nat) (hft : f ≤ t) (ht : t ≤ n) (hn : n ≤ cap) (hcap : cap ≤ 9223372036854775807) (h0 : ao = none → cap = 0) (w : World) :
  (Instr.slice 23 (.slice ao n cap) (some (.int .i64 (f : Int))) (some (.int .i64 (t : Int))) none).run Tryz.prog w = .ok (.slice (if cap = f then ao else ao.map (fun a => a.add (f * 2))) (t - f) (cap - f)) w := by
 cases ao with
 | none =>
  obtain rfl := h0 rfl
  obtain rfl : n = 0 := by omega
  obtain rfl : t = 0 := by omega
  obtain rfl : f = 0 := by omega
  simp [Instr.slice, go_sem]
 | some a =>
  simp [Instr.slice, go_sem]
  rw [if_pos (by omega), if_pos hft]
theorem Sl.mid23 {k : IntKind} {w : World} {v : Value} {xs : List (Nat × Int)} (h : Sl k w v xs) (f t : Nat) (hft : f ≤ t) (ht : t ≤ xs.length) :
  ∃ v', (∀ w', (Instr.slice 23 v (some (.int .i64 (f : Int))) (some (.int .i64 (t : Int))) none).run Tryz.prog w' = .ok v' w') ∧ Sl k w v' ((xs.take t).drop f) := by
 obtain ⟨ao, cap, rfl, h1, h2, h3, h4⟩ := h
 refine ⟨_, fun w' => cut_mid23 ao _ cap f t hft ht h1 h2 h3 w', ⟨(if cap = f then ao else ao.map (fun a => a.add (f * 2))), cap - f, by simp [Nat.min_eq_left ht], by simp; omega, by omega, ?_, fun i hi => ?_⟩⟩
 ·intro h
  split at h
  ·omega
  ·simp at h; have := h3 h; omega
 ·simp at hi
  obtain ⟨b, o, e, c0, c1⟩ := h4 (f + i) (by omega)
  refine ⟨b, o + f * 2, ?_, ?_, ?_⟩
  ·rw [if_neg (by omega), e]; simp [Addr.add]
  ·rw [show o + f * 2 + i * 2 = o + (f + i) * 2 by omega]; simpa using c0
  ·rw [show o + f * 2 + i * 2 = o + (f + i) * 2 by omega]; simpa using c1
theorem parts_mid (xs : List (Nat × Int)) (h : Srt xs) (a b : Nat) (hab : a ≤ b) : (xs.take ((lo xs a).length + (mid xs a b).length)).drop (lo xs a).length = mid xs a b := by
 have e := congrArg (List.take ((lo xs a).length + (mid xs a b).length)) (parts xs h a b hab)
 rw [← List.length_append, List.take_left] at e
 rw [← List.length_append, e, List.drop_left]
def clearC (a last : Nat) (x : Nat × Int) : List (Nat × Int) := cellIf x.1 (nowN x.2.toNat (maskOf (max a x.1 - x.1) (min last (x.1 + 7) - x.1)) 0)
def clears (a last : Nat) (xs : List (Nat × Int)) : List (Nat × Int) := xs.flatMap (clearC a last)
theorem clears_snoc (a last : Nat) (xs : List (Nat × Int)) (m : Nat) (h : m < xs.length) : clears a last (xs.take (m + 1)) = clears a last (xs.take m) ++ clearC a last xs[m] := by
 rw [clears, List.take_add_one, List.getElem?_eq_getElem h, List.flatMap_append]
 simp [clears]
theorem clearC_len (a last : Nat) (x : Nat × Int) : (clearC a last x).length ≤ 1 := cellIf_len _ _
theorem clears_len (a last : Nat) : ∀ (xs : List (Nat × Int)), (clears a last xs).length ≤ xs.length
 | [] => by simp [clears]
 | x :: xs => by
  have h1 := clears_len a last xs
  have h2 := clearC_len a last x
  have e : clears a last (x :: xs) = clearC a last x ++ clears a last xs := by simp [clears]
  rw [e, List.length_append, List.length_cons]; omega
def lastOf (a n : Nat) : Nat := a + min (n - 1) (18446744073709551615 - a)
def clearN (cs : List (Nat × Int)) (a n : Nat) : List (Nat × Int) := if n = 0 then cs else lo cs (cellOf a) ++ clears a (lastOf a n) (mid cs (cellOf a) (lastOf a n)) ++ hi cs (lastOf a n)
set_option maxHeartbeats 1000000 in
theorem changed49k (cv : Value) (xs : List (Nat × Int)) (a old mask v B : Nat) (w : World) (hown : w.ownsRow B 82 2 cv xs.length (rowOf .u64 xs)) (hB : B ≤ w.heap.size) (hl : xs.length ≤ 1073741823)
  (h1 : old < 18446744073709551616) (h2 : mask < 18446744073709551616) (h3 : v < 18446744073709551616) :
  Calls Tryz.prog 118 #[cv, .int .u64 (a : Int), .int .u64 (old : Int), .int .u64 (mask : Int), .int .u64 (v : Int)] w
   fun e w' => ∃ cv', e = .returned cv' ∧ w'.ownsRow B 82 2 cv' (xs ++ cellIf a (nowN old mask v)).length (rowOf .u64 (xs ++ cellIf a (nowN old mask v))) ∧ Below B w w' ∧ w.heap.size ≤ w'.heap.size ∧ ∀ (p : Addr) u, some p.block ≠ cv.ownBlock → w.cell? p = some u → w'.cell? p = some u := by
 have e1 : bits .andNot .u64 (old : Int) (mask : Int) = ((clr old mask : Nat) : Int) := andNot64 old mask h1 h2
 have e2 : bits .and .u64 (v : Int) (mask : Int) = ((v &&& mask : Nat) : Int) := and64 v mask h3 h2
 have e3 : bits .or .u64 ((clr old mask : Nat) : Int) ((v &&& mask : Nat) : Int) = ((nowN old mask v : Nat) : Int) := or64 _ _ (Nat.lt_of_le_of_lt Nat.and_le_left h1) (Nat.lt_of_le_of_lt Nat.and_le_right h2)
 generalize nowN old mask v = now at e3 ⊢
 generalize clr old mask = c at e1 e3
 generalize (v &&& mask) = d at e2 e3
 obtain ⟨i0, hi, hz0, hz1, hz2⟩ := info_parts info58
 by_cases h0 : now = 0
 ·subst h0
  go_enter Tryz.func118, Tryz.ntmps118
  go_wp2
  go_ret
  exact ⟨_, rfl, by simpa [cellIf] using hown, Below.refl _ _, Nat.le_refl _, fun _ _ _ h => h⟩
 ·have hne : ((now : Int) != 0) = true := by simp; omega
  have HI : Hid (Tryz.prog.info? 82 = some i0 ∧ i0.zero = some (.agg #[.int .u64 0, .int .u64 0]) ∧ i0.size = 2 ∧ i0.bytes = 16) := ⟨hi, hz0, hz1, hz2⟩
  have HO : Hid (w.ownsRow B 82 2 cv xs.length (rowOf .u64 xs)) := hown
  have H0 : Hid (¬ now = 0) := h0
  clear hi hz0 hz1 hz2 hown h0
  go_enter Tryz.func118, Tryz.ntmps118
  go_wp2_with (at_builtin; refine wpList_append_own _ rfl (.tmp 21) (.tmp 25) 23 rfl B 82 i0 _ 2 16 Tryz.underlying23 HI.out.1 HI.out.2.1 HI.out.2.2.1 HI.out.2.2.2 rfl (by decide) _ _ _ rfl (own_alloc HO.out _) ⟨w.heap.size, 0, none⟩ 1 1 [.int .u64 (a : Int), .int .u64 (now : Int)] rfl rfl ?c1 ?c2 (by unfold maxLen; omega) (by omega) (by simp; omega) ?_)
  case c1 =>
   intro j u hj
   match j, hj with
   | 0, hj => simp at hj; subst hj; simp [Addr.add]
   | 1, hj => simp at hj; subst hj; simp [Addr.add]
  case c2 => intro u hu; simp at hu; rcases hu with rfl | rfl <;> rfl
  intro cv' w1 hown' hgrow _
  have R1 : w1.ownsRow B 82 2 cv' (xs ++ cellIf a now).length (rowOf .u64 (xs ++ cellIf a now)) := by
   have e : cellIf a now = [(a, (now : Int))] := by rw [cellIf, if_neg H0.out]
   rw [e, rowOf_append]
   simpa [rowOf] using hown'
  have R2 : Below B w w1 := (((Below.refl B w).alloc hB _).grown hgrow (by simp; omega) (own_ge HO.out))
  have R3 := R2.size
  have R4 : Hid (∀ (p : Addr) u, some p.block ≠ cv.ownBlock → w.cell? p = some u → w1.cell? p = some u) := fun p u hp hu => hgrow.cell (cell_old hu _) hp
  clear hown' hgrow
  go_wp2
  go_ret
  exact ⟨_, rfl, R1, R2, R3, R4.out⟩
set_option maxHeartbeats 4000000 in
theorem clear24 (vm vc : Value) (ms cs : List (Nat × Int)) (a n : Nat) (w : World) (hm : Sl .i64 w vm ms) (hc : Sl .u64 w vc cs) (sc : Srt cs) (lm : ms.length ≤ 1073741824) (lc : cs.length ≤ 536870912) (hw : Words cs) (h8 : ∀ x ∈ cs, x.1 % 8 = 0) (hrc : ∀ x ∈ cs, x.1 < 18446744073709551616)
  (ha : a < 18446744073709551616) (hn : n < 18446744073709551616) :
  Calls Tryz.prog 101 #[.agg #[vm, vc], .int .u64 (a : Int), .int .u64 (n : Int)] w fun e w' => ∃ vm' vc', e = .returned (.agg #[vm', vc']) ∧ OwnH w.heap.size w' vm' vc' ms (clearN cs a n) ∧ Below w.heap.size w w' := by
 obtain ⟨W, hW, hb, hsz, c0, c1, _, _, g0, g1⟩ := box2b w vm vc (.slice none 0 0) (.slice none 0 0) 25 25
 have hWsz : W.heap.size = w.heap.size + 2 := by omega
 by_cases hn0 : n = 0
 ·have K37 : Hid (Calls Tryz.prog 76 #[.agg #[vm, vc]] W fun e w' => ∃ b1 k1 q1 b2 k2 q2, e = .returned (.agg #[.slice b1 k1 q1, .slice b2 k2 q2]) ∧ w'.ownsRow (w.heap.size + 2) 77 2 (.slice b1 k1 q1) ms.length (rowOf .i64 ms) ∧ w'.ownsRow (w.heap.size + 2) 82 2 (.slice b2 k2 q2) cs.length (rowOf .u64 cs) ∧ Below W.heap.size W w') :=
   (copied37 vm vc ms cs W (hm.keep hb) (hc.keep hb) lm (by omega)).mono (by
    rintro e w' ⟨v1, v2, rfl, ho, ho2, hB⟩
    obtain ⟨b1, k1, q1, rfl⟩ := own_shape ho
    obtain ⟨b2, k2, q2, rfl⟩ := own_shape ho2
    exact ⟨b1, k1, q1, b2, k2, q2, rfl, own_base ho (by omega), own_base ho2 (by omega), hB⟩)
  subst hn0
  rw [clearN, if_pos rfl]
  obtain ⟨am, nm, pm, rfl⟩ : ∃ a n p, vm = .slice a n p := by obtain ⟨a, p, h, _⟩ := hm; exact ⟨_, _, _, h⟩
  obtain ⟨ac, nc, pc, rfl⟩ : ∃ a n p, vc = .slice a n p := by obtain ⟨a, p, h, _⟩ := hc; exact ⟨_, _, _, h⟩
  clear hm hc sc hw h8 hrc
  go_enter Tryz.func101, Tryz.ntmps101
  go_wp2_with fail
  refine K37.out.mono ?_
  rintro e w9 ⟨b1, k1, q1, b2, k2, q2, rfl, ho, ho2, hb9⟩
  have G0 : Free w9 ⟨w.heap.size + 1, 0, none⟩ := (by (repeat (first | with_reducible assumption | with_reducible refine Free.drew ?_ | with_reducible refine Free.alloc ?_ _ | with_reducible refine Free.set ?_ _ _ | with_reducible refine Free.keep (by with_reducible assumption) ?_)))
  have G1 : Free w9 ⟨w.heap.size + 1, 1, none⟩ := (by (repeat (first | with_reducible assumption | with_reducible refine Free.drew ?_ | with_reducible refine Free.alloc ?_ _ | with_reducible refine Free.set ?_ _ _ | with_reducible refine Free.keep (by with_reducible assumption) ?_)))
  have q0 := G0.cell
  have q1' := G1.cell
  have q2' := G0.frozen
  have q3 := G1.frozen
  have SM : Hid (OwnH w.heap.size ((w9.setCell ⟨w.heap.size + 1, 0, none⟩ (.slice b1 k1 q1)).setCell ⟨w.heap.size + 1, 1, none⟩ (.slice b2 k2 q2)) (.slice b1 k1 q1) (.slice b2 k2 q2) ms cs) := ⟨res2_own ho (by omega) (by omega), res2_own ho2 (by omega) (by omega)⟩
  clear ho ho2
  go_wp2
  (try simp only [Exit.inBlock, Exit.then])
  obtain ⟨r0, r1⟩ := res2 w9 (w.heap.size + 1) (.slice b1 k1 q1) (.slice b2 k2 q2) G0 G1
  refine bodyPost_ret (v := .agg #[.slice b1 k1 q1, .slice b2 k2 q2]) ?_ rfl ⟨_, _, rfl, SM.out, (by (repeat (first | with_reducible assumption | with_reducible exact Below.refl _ _ | with_reducible refine Below.drew ?_ | with_reducible refine below_alloc ?_ _ | (with_reducible refine below_set ?_ ?_ _; rotate_left; focus (first | (simp; done) | (simp; omega))) | with_reducible refine below_tr ?_ (by with_reducible assumption))))⟩
  rw [results_cell1 rfl]; simp [go_sem, r0, r1]
 obtain ⟨last, hl⟩ : ∃ last, last = lastOf a n := ⟨_, rfl⟩
 rw [clearN, if_neg hn0, ← hl]
 obtain ⟨low, hlow⟩ : ∃ c, c = cellOf a := ⟨_, rfl⟩
 rw [← hlow]
 have hlast : a ≤ last ∧ last < 18446744073709551616 := by rw [hl, lastOf]; omega
 have fl := cellOf_facts a
 rw [← hlow] at fl
 have K45 : Hid (∀ w', Calls Tryz.prog 117 #[.int .u64 (a : Int)] w' fun e w'' => e = .returned (.int .u64 (low : Int)) ∧ w'' = w') := fun w' => by
  have h := cellOf45 a ha w'
  rw [show (a - a % 8 : Nat) = low by rw [hlow]; rfl] at h
  exact h
 obtain ⟨f, hfdef⟩ : ∃ f, f = (lo cs low).length := ⟨_, rfl⟩
 obtain ⟨t, htdef⟩ : ∃ t, t = (lo cs low).length + (mid cs low last).length := ⟨_, rfl⟩
 have hlen := parts_len cs sc low last (by omega)
 have K50 : Hid (∀ w', Below W.heap.size W w' → Calls Tryz.prog 116 #[vc, .func (.func 69) #[] #[], .int .u64 (low : Int), .int .u64 (last : Int)] w'
   fun e w'' => e = .returned (.tuple #[.int .i64 (f : Int), .int .i64 (t : Int)]) ∧ Below w'.heap.size w' w'') := fun w' hb' => by
  have h := span50s vc cs low last w' (hc.keep (below_tr hb hb')) sc (by omega) (by omega)
  rw [← htdef, ← hfdef] at h
  exact h
 have u1 : cs.take f = lo cs low := by rw [hfdef]; exact parts_take cs sc low last (by omega)
 have u2 : cs.drop t = hi cs last := by rw [htdef]; exact parts_drop cs sc low last (by omega)
 have u3 : (cs.take t).drop f = mid cs low last := by rw [htdef, hfdef]; exact parts_mid cs sc low last (by omega)
 obtain ⟨v1, t1, s1⟩ := hc.mid23 f t (by omega) (by omega)
 rw [u3] at s1
 have s1 := s1.keep hb
 have K51 : Hid (∀ vn ns w1, Below W.heap.size W w1 → Sl .u64 w1 vn ns → ns.length ≤ 536870912 → Calls Tryz.prog 120 #[.agg #[vm, vc], .int .i64 (f : Int), .int .i64 (t : Int), vn] w1 fun e w' => ∃ b1 k1 q1 b2 k2 q2, e = .returned (.agg #[.slice b1 k1 q1, .slice b2 k2 q2]) ∧ w'.ownsRow (w.heap.size + 2) 77 2 (.slice b1 k1 q1) ms.length (rowOf .i64 ms) ∧
   w'.ownsRow (w.heap.size + 2) 82 2 (.slice b2 k2 q2) (lo cs low ++ ns ++ hi cs last).length (rowOf .u64 (lo cs low ++ ns ++ hi cs last)) ∧ Below w1.heap.size w1 w') := fun vn ns w1 hb1 hsn hns => by
  have h := exchanged51 vm vc vn ms cs ns f t w1 (hm.keep (below_tr hb hb1)) (hc.keep (below_tr hb hb1)) hsn lm (by rw [u1, u2]; simp; omega) (by omega) (by omega) (by omega)
  rw [u1, u2] at h
  refine h.mono ?_
  rintro e w' ⟨v1, v2, rfl, ho, ho2, hB⟩
  obtain ⟨b1, k1, q1, rfl⟩ := own_shape ho
  obtain ⟨b2, k2, q2, rfl⟩ := own_shape ho2
  have := hb1.size
  exact ⟨b1, k1, q1, b2, k2, q2, rfl, own_base ho (by omega), own_base ho2 (by omega), hB⟩
 obtain ⟨M, hM⟩ : ∃ M, M = mid cs low last := ⟨_, rfl⟩
 rw [← hM] at s1
 have hMlen : M.length ≤ 536870912 := by rw [hM]; omega
 have HMM : Hid (∀ x ∈ M, low ≤ x.1 ∧ x.1 ≤ last ∧ x.1 % 8 = 0 ∧ 0 ≤ x.2 ∧ x.2 < 18446744073709551616 ∧ x.1 < 18446744073709551616) := by
  intro x hx
  rw [hM] at hx
  have h := (List.mem_filter.1 hx)
  have h2 : low ≤ x.1 ∧ x.1 ≤ last := by simpa using h.2
  exact ⟨h2.1, h2.2, h8 x h.1, (hw x h.1).1, (hw x h.1).2, hrc x h.1⟩
 rw [← hM]
 obtain ⟨am, nm, pm, rfl⟩ : ∃ a n p, vm = .slice a n p := by obtain ⟨a, p, h, _⟩ := hm; exact ⟨_, _, _, h⟩
 obtain ⟨ac, nc, pc, rfl⟩ : ∃ a n p, vc = .slice a n p := by obtain ⟨a, p, h, _⟩ := hc; exact ⟨_, _, _, h⟩
 obtain ⟨ao, cap, rfl, z1, z2, z3, z4⟩ := s1
 have HX : Hid (∀ i (h : i < M.length), ∃ b o, ao = some ⟨b, o, none⟩ ∧ W.cell? ⟨b, o + i * 2, none⟩ = some (.int .u64 (M[i].1 : Int)) ∧ W.cell? ⟨b, o + i * 2 + 1, none⟩ = some (.int .u64 M[i].2)) := z4
 have x1 : IntKind.u64.wrap ((n : Int) - 1) = ((n - 1 : Nat) : Int) := by rw [IntKind.wrap_u64]; omega
 have x2 : IntKind.u64.wrap (18446744073709551615 - (a : Int)) = ((18446744073709551615 - a : Nat) : Int) := by rw [IntKind.wrap_u64]; omega
 obtain ⟨n1, hn1⟩ : ∃ x, x = n - 1 := ⟨_, rfl⟩
 obtain ⟨a1, ha1⟩ : ∃ x, x = 18446744073709551615 - a := ⟨_, rfl⟩
 rw [← hn1] at x1
 rw [← ha1] at x2
 have HA : Hid (low ≤ a ∧ a ≤ low + 7 ∧ a ≤ last ∧ last < 18446744073709551616 ∧ a < 18446744073709551616) := ⟨fl.2.1, fl.2.2, hlast.1, hlast.2, ha⟩
 have xl : IntKind.u64.wrap ((a : Int) + min (n1 : Int) (a1 : Int)) = (last : Int) := by rw [IntKind.wrap_u64, hl, lastOf]; omega
 have hn0' : ((n : Int) == 0) = false := by simp; omega
 clear hm hc sc hw h8 hrc z4 u1 u2 u3 hlen hfdef htdef hM hl hlow fl hlast hn ha lm lc hn1 ha1
 rw [show lo cs low ++ clears a last M ++ hi cs last = lo cs low ++ clears a last (M.take M.length) ++ hi cs last by rw [List.take_length]]
 generalize lo cs low = L0 at K51 ⊢
 generalize hi cs last = H0 at K51 ⊢
 obtain ⟨zs, hzs⟩ : ∃ zs, zs = L0 ++ clears a last (M.take M.length) ++ H0 := ⟨_, rfl⟩
 rw [← hzs]
 have HZ : Hid (zs = L0 ++ clears a last (M.take M.length) ++ H0) := hzs
 clear hzs
 go_enter Tryz.func101, Tryz.ntmps101
 go_wp2
 go_region_held3 (fun w' => Below W.heap.size W w' ∧ w'.cell? ⟨w.heap.size, 0, none⟩ = some (.slice am nm pm) ∧ w'.cell? ⟨w.heap.size, 1, none⟩ = some (.slice ac nc pc))
  (refine ⟨?_, ?_, ?_⟩ <;> first | (with_reducible refine Free.cell ?_; (repeat (first | with_reducible assumption | with_reducible refine Free.drew ?_ | with_reducible refine Free.alloc ?_ _ | with_reducible refine Free.set ?_ _ _ | with_reducible refine Free.keep (by with_reducible assumption) ?_)); done) | (with_reducible refine Free.frozen ?_; (repeat (first | with_reducible assumption | with_reducible refine Free.drew ?_ | with_reducible refine Free.alloc ?_ _ | with_reducible refine Free.set ?_ _ _ | with_reducible refine Free.keep (by with_reducible assumption) ?_)); done) | ((repeat (first | with_reducible assumption | with_reducible exact Below.refl _ _ | with_reducible refine Below.drew ?_ | with_reducible refine below_alloc ?_ _ | (with_reducible refine below_set ?_ ?_ _; rotate_left; focus (first | (simp; done) | (simp; omega))) | with_reducible refine below_tr ?_ (by with_reducible assumption))); done) | ((repeat (first | with_reducible assumption | with_reducible refine cell_drew ?_ | (with_reducible refine cell_newA _ _ _ _ _ _ ?_ rfl; (simp [*]; done)) | with_reducible refine cell_old ?_ _ | (with_reducible refine cell_far ?_ ?_ _; rotate_left; focus (first | (simp; done) | (simp; omega))) | with_reducible refine keep_cell (by with_reducible assumption) ?_)); done))
  (first | (go_at_call 117; refine (K45.out _).mono ?_; rintro e w' ⟨rfl, hww⟩; subst hww) | (go_at_call 116; refine (K50.out _ (by (repeat (first | with_reducible assumption | with_reducible exact Below.refl _ _ | with_reducible refine Below.drew ?_ | with_reducible refine below_alloc ?_ _ | (with_reducible refine below_set ?_ ?_ _; rotate_left; focus (first | (simp; done) | (simp; omega))) | with_reducible refine below_tr ?_ (by with_reducible assumption))))).mono ?_; rintro e w' ⟨rfl, hB2⟩))
 have hbW : Below W.heap.size W w' := (by (repeat (first | with_reducible assumption | with_reducible exact Below.refl _ _ | with_reducible refine Below.drew ?_ | with_reducible refine below_alloc ?_ _ | (with_reducible refine below_set ?_ ?_ _; rotate_left; focus (first | (simp; done) | (simp; omega))) | with_reducible refine below_tr ?_ (by with_reducible assumption))))
 clear hB2
 have e0 := keep_cell hbW c0
 have e1 := keep_cell hbW c1
 go_wp2
 go_loopw [10, 39] (fun s i wr => ∃ m : Nat, m ≤ M.length ∧ i = .int .i64 (m : Int) ∧ wr.ownsRow W.heap.size 82 2 s (clears a last (M.take m)).length (rowOf .u64 (clears a last (M.take m))) ∧ Below W.heap.size W wr) (fun _ i _ => M.length - (intOf i).toNat)
 case atStart => exact ⟨0, Nat.zero_le _, rfl, World.ownsRow_nil _ _ _ _, hbW⟩
 case round =>
  clear hbW e0 e1
  obtain ⟨m, hmle, rfl, how, hbr⟩ := hrel
  obtain ⟨sa, sn, sp, rfl⟩ := own_shape how
  have hlenm : (clears a last (M.take m)).length ≤ 536870912 := by
   have h1 := clears_len a last (M.take m)
   have h2 : (M.take m).length ≤ M.length := by simp; omega
   omega
  by_cases hml : m < M.length
  ·obtain ⟨b, o, rfl, d0, d1⟩ := HX.out m hml
   have d0 := keep_cell hbr d0
   have d1 := keep_cell hbr d1
   obtain ⟨q1, q2, q3, q4, q5, q6⟩ := HMM.out M[m] (List.getElem_mem hml)
   have HSN := clears_snoc a last M m hml
   obtain ⟨p, hp⟩ : ∃ p, p = M[m].1 := ⟨_, rfl⟩
   obtain ⟨r, hr⟩ : ∃ r : Nat, M[m].2 = (r : Int) := ⟨M[m].2.toNat, by omega⟩
   obtain ⟨Mk, hMk⟩ : ∃ x, x = maskOf (max a p - p) (min last (p + 7) - p) := ⟨_, rfl⟩
   rw [clearC, hr, ← hp, Int.toNat_natCast, ← hMk] at HSN
   rw [← hp] at d0 q1 q2 q3 q6
   rw [hr] at d1 q4 q5
   have HAA := HA.out
   have K47 : Hid (∀ w', Calls Tryz.prog 119 #[.int .u64 (p : Int), .int .u64 (a : Int), .int .u64 (last : Int)] w' fun e w'' => e = .returned (.int .u64 (Mk : Int)) ∧ w'' = w') := fun w' => by
    rw [hMk]; exact bitsOf47 p a last w' q3 q6 (by omega) (by omega) (by omega) (by omega)
   have hMkl : Mk < 18446744073709551616 := by rw [hMk]; exact mask_lt _ _
   obtain ⟨W3, hW3, hb3, hsz3, m0, m1, _, _⟩ := box2 wr (.int .u64 (p : Int)) (.int .u64 (r : Int)) 82
   have hbW3 := below_tr hbr hb3
   have how3 := own_keep how hb3
   have hnb : ∀ g, (Value.slice sa sn sp).ownBlock = some g → g < wr.heap.size := fun g hg => (how.lt g hg).2
   have hWle : W.heap.size ≤ wr.heap.size := hbr.size
   have K49 : Hid (∀ w1, w1.ownsRow W.heap.size 82 2 (.slice sa sn sp) (clears a last (M.take m)).length (rowOf .u64 (clears a last (M.take m))) → Below W.heap.size W w1 → w1.cell? ⟨wr.heap.size, 0, none⟩ = some (.int .u64 (p : Int)) → w1.cell? ⟨wr.heap.size, 1, none⟩ = some (.int .u64 (r : Int)) →
     Calls Tryz.prog 118 #[.slice sa sn sp, .int .u64 (p : Int), .int .u64 (r : Int), .int .u64 (Mk : Int), .int .u64 0] w1 fun e w' => ∃ a' n' p', e = .returned (.slice a' n' p') ∧ w'.ownsRow W.heap.size 82 2 (.slice a' n' p') (clears a last (M.take (m + 1))).length (rowOf .u64 (clears a last (M.take (m + 1)))) ∧ Below W.heap.size W w' ∧ w'.cell? ⟨wr.heap.size, 0, none⟩ = some (.int .u64 (p : Int)) ∧ w'.cell? ⟨wr.heap.size, 1, none⟩ = some (.int .u64 (r : Int))) := fun w1 ho1 hb1 y0 y1 => by
    have h := changed49k (.slice sa sn sp) (clears a last (M.take m)) p r Mk 0 W.heap.size w1 ho1 hb1.size (by omega) (by omega) hMkl (by omega)
    refine h.mono ?_
    rintro e w' ⟨cv', rfl, ho', hB', _, hcell⟩
    obtain ⟨a', n', p', rfl⟩ := own_shape ho'
    rw [← HSN] at ho'
    exact ⟨a', n', p', rfl, ho', hb1.trans hB', hcell _ _ (fun e => absurd (hnb _ e.symm) (Nat.lt_irrefl _)) y0, hcell _ _ (fun e => absurd (hnb _ e.symm) (Nat.lt_irrefl _)) y1⟩
   clear HSN q1 q2 q3 q4 q5 q6 hr hp hMk HAA hMkl how hnb hb3 hbr
   go_wp2
   go_region_held3 (fun w' => Below W.heap.size W w' ∧ w'.cell? ⟨wr.heap.size, 0, none⟩ = some (.int .u64 (p : Int)) ∧ w'.cell? ⟨wr.heap.size, 1, none⟩ = some (.int .u64 (r : Int)))
    (refine ⟨?_, ?_, ?_⟩ <;> first | (with_reducible refine Free.cell ?_; (repeat (first | with_reducible assumption | with_reducible refine Free.drew ?_ | with_reducible refine Free.alloc ?_ _ | with_reducible refine Free.set ?_ _ _ | with_reducible refine Free.keep (by with_reducible assumption) ?_)); done) | (with_reducible refine Free.frozen ?_; (repeat (first | with_reducible assumption | with_reducible refine Free.drew ?_ | with_reducible refine Free.alloc ?_ _ | with_reducible refine Free.set ?_ _ _ | with_reducible refine Free.keep (by with_reducible assumption) ?_)); done) | ((repeat (first | with_reducible assumption | with_reducible exact Below.refl _ _ | with_reducible refine Below.drew ?_ | with_reducible refine below_alloc ?_ _ | (with_reducible refine below_set ?_ ?_ _; rotate_left; focus (first | (simp; done) | (simp; omega))) | with_reducible refine below_tr ?_ (by with_reducible assumption))); done) | ((repeat (first | with_reducible assumption | with_reducible refine cell_drew ?_ | (with_reducible refine cell_newA _ _ _ _ _ _ ?_ rfl; (simp [*]; done)) | with_reducible refine cell_old ?_ _ | (with_reducible refine cell_far ?_ ?_ _; rotate_left; focus (first | (simp; done) | (simp; omega))) | with_reducible refine keep_cell (by with_reducible assumption) ?_)); done))
    (first | (go_at_call 119; refine (K47.out _).mono ?_; rintro e w' ⟨rfl, hww⟩; subst hww) | (go_at_call 118; refine (K49.out _ (by (repeat (first | with_reducible assumption | (with_reducible refine ownsRow_setCell_below ?_ ?_ _; rotate_left; focus (first | (simp; done) | (simp; omega))) | with_reducible refine own_keep ?_ (by with_reducible assumption) | with_reducible refine own_alloc ?_ _ | with_reducible refine own_drew ?_))) (by (repeat (first | with_reducible assumption | with_reducible exact Below.refl _ _ | with_reducible refine Below.drew ?_ | with_reducible refine below_alloc ?_ _ | (with_reducible refine below_set ?_ ?_ _; rotate_left; focus (first | (simp; done) | (simp; omega))) | with_reducible refine below_tr ?_ (by with_reducible assumption)))) (by (repeat (first | with_reducible assumption | with_reducible refine cell_drew ?_ | (with_reducible refine cell_newA _ _ _ _ _ _ ?_ rfl; (simp [*]; done)) | with_reducible refine cell_old ?_ _ | (with_reducible refine cell_far ?_ ?_ _; rotate_left; focus (first | (simp; done) | (simp; omega))) | with_reducible refine keep_cell (by with_reducible assumption) ?_))) (by (repeat (first | with_reducible assumption | with_reducible refine cell_drew ?_ | (with_reducible refine cell_newA _ _ _ _ _ _ ?_ rfl; (simp [*]; done)) | with_reducible refine cell_old ?_ _ | (with_reducible refine cell_far ?_ ?_ _; rotate_left; focus (first | (simp; done) | (simp; omega))) | with_reducible refine keep_cell (by with_reducible assumption) ?_)))).mono ?_; rintro e w' ⟨a', n', p', rfl, ho', hB', y0, y1⟩))
   all_goals go_wp2
   go_roundw
   case rel => exact ⟨m + 1, by omega, by go_num, ho', hB'⟩
   case measure => simp [intOf]; omega
  ·obtain rfl : m = M.length := by omega
   have e0 := keep_cell hbr c0
   have e1 := keep_cell hbr c1
   have f0 := g0.keep hbr
   have f1 := g1.keep hbr
   have hbw := below_tr hb hbr
   go_wp2_with fail
   refine (K51.out _ _ wr hbr (own_sl how) hlenm).mono ?_
   rintro e w9 ⟨b1, k1, q1, b2, k2, q2, rfl, ho, ho2, hb9⟩
   have G0 : Free w9 ⟨w.heap.size + 1, 0, none⟩ := f0.keep hb9
   have G1 : Free w9 ⟨w.heap.size + 1, 1, none⟩ := f1.keep hb9
   have q0 := G0.cell
   have q1' := G1.cell
   have q2' := G0.frozen
   have q3 := G1.frozen
   rw [← HZ.out] at ho2
   have SM : Hid (OwnH w.heap.size ((w9.setCell ⟨w.heap.size + 1, 0, none⟩ (.slice b1 k1 q1)).setCell ⟨w.heap.size + 1, 1, none⟩ (.slice b2 k2 q2)) (.slice b1 k1 q1) (.slice b2 k2 q2) ms zs) := ⟨res2_own ho (by omega) (by omega), res2_own ho2 (by omega) (by omega)⟩
   clear ho ho2
   go_wp2
   (try simp only [Exit.inBlock, Exit.then])
   obtain ⟨r0, r1⟩ := res2 w9 (w.heap.size + 1) (.slice b1 k1 q1) (.slice b2 k2 q2) G0 G1
   refine bodyPost_ret (v := .agg #[.slice b1 k1 q1, .slice b2 k2 q2]) ?_ rfl ⟨_, _, rfl, SM.out, (by (repeat (first | with_reducible assumption | with_reducible exact Below.refl _ _ | with_reducible refine Below.drew ?_ | with_reducible refine below_alloc ?_ _ | (with_reducible refine below_set ?_ ?_ _; rotate_left; focus (first | (simp; done) | (simp; omega))) | with_reducible refine below_tr ?_ (by with_reducible assumption))))⟩
   rw [results_cell1 rfl]; simp [go_sem, r0, r1]
end Go.Proofs.YtkpmkgkfpikpfaaGreat
