/- What is proved here: a cell whose bits are others is added, if it is not 0. -/
import Derived.Test.YtdhjmghfiodifaaHeld
import Derived.Test.YtdhjmghfiodifaaBitsOf
import Derived.Test.YtdhjmghfiodifaaSl
import Derived.Test.YtdhjmghfiodifaaSpan
import Derived.Test.YtdhjmghfiodifaaSmall
namespace Go.Proofs.Ytdhjmghfiodifaa
open Go.RowKit
set_option maxRecDepth 100000
set_option linter.unusedVariables false
/-- A word of which some bits are another's. -/
def nowN (old mask v : Nat) : Nat := clr old mask ||| (v &&& mask)
/-- The cell, if it is not 0. -/
def cellIf (a now : Nat) : List (Nat × Int) := if now = 0 then [] else [(a, (now : Int))]
theorem nowN_lt (old mask v : Nat) (h1 : old < 18446744073709551616) (h2 : mask < 18446744073709551616) : nowN old mask v < 18446744073709551616 := by
  have a : clr old mask < 2 ^ 64 := Nat.lt_of_le_of_lt Nat.and_le_left h1
  have b : (v &&& mask) < 2 ^ 64 := Nat.lt_of_le_of_lt Nat.and_le_right h2
  exact Nat.or_lt_two_pow a b
set_option maxHeartbeats 1000000 in
theorem changed49 (cv : Value) (xs : List (Nat × Int)) (a old mask v B : Nat) (w : World) (hown : w.ownsRow B 85 2 cv xs.length (rowOf .u64 xs)) (hB : B ≤ w.heap.size) (hl : xs.length ≤ 1073741823)
    (h1 : old < 18446744073709551616) (h2 : mask < 18446744073709551616) (h3 : v < 18446744073709551616) :
    Calls Try.prog 109 #[cv, .int .u64 (a : Int), .int .u64 (old : Int), .int .u64 (mask : Int), .int .u64 (v : Int)] w
      fun e w' => ∃ cv', e = .returned cv' ∧ w'.ownsRow B 85 2 cv' (xs ++ cellIf a (nowN old mask v)).length (rowOf .u64 (xs ++ cellIf a (nowN old mask v))) ∧ Below B w w' ∧ w.heap.size ≤ w'.heap.size := by
  have e1 : bits .andNot .u64 (old : Int) (mask : Int) = ((clr old mask : Nat) : Int) := andNot64 old mask h1 h2
  have e2 : bits .and .u64 (v : Int) (mask : Int) = ((v &&& mask : Nat) : Int) := and64 v mask h3 h2
  have e3 : bits .or .u64 ((clr old mask : Nat) : Int) ((v &&& mask : Nat) : Int) = ((nowN old mask v : Nat) : Int) := or64 _ _ (Nat.lt_of_le_of_lt Nat.and_le_left h1) (Nat.lt_of_le_of_lt Nat.and_le_right h2)
  generalize nowN old mask v = now at e3 ⊢
  generalize clr old mask = c at e1 e3
  generalize (v &&& mask) = d at e2 e3
  obtain ⟨i0, hi, hz0, hz1, hz2⟩ := info_parts info58
  by_cases h0 : now = 0
  · subst h0
    go_enter Try.func109, Try.ntmps109
    go_wp2
    go_ret
    exact ⟨_, rfl, by simpa [cellIf] using hown, Below.refl _ _, Nat.le_refl _⟩
  · have hne : ((now : Int) != 0) = true := by simp; omega
    have HI : Hid (Try.prog.info? 85 = some i0 ∧ i0.zero = some (.agg #[.int .u64 0, .int .u64 0]) ∧ i0.size = 2 ∧ i0.bytes = 16) := ⟨hi, hz0, hz1, hz2⟩
    have HO : Hid (w.ownsRow B 85 2 cv xs.length (rowOf .u64 xs)) := hown
    have H0 : Hid (¬ now = 0) := h0
    clear hi hz0 hz1 hz2 hown h0
    go_enter Try.func109, Try.ntmps109
    go_wp2_with (at_builtin; refine wpList_append_own _ rfl (.tmp 21) (.tmp 25) 23 rfl B 85 i0 _ 2 16 Try.underlying23 HI.out.1 HI.out.2.1 HI.out.2.2.1 HI.out.2.2.2 rfl (by decide) _ _ _ rfl (own_alloc HO.out _) ⟨w.heap.size, 0, none⟩ 1 1 [.int .u64 (a : Int), .int .u64 (now : Int)] rfl rfl ?c1 ?c2 (by unfold maxLen; omega) (by omega) (by simp; omega) ?_)
    case c1 =>
      intro j u hj
      match j, hj with
      | 0, hj => simp at hj; subst hj; simp [Addr.add]
      | 1, hj => simp at hj; subst hj; simp [Addr.add]
    case c2 => intro u hu; simp at hu; rcases hu with rfl | rfl <;> rfl
    intro cv' w1 hown' hgrow _
    have R1 : w1.ownsRow B 85 2 cv' (xs ++ cellIf a now).length (rowOf .u64 (xs ++ cellIf a now)) := by
      have e : cellIf a now = [(a, (now : Int))] := by rw [cellIf, if_neg H0.out]
      rw [e, rowOf_append]
      simpa [rowOf] using hown'
    have R2 : Below B w w1 := (((Below.refl B w).alloc hB _).grown hgrow (by simp; omega) (own_ge HO.out))
    have R3 := R2.size
    clear hown' hgrow
    go_wp2
    go_ret
    exact ⟨_, rfl, R1, R2, R3⟩
end Go.Proofs.Ytdhjmghfiodifaa
namespace Go.Proofs.Ytdhjmghfiodifaa
open Go.RowKit
set_option maxRecDepth 100000
set_option linter.unusedVariables false
set_option maxHeartbeats 4000000 in
theorem exchanged51 (vm vc vn : Value) (ms cs ns : List (Nat × Int)) (f t : Nat) (w : World) (hm : Sl .i64 w vm ms) (hc : Sl .u64 w vc cs) (hn : Sl .u64 w vn ns) (lm : ms.length ≤ 1073741824) (lc : (cs.take f ++ ns ++ cs.drop t).length ≤ 1073741824) (hf : f ≤ cs.length) (ht : t ≤ cs.length) (lcs : cs.length ≤ 1073741824) :
    Calls Try.prog 111 #[.agg #[vm, vc], .int .i64 (f : Int), .int .i64 (t : Int), vn] w fun e w' => ∃ vm' vc', e = .returned (.agg #[vm', vc']) ∧ w'.ownsRow w.heap.size 80 2 vm' ms.length (rowOf .i64 ms) ∧ w'.ownsRow w.heap.size 85 2 vc' (cs.take f ++ ns ++ cs.drop t).length (rowOf .u64 (cs.take f ++ ns ++ cs.drop t)) ∧ Below w.heap.size w w' := by
  obtain ⟨W, hW, hb, hsz, c0, c1, _, _, g0, g1⟩ := box2b w vm vc (.slice none 0 0) (.slice none 0 0) 25 25
  obtain ⟨v1, e1, s1, a1, n1, p1, rfl⟩ := hc.to23 f hf
  obtain ⟨v2, e2, s2, a2, n2, p2, rfl⟩ := hc.from23 t ht
  obtain ⟨an, nn, pn, rfl⟩ : ∃ a n p, vn = .slice a n p := by obtain ⟨a, p, h, _⟩ := hn; exact ⟨_, _, _, h⟩
  have K39 : Hid (∀ b w1, Below W.heap.size W w1 → w1.cell? ⟨b, 0, none⟩ = some vm → Calls Try.prog 93 #[.slice (some ⟨b, 0, none⟩) 1 1] w1 fun e w' => ∃ a n p, e = .returned (.slice a n p) ∧ w'.ownsRow (w.heap.size + 2) 80 2 (.slice a n p) ms.length (rowOf .i64 ms) ∧ Below w1.heap.size w1 w') := fun b w1 hb1 hc1 =>
    (cat39_1 b vm ms w1 hc1 (hm.keep (below_tr hb hb1)) lm).mono (by rintro e w' ⟨v, rfl, ho, hB⟩; obtain ⟨a, n, p, rfl⟩ := own_shape ho; exact ⟨a, n, p, rfl, own_base ho (by have := hb1.size; omega), hB⟩)
  have K40 : Hid (∀ b w1, Below W.heap.size W w1 → w1.cell? ⟨b, 0, none⟩ = some (.slice a1 n1 p1) → w1.cell? ⟨b, 1, none⟩ = some (.slice an nn pn) → w1.cell? ⟨b, 2, none⟩ = some (.slice a2 n2 p2) → Calls Try.prog 90 #[.slice (some ⟨b, 0, none⟩) 3 3] w1 fun e w' => ∃ a n p, e = .returned (.slice a n p) ∧ w'.ownsRow (w.heap.size + 2) 85 2 (.slice a n p) (cs.take f ++ ns ++ cs.drop t).length (rowOf .u64 (cs.take f ++ ns ++ cs.drop t)) ∧ Below w1.heap.size w1 w') := fun b w1 hb1 hc1 hc2 hc3 =>
    (cat40_3 b _ _ _ _ _ _ w1 hc1 hc2 hc3 (s1.keep (below_tr hb hb1)) (hn.keep (below_tr hb hb1)) (s2.keep (below_tr hb hb1)) lc).mono (by rintro e w' ⟨v, rfl, ho, hB⟩; obtain ⟨a, n, p, rfl⟩ := own_shape ho; exact ⟨a, n, p, rfl, own_base ho (by have := hb1.size; omega), hB⟩)
  obtain ⟨am, nm, pm, rfl⟩ : ∃ a n p, vm = .slice a n p := by obtain ⟨a, p, h, _⟩ := hm; exact ⟨_, _, _, h⟩
  obtain ⟨ac, nc, pc, rfl⟩ : ∃ a n p, vc = .slice a n p := by obtain ⟨a, p, h, _⟩ := hc; exact ⟨_, _, _, h⟩
  generalize cs.take f ++ ns ++ cs.drop t = zs at K40 lc ⊢
  clear hm hc hn s1 s2 lc hf ht
  go_enter Try.func111, Try.ntmps111
  go_wp2
  go_region_held3 (fun w' => Below w.heap.size w w' ∧ w'.cell? ⟨w.heap.size, 0, none⟩ = some (.slice am nm pm) ∧ w'.cell? ⟨w.heap.size, 1, none⟩ = some (.slice ac nc pc) ∧ w'.cell? ⟨w.heap.size + 1, 0, none⟩ = some (cellAt w' ⟨w.heap.size + 1, 0, none⟩) ∧ w'.cell? ⟨w.heap.size + 1, 1, none⟩ = some (cellAt w' ⟨w.heap.size + 1, 1, none⟩) ∧ w'.frozen? ⟨w.heap.size + 1, 0, none⟩ = false ∧ w'.frozen? ⟨w.heap.size + 1, 1, none⟩ = false)
    (refine ⟨?_, ?_, ?_, ?_, ?_, ?_, ?_⟩ <;> first | (with_reducible refine Free.cell ?_; (repeat (first | with_reducible assumption | with_reducible refine Free.drew ?_ | with_reducible refine Free.alloc ?_ _ | with_reducible refine Free.set ?_ _ _ | with_reducible refine Free.keep (by with_reducible assumption) ?_)); done) | (with_reducible refine Free.frozen ?_; (repeat (first | with_reducible assumption | with_reducible refine Free.drew ?_ | with_reducible refine Free.alloc ?_ _ | with_reducible refine Free.set ?_ _ _ | with_reducible refine Free.keep (by with_reducible assumption) ?_)); done) | ((repeat (first | with_reducible assumption | with_reducible exact Below.refl _ _ | with_reducible refine Below.drew ?_ | with_reducible refine below_alloc ?_ _ | (with_reducible refine below_set ?_ ?_ _; rotate_left; focus (simp; done)) | with_reducible refine below_tr ?_ (by with_reducible assumption))); done) | ((repeat (first | with_reducible assumption | with_reducible refine cell_drew ?_ | (with_reducible refine cell_newA _ _ _ _ _ _ ?_ rfl; (simp [*]; done)) | with_reducible refine cell_old ?_ _ | (with_reducible refine cell_far ?_ ?_ _; rotate_left; focus (simp; done)) | with_reducible refine keep_cell (by with_reducible assumption) ?_)); done))
    (first | (go_at_call 93; refine (K39.out _ _ (by (repeat (first | with_reducible assumption | with_reducible exact Below.refl _ _ | with_reducible refine Below.drew ?_ | with_reducible refine below_alloc ?_ _ | (with_reducible refine below_set ?_ ?_ _; rotate_left; focus (simp; done)) | with_reducible refine below_tr ?_ (by with_reducible assumption)))) (by (repeat (first | with_reducible assumption | with_reducible refine cell_drew ?_ | (with_reducible refine cell_newA _ _ _ _ _ _ ?_ rfl; (simp [*]; done)) | with_reducible refine cell_old ?_ _ | (with_reducible refine cell_far ?_ ?_ _; rotate_left; focus (simp; done)) | with_reducible refine keep_cell (by with_reducible assumption) ?_)))).mono ?_; rintro e w' ⟨b1, k1, q1, rfl, ho1, hB1⟩) | (go_at_call 90; refine (K40.out _ _ (by (repeat (first | with_reducible assumption | with_reducible exact Below.refl _ _ | with_reducible refine Below.drew ?_ | with_reducible refine below_alloc ?_ _ | (with_reducible refine below_set ?_ ?_ _; rotate_left; focus (simp; done)) | with_reducible refine below_tr ?_ (by with_reducible assumption)))) (by (repeat (first | with_reducible assumption | with_reducible refine cell_drew ?_ | (with_reducible refine cell_newA _ _ _ _ _ _ ?_ rfl; (simp [*]; done)) | with_reducible refine cell_old ?_ _ | (with_reducible refine cell_far ?_ ?_ _; rotate_left; focus (simp; done)) | with_reducible refine keep_cell (by with_reducible assumption) ?_))) (by (repeat (first | with_reducible assumption | with_reducible refine cell_drew ?_ | (with_reducible refine cell_newA _ _ _ _ _ _ ?_ rfl; (simp [*]; done)) | with_reducible refine cell_old ?_ _ | (with_reducible refine cell_far ?_ ?_ _; rotate_left; focus (simp; done)) | with_reducible refine keep_cell (by with_reducible assumption) ?_))) (by (repeat (first | with_reducible assumption | with_reducible refine cell_drew ?_ | (with_reducible refine cell_newA _ _ _ _ _ _ ?_ rfl; (simp [*]; done)) | with_reducible refine cell_old ?_ _ | (with_reducible refine cell_far ?_ ?_ _; rotate_left; focus (simp; done)) | with_reducible refine keep_cell (by with_reducible assumption) ?_)))).mono ?_; rintro e w' ⟨b2, k2, q2, rfl, ho2, hB2⟩))
  all_goals (go_wp2; (try simp only [Exit.inBlock, Exit.then]))
  all_goals have r := res2 w' (w.heap.size + 1) (.slice b1 k1 q1) (.slice b2 k2 q2) (by (repeat (first | with_reducible assumption | with_reducible refine Free.drew ?_ | with_reducible refine Free.alloc ?_ _ | with_reducible refine Free.set ?_ _ _ | with_reducible refine Free.keep (by with_reducible assumption) ?_))) (by (repeat (first | with_reducible assumption | with_reducible refine Free.drew ?_ | with_reducible refine Free.alloc ?_ _ | with_reducible refine Free.set ?_ _ _ | with_reducible refine Free.keep (by with_reducible assumption) ?_)))
  all_goals obtain ⟨r0, r1⟩ := r
  all_goals refine bodyPost_ret (v := .agg #[.slice b1 k1 q1, .slice b2 k2 q2]) ?_ rfl ⟨_, _, rfl, own_base (base := w.heap.size + 2) (by (repeat (first | with_reducible assumption | (with_reducible refine ownsRow_setCell_below ?_ ?_ _; rotate_left; focus (simp; done)) | with_reducible refine own_keep ?_ (by with_reducible assumption) | with_reducible refine own_alloc ?_ _ | with_reducible refine own_drew ?_))) (by omega), own_base (base := w.heap.size + 2) (by (repeat (first | with_reducible assumption | (with_reducible refine ownsRow_setCell_below ?_ ?_ _; rotate_left; focus (simp; done)) | with_reducible refine own_keep ?_ (by with_reducible assumption) | with_reducible refine own_alloc ?_ _ | with_reducible refine own_drew ?_))) (by omega), (by (repeat (first | with_reducible assumption | with_reducible exact Below.refl _ _ | with_reducible refine Below.drew ?_ | with_reducible refine below_alloc ?_ _ | (with_reducible refine below_set ?_ ?_ _; rotate_left; focus (simp; done)) | with_reducible refine below_tr ?_ (by with_reducible assumption))))⟩
  all_goals (rw [results_cell1 rfl]; simp [go_sem, r0, r1])
end Go.Proofs.Ytdhjmghfiodifaa
namespace Go.Proofs.Ytdhjmghfiodifaa
open Go.RowKit
set_option maxRecDepth 100000
set_option linter.unusedVariables false
set_option maxHeartbeats 2000000 in
theorem copied37 (vm vc : Value) (ms cs : List (Nat × Int)) (w : World) (hm : Sl .i64 w vm ms) (hc : Sl .u64 w vc cs) (lm : ms.length ≤ 1073741824) (lc : cs.length ≤ 1073741824) :
    Calls Try.prog 70 #[.agg #[vm, vc]] w fun e w' => ∃ vm' vc', e = .returned (.agg #[vm', vc']) ∧ w'.ownsRow w.heap.size 80 2 vm' ms.length (rowOf .i64 ms) ∧ w'.ownsRow w.heap.size 85 2 vc' cs.length (rowOf .u64 cs) ∧ Below w.heap.size w w' := by
  obtain ⟨W, hW, hb, hsz, c0, c1, _, _, g0, g1⟩ := box2b w vm vc (.slice none 0 0) (.slice none 0 0) 25 25
  have K39 : Hid (∀ b w1, Below W.heap.size W w1 → w1.cell? ⟨b, 0, none⟩ = some vm → Calls Try.prog 93 #[.slice (some ⟨b, 0, none⟩) 1 1] w1 fun e w' => ∃ a n p, e = .returned (.slice a n p) ∧ w'.ownsRow (w.heap.size + 2) 80 2 (.slice a n p) ms.length (rowOf .i64 ms) ∧ Below w1.heap.size w1 w') := fun b w1 hb1 hc1 =>
    (cat39_1 b vm ms w1 hc1 (hm.keep (below_tr hb hb1)) lm).mono (by rintro e w' ⟨v, rfl, ho, hB⟩; obtain ⟨a, n, p, rfl⟩ := own_shape ho; exact ⟨a, n, p, rfl, own_base ho (by have := hb1.size; omega), hB⟩)
  have K40 : Hid (∀ b w1, Below W.heap.size W w1 → w1.cell? ⟨b, 0, none⟩ = some vc → Calls Try.prog 90 #[.slice (some ⟨b, 0, none⟩) 1 1] w1 fun e w' => ∃ a n p, e = .returned (.slice a n p) ∧ w'.ownsRow (w.heap.size + 2) 85 2 (.slice a n p) cs.length (rowOf .u64 cs) ∧ Below w1.heap.size w1 w') := fun b w1 hb1 hc1 =>
    (cat40_1 b vc cs w1 hc1 (hc.keep (below_tr hb hb1)) lc).mono (by rintro e w' ⟨v, rfl, ho, hB⟩; obtain ⟨a, n, p, rfl⟩ := own_shape ho; exact ⟨a, n, p, rfl, own_base ho (by have := hb1.size; omega), hB⟩)
  obtain ⟨am, nm, pm, rfl⟩ : ∃ a n p, vm = .slice a n p := by obtain ⟨a, p, h, _⟩ := hm; exact ⟨_, _, _, h⟩
  obtain ⟨ac, nc, pc, rfl⟩ : ∃ a n p, vc = .slice a n p := by obtain ⟨a, p, h, _⟩ := hc; exact ⟨_, _, _, h⟩
  clear hm hc
  go_enter Try.func70, Try.ntmps70
  go_wp2
  go_region_held3 (fun w' => Below w.heap.size w w' ∧ w'.cell? ⟨w.heap.size, 0, none⟩ = some (.slice am nm pm) ∧ w'.cell? ⟨w.heap.size, 1, none⟩ = some (.slice ac nc pc) ∧ w'.cell? ⟨w.heap.size + 1, 0, none⟩ = some (cellAt w' ⟨w.heap.size + 1, 0, none⟩) ∧ w'.cell? ⟨w.heap.size + 1, 1, none⟩ = some (cellAt w' ⟨w.heap.size + 1, 1, none⟩) ∧ w'.frozen? ⟨w.heap.size + 1, 0, none⟩ = false ∧ w'.frozen? ⟨w.heap.size + 1, 1, none⟩ = false)
    (refine ⟨?_, ?_, ?_, ?_, ?_, ?_, ?_⟩ <;> first | (with_reducible refine Free.cell ?_; (repeat (first | with_reducible assumption | with_reducible refine Free.drew ?_ | with_reducible refine Free.alloc ?_ _ | with_reducible refine Free.set ?_ _ _ | with_reducible refine Free.keep (by with_reducible assumption) ?_)); done) | (with_reducible refine Free.frozen ?_; (repeat (first | with_reducible assumption | with_reducible refine Free.drew ?_ | with_reducible refine Free.alloc ?_ _ | with_reducible refine Free.set ?_ _ _ | with_reducible refine Free.keep (by with_reducible assumption) ?_)); done) | ((repeat (first | with_reducible assumption | with_reducible exact Below.refl _ _ | with_reducible refine Below.drew ?_ | with_reducible refine below_alloc ?_ _ | (with_reducible refine below_set ?_ ?_ _; rotate_left; focus (simp; done)) | with_reducible refine below_tr ?_ (by with_reducible assumption))); done) | ((repeat (first | with_reducible assumption | with_reducible refine cell_drew ?_ | (with_reducible refine cell_newA _ _ _ _ _ _ ?_ rfl; (simp [*]; done)) | with_reducible refine cell_old ?_ _ | (with_reducible refine cell_far ?_ ?_ _; rotate_left; focus (simp; done)) | with_reducible refine keep_cell (by with_reducible assumption) ?_)); done))
    (first | (go_at_call 93; refine (K39.out _ _ (by (repeat (first | with_reducible assumption | with_reducible exact Below.refl _ _ | with_reducible refine Below.drew ?_ | with_reducible refine below_alloc ?_ _ | (with_reducible refine below_set ?_ ?_ _; rotate_left; focus (simp; done)) | with_reducible refine below_tr ?_ (by with_reducible assumption)))) (by (repeat (first | with_reducible assumption | with_reducible refine cell_drew ?_ | (with_reducible refine cell_newA _ _ _ _ _ _ ?_ rfl; (simp [*]; done)) | with_reducible refine cell_old ?_ _ | (with_reducible refine cell_far ?_ ?_ _; rotate_left; focus (simp; done)) | with_reducible refine keep_cell (by with_reducible assumption) ?_)))).mono ?_; rintro e w' ⟨a1, n1, p1, rfl, ho1, hB1⟩) | (go_at_call 90; refine (K40.out _ _ (by (repeat (first | with_reducible assumption | with_reducible exact Below.refl _ _ | with_reducible refine Below.drew ?_ | with_reducible refine below_alloc ?_ _ | (with_reducible refine below_set ?_ ?_ _; rotate_left; focus (simp; done)) | with_reducible refine below_tr ?_ (by with_reducible assumption)))) (by (repeat (first | with_reducible assumption | with_reducible refine cell_drew ?_ | (with_reducible refine cell_newA _ _ _ _ _ _ ?_ rfl; (simp [*]; done)) | with_reducible refine cell_old ?_ _ | (with_reducible refine cell_far ?_ ?_ _; rotate_left; focus (simp; done)) | with_reducible refine keep_cell (by with_reducible assumption) ?_)))).mono ?_; rintro e w' ⟨a2, n2, p2, rfl, ho2, hB2⟩))
  all_goals (go_wp2; (try simp only [Exit.inBlock, Exit.then]))
  all_goals have r := res2 w' (w.heap.size + 1) (.slice a1 n1 p1) (.slice a2 n2 p2) (by (repeat (first | with_reducible assumption | with_reducible refine Free.drew ?_ | with_reducible refine Free.alloc ?_ _ | with_reducible refine Free.set ?_ _ _ | with_reducible refine Free.keep (by with_reducible assumption) ?_))) (by (repeat (first | with_reducible assumption | with_reducible refine Free.drew ?_ | with_reducible refine Free.alloc ?_ _ | with_reducible refine Free.set ?_ _ _ | with_reducible refine Free.keep (by with_reducible assumption) ?_)))
  all_goals obtain ⟨r0, r1⟩ := r
  all_goals refine bodyPost_ret (v := .agg #[.slice a1 n1 p1, .slice a2 n2 p2]) ?_ rfl ⟨_, _, rfl, own_base (base := w.heap.size + 2) (by (repeat (first | with_reducible assumption | (with_reducible refine ownsRow_setCell_below ?_ ?_ _; rotate_left; focus (simp; done)) | with_reducible refine own_keep ?_ (by with_reducible assumption) | with_reducible refine own_alloc ?_ _ | with_reducible refine own_drew ?_))) (by omega), own_base (base := w.heap.size + 2) (by (repeat (first | with_reducible assumption | (with_reducible refine ownsRow_setCell_below ?_ ?_ _; rotate_left; focus (simp; done)) | with_reducible refine own_keep ?_ (by with_reducible assumption) | with_reducible refine own_alloc ?_ _ | with_reducible refine own_drew ?_))) (by omega), (by (repeat (first | with_reducible assumption | with_reducible exact Below.refl _ _ | with_reducible refine Below.drew ?_ | with_reducible refine below_alloc ?_ _ | (with_reducible refine below_set ?_ ?_ _; rotate_left; focus (simp; done)) | with_reducible refine below_tr ?_ (by with_reducible assumption))))⟩
  all_goals (rw [results_cell1 rfl]; simp [go_sem, r0, r1])
end Go.Proofs.Ytdhjmghfiodifaa
namespace Go.Proofs.Ytdhjmghfiodifaa
open Go.RowKit
set_option maxRecDepth 100000
set_option linter.unusedVariables false
/-- A memory whose rows lie in blocks from B on. -/
def OwnH (B : Nat) (w : World) (vm vc : Value) (ms cs : List (Nat × Int)) : Prop := w.ownsRow B 80 2 vm ms.length (rowOf .i64 ms) ∧ w.ownsRow B 85 2 vc cs.length (rowOf .u64 cs)
theorem OwnH.m {B : Nat} {w : World} {vm vc : Value} {ms cs : List (Nat × Int)} (h : OwnH B w vm vc ms cs) : Sl .i64 w vm ms := own_sl h.1
theorem OwnH.c {B : Nat} {w : World} {vm vc : Value} {ms cs : List (Nat × Int)} (h : OwnH B w vm vc ms cs) : Sl .u64 w vc cs := own_sl h.2
theorem OwnH.shape {B : Nat} {w : World} {vm vc : Value} {ms cs : List (Nat × Int)} (h : OwnH B w vm vc ms cs) : ∃ a n p a' n' p', vm = .slice a n p ∧ vc = .slice a' n' p' := by
  obtain ⟨a, n, p, rfl⟩ := own_shape h.1
  obtain ⟨a', n', p', rfl⟩ := own_shape h.2
  exact ⟨_, _, _, _, _, _, rfl, rfl⟩
theorem OwnH.keep {B : Nat} {w w' : World} {vm vc : Value} {ms cs : List (Nat × Int)} (h : OwnH B w vm vc ms cs) (hb : Below w.heap.size w w') : OwnH B w' vm vc ms cs := ⟨own_keep h.1 hb, own_keep h.2 hb⟩
theorem OwnH.base {B B' : Nat} {w : World} {vm vc : Value} {ms cs : List (Nat × Int)} (h : OwnH B w vm vc ms cs) (hb : B' ≤ B) : OwnH B' w vm vc ms cs := ⟨own_base h.1 hb, own_base h.2 hb⟩
theorem OwnH.set {B : Nat} {w : World} {vm vc : Value} {ms cs : List (Nat × Int)} (h : OwnH B w vm vc ms cs) {a : Addr} (ha : a.block < B) (u : Value) : OwnH B (w.setCell a u) vm vc ms cs :=
  ⟨ownsRow_setCell_below h.1 ha u, ownsRow_setCell_below h.2 ha u⟩
theorem OwnH.alloc {B : Nat} {w : World} {vm vc : Value} {ms cs : List (Nat × Int)} (h : OwnH B w vm vc ms cs) (o : Obj) : OwnH B (w.alloc o) vm vc ms cs := h.keep ((Below.refl _ _).alloc (Nat.le_refl _) _)
theorem OwnH.drew {B : Nat} {w : World} {vm vc : Value} {ms cs : List (Nat × Int)} (h : OwnH B w vm vc ms cs) : OwnH B w.drew vm vc ms cs := h.keep (Below.refl _ _).drew
theorem res2_own {w : World} {n B : Nat} {x y v : Value} {m : Nat} {xs : List Value} {base e : Nat} (h : w.ownsRow base e 2 v m xs) (hn : n < base) (hB : B ≤ base) : ((w.setCell ⟨n, 0, none⟩ x).setCell ⟨n, 1, none⟩ y).ownsRow B e 2 v m xs :=
  own_base (ownsRow_setCell_below (ownsRow_setCell_below h (by simpa using hn) _) (by simpa using hn) _) hB
theorem res4_own {w : World} {n m B : Nat} {x y u t v : Value} {j : Nat} {xs : List Value} {base e : Nat} (h : w.ownsRow base e 2 v j xs) (hn : n < base) (hm : m < base) (hB : B ≤ base) :
    ((((w.setCell ⟨n, 0, none⟩ x).setCell ⟨n, 1, none⟩ y).setCell ⟨m, 0, none⟩ u).setCell ⟨m, 1, none⟩ t).ownsRow B e 2 v j xs :=
  res2_own (res2_own h hn (Nat.le_refl _)) hm hB
end Go.Proofs.Ytdhjmghfiodifaa
namespace Go.Proofs.Ytdhjmghfiodifaa
open Go.RowKit
set_option maxRecDepth 100000
set_option linter.unusedVariables false
theorem parts_take (xs : List (Nat × Int)) (h : Srt xs) (a b : Nat) (hab : a ≤ b) : xs.take (lo xs a).length = lo xs a := by
  have e := congrArg (List.take (lo xs a).length) (parts xs h a b hab)
  rw [List.append_assoc, List.take_left] at e
  exact e
theorem parts_drop (xs : List (Nat × Int)) (h : Srt xs) (a b : Nat) (hab : a ≤ b) : xs.drop ((lo xs a).length + (mid xs a b).length) = hi xs b := by
  have e := congrArg (List.drop ((lo xs a).length + (mid xs a b).length)) (parts xs h a b hab)
  rw [← List.length_append, List.drop_left] at e
  rw [← List.length_append]
  exact e
theorem parts_len (xs : List (Nat × Int)) (h : Srt xs) (a b : Nat) (hab : a ≤ b) : xs.length = (lo xs a).length + (mid xs a b).length + (hi xs b).length := by
  have e := congrArg List.length (parts xs h a b hab)
  rw [List.length_append, List.length_append] at e
  exact e
end Go.Proofs.Ytdhjmghfiodifaa
namespace Go.Proofs.Ytdhjmghfiodifaa
open Go.RowKit
set_option maxRecDepth 100000
set_option linter.unusedVariables false
theorem results_cells {fn : Func} {p q : Tmp} {ty t2 : TypeId} (h : fn.results = #[.cell p ty, .cell q t2]) (tmps : Array Value) (P : Program) (w : World) :
    (results fn tmps).run P w = ((asAddr (tmps.getD p undef)).run P w).andThen fun a w₁ => ((loadVar ty a).run P w₁).andThen fun v w₂ => ((asAddr (tmps.getD q undef)).run P w₂).andThen fun b w₃ => ((loadVar t2 b).run P w₃).andThen fun u w₄ => .ok (.tuple #[v, u]) w₄ := by
  simp only [results, h]
  simp [Sem.run_bind, Result.andThen]
theorem box2c (w : World) (x0 x1 y0 y1 z0 z1 : Value) (t s r : Nat) : ∃ W, ((w.alloc (.cells #[x0, x1] t)).alloc (.cells #[y0, y1] s)).alloc (.cells #[z0, z1] r) = W ∧ Below w.heap.size w W ∧ W.heap.size = w.heap.size + 3 ∧
    W.cell? ⟨w.heap.size, 0, none⟩ = some x0 ∧ W.cell? ⟨w.heap.size, 1, none⟩ = some x1 ∧ Free W ⟨w.heap.size + 1, 0, none⟩ ∧ Free W ⟨w.heap.size + 1, 1, none⟩ ∧ Free W ⟨w.heap.size + 1 + 1, 0, none⟩ ∧ Free W ⟨w.heap.size + 1 + 1, 1, none⟩ := by
  obtain ⟨W, rfl, b1, s1, c0, c1, _, _, f0, f1⟩ := box2b w x0 x1 y0 y1 t s
  obtain ⟨W', rfl, b2, s2, d0, d1, g0, g1⟩ := box2 ((w.alloc (.cells #[x0, x1] t)).alloc (.cells #[y0, y1] s)) z0 z1 r
  rw [s1] at d0 d1 g0 g1 s2
  exact ⟨_, rfl, below_tr b1 b2, s2, keep_cell b2 c0, keep_cell b2 c1, f0.keep b2, f1.keep b2, ⟨⟨_, d0⟩, g0⟩, ⟨⟨_, d1⟩, g1⟩⟩
theorem res4 (w : World) (n m : Nat) (x y u v : Value) (hnm : n ≠ m) (h0 : Free w ⟨n, 0, none⟩) (h1 : Free w ⟨n, 1, none⟩) (h2 : Free w ⟨m, 0, none⟩) (h3 : Free w ⟨m, 1, none⟩) :
    ((((w.setCell ⟨n, 0, none⟩ x).setCell ⟨n, 1, none⟩ y).setCell ⟨m, 0, none⟩ u).setCell ⟨m, 1, none⟩ v).cell? ⟨n, 0, none⟩ = some x ∧
    ((((w.setCell ⟨n, 0, none⟩ x).setCell ⟨n, 1, none⟩ y).setCell ⟨m, 0, none⟩ u).setCell ⟨m, 1, none⟩ v).cell? ⟨n, 1, none⟩ = some y ∧
    ((((w.setCell ⟨n, 0, none⟩ x).setCell ⟨n, 1, none⟩ y).setCell ⟨m, 0, none⟩ u).setCell ⟨m, 1, none⟩ v).cell? ⟨m, 0, none⟩ = some u ∧
    ((((w.setCell ⟨n, 0, none⟩ x).setCell ⟨n, 1, none⟩ y).setCell ⟨m, 0, none⟩ u).setCell ⟨m, 1, none⟩ v).cell? ⟨m, 1, none⟩ = some v := by
  obtain ⟨a0, a1⟩ := res2 w n x y h0 h1
  obtain ⟨a2, a3⟩ := res2 ((w.setCell ⟨n, 0, none⟩ x).setCell ⟨n, 1, none⟩ y) m u v ((h2.set _ _).set _ _) ((h3.set _ _).set _ _)
  exact ⟨cell_far (cell_far a0 (by simp; omega) _) (by simp; omega) _, cell_far (cell_far a1 (by simp; omega) _) (by simp; omega) _, a2, a3⟩
theorem res4_sl {k : IntKind} {w : World} {n m : Nat} {x y u t v : Value} {xs : List (Nat × Int)} {base e : Nat} (h : w.ownsRow base e 2 v xs.length (rowOf k xs)) (hn : n < base) (hm : m < base) :
    Sl k ((((w.setCell ⟨n, 0, none⟩ x).setCell ⟨n, 1, none⟩ y).setCell ⟨m, 0, none⟩ u).setCell ⟨m, 1, none⟩ t) v xs :=
  own_sl (ownsRow_setCell_below (ownsRow_setCell_below (ownsRow_setCell_below (ownsRow_setCell_below h (by simpa using hn) _) (by simpa using hn) _) (by simpa using hm) _) (by simpa using hm) _)
/-- The cells that a number of bytes lies in, with the number put in. -/
def putCells (cs : List (Nat × Int)) (a last v : Nat) : List (Nat × Int) :=
  cellIf (cellOf a) (nowN (wordN cs (cellOf a)) (maskOf (max a (cellOf a) - cellOf a) (min last (cellOf a + 7) - cellOf a)) (v * 2 ^ (8 * (a - cellOf a)) % 18446744073709551616)) ++
  (if cellOf last = cellOf a then [] else cellIf (cellOf last) (nowN (wordN cs (cellOf last)) (maskOf (max a (cellOf last) - cellOf last) (min last (cellOf last + 7) - cellOf last)) (v / 2 ^ (8 * (cellOf last - a)))))
def storeN (cs : List (Nat × Int)) (a k v : Nat) : List (Nat × Int) := lo cs (cellOf a) ++ putCells cs a (a + k - 1) v ++ hi cs (cellOf (a + k - 1))
theorem shl64 (v s : Nat) (hs : s ≤ 64) : IntKind.u64.wrap ((v : Int) * 2 ^ min s 64) = ((v * 2 ^ s % 18446744073709551616 : Nat) : Int) := by
  rw [Nat.min_eq_left hs, IntKind.wrap_u64, Int.natCast_emod, Int.natCast_mul, Int.natCast_pow]; rfl
theorem shr64 (v s : Nat) (hs : s ≤ 64) : (v : Int) / 2 ^ min s 64 = ((v / 2 ^ s : Nat) : Int) := by
  rw [Nat.min_eq_left hs, Int.natCast_ediv, Int.natCast_pow]; rfl
theorem cellIf_len (a b : Nat) : (cellIf a b).length ≤ 1 := by unfold cellIf; split <;> simp
end Go.Proofs.Ytdhjmghfiodifaa
namespace Go.Proofs.Ytdhjmghfiodifaa
open Go.RowKit
set_option maxRecDepth 100000
set_option linter.unusedVariables false
theorem cut_mid23 (ao : Option Addr) (n cap f t : Nat) (hft : f ≤ t) (ht : t ≤ n) (hn : n ≤ cap) (hcap : cap ≤ 9223372036854775807) (h0 : ao = none → cap = 0) (w : World) :
    (Instr.slice 23 (.slice ao n cap) (some (.int .i64 (f : Int))) (some (.int .i64 (t : Int))) none).run Try.prog w = .ok (.slice (if cap = f then ao else ao.map (fun a => a.add (f * 2))) (t - f) (cap - f)) w := by
  cases ao with
  | none =>
    obtain rfl := h0 rfl
    obtain rfl : n = 0 := by omega
    obtain rfl : t = 0 := by omega
    obtain rfl : f = 0 := by omega
    simp [Instr.slice, go_sem]
  | some a =>
    simp [Instr.slice, go_sem]
    rw [if_pos (by omega), if_pos hft]
theorem Sl.mid23 {k : IntKind} {w : World} {v : Value} {xs : List (Nat × Int)} (h : Sl k w v xs) (f t : Nat) (hft : f ≤ t) (ht : t ≤ xs.length) :
    ∃ v', (∀ w', (Instr.slice 23 v (some (.int .i64 (f : Int))) (some (.int .i64 (t : Int))) none).run Try.prog w' = .ok v' w') ∧ Sl k w v' ((xs.take t).drop f) := by
  obtain ⟨ao, cap, rfl, h1, h2, h3, h4⟩ := h
  refine ⟨_, fun w' => cut_mid23 ao _ cap f t hft ht h1 h2 h3 w', ⟨(if cap = f then ao else ao.map (fun a => a.add (f * 2))), cap - f, by simp [Nat.min_eq_left ht], by simp; omega, by omega, ?_, fun i hi => ?_⟩⟩
  · intro h
    split at h
    · omega
    · simp at h; have := h3 h; omega
  · simp at hi
    obtain ⟨b, o, e, c0, c1⟩ := h4 (f + i) (by omega)
    refine ⟨b, o + f * 2, ?_, ?_, ?_⟩
    · rw [if_neg (by omega), e]; simp [Addr.add]
    · rw [show o + f * 2 + i * 2 = o + (f + i) * 2 by omega]; simpa using c0
    · rw [show o + f * 2 + i * 2 = o + (f + i) * 2 by omega]; simpa using c1
theorem parts_mid (xs : List (Nat × Int)) (h : Srt xs) (a b : Nat) (hab : a ≤ b) : (xs.take ((lo xs a).length + (mid xs a b).length)).drop (lo xs a).length = mid xs a b := by
  have e := congrArg (List.take ((lo xs a).length + (mid xs a b).length)) (parts xs h a b hab)
  rw [← List.length_append, List.take_left] at e
  rw [← List.length_append, e, List.drop_left]
/-- A cell of which the bytes from a to last are 0. -/
def clearC (a last : Nat) (x : Nat × Int) : List (Nat × Int) := cellIf x.1 (nowN x.2.toNat (maskOf (max a x.1 - x.1) (min last (x.1 + 7) - x.1)) 0)
def clears (a last : Nat) (xs : List (Nat × Int)) : List (Nat × Int) := xs.flatMap (clearC a last)
theorem clears_snoc (a last : Nat) (xs : List (Nat × Int)) (m : Nat) (h : m < xs.length) : clears a last (xs.take (m + 1)) = clears a last (xs.take m) ++ clearC a last xs[m] := by
  rw [clears, List.take_add_one, List.getElem?_eq_getElem h, List.flatMap_append]
  simp [clears]
theorem clearC_len (a last : Nat) (x : Nat × Int) : (clearC a last x).length ≤ 1 := cellIf_len _ _
theorem clears_len (a last : Nat) : ∀ (xs : List (Nat × Int)), (clears a last xs).length ≤ xs.length
  | [] => by simp [clears]
  | x :: xs => by
    have h1 := clears_len a last xs
    have h2 := clearC_len a last x
    have e : clears a last (x :: xs) = clearC a last x ++ clears a last xs := by simp [clears]
    rw [e, List.length_append, List.length_cons]; omega
def lastOf (a n : Nat) : Nat := a + min (n - 1) (18446744073709551615 - a)
/-- The cells of a memory of which n bytes from a on are 0. -/
def clearN (cs : List (Nat × Int)) (a n : Nat) : List (Nat × Int) := if n = 0 then cs else lo cs (cellOf a) ++ clears a (lastOf a n) (mid cs (cellOf a) (lastOf a n)) ++ hi cs (lastOf a n)
set_option maxHeartbeats 1000000 in
theorem changed49k (cv : Value) (xs : List (Nat × Int)) (a old mask v B : Nat) (w : World) (hown : w.ownsRow B 85 2 cv xs.length (rowOf .u64 xs)) (hB : B ≤ w.heap.size) (hl : xs.length ≤ 1073741823)
    (h1 : old < 18446744073709551616) (h2 : mask < 18446744073709551616) (h3 : v < 18446744073709551616) :
    Calls Try.prog 109 #[cv, .int .u64 (a : Int), .int .u64 (old : Int), .int .u64 (mask : Int), .int .u64 (v : Int)] w
      fun e w' => ∃ cv', e = .returned cv' ∧ w'.ownsRow B 85 2 cv' (xs ++ cellIf a (nowN old mask v)).length (rowOf .u64 (xs ++ cellIf a (nowN old mask v))) ∧ Below B w w' ∧ w.heap.size ≤ w'.heap.size ∧ ∀ (p : Addr) u, some p.block ≠ cv.ownBlock → w.cell? p = some u → w'.cell? p = some u := by
  have e1 : bits .andNot .u64 (old : Int) (mask : Int) = ((clr old mask : Nat) : Int) := andNot64 old mask h1 h2
  have e2 : bits .and .u64 (v : Int) (mask : Int) = ((v &&& mask : Nat) : Int) := and64 v mask h3 h2
  have e3 : bits .or .u64 ((clr old mask : Nat) : Int) ((v &&& mask : Nat) : Int) = ((nowN old mask v : Nat) : Int) := or64 _ _ (Nat.lt_of_le_of_lt Nat.and_le_left h1) (Nat.lt_of_le_of_lt Nat.and_le_right h2)
  generalize nowN old mask v = now at e3 ⊢
  generalize clr old mask = c at e1 e3
  generalize (v &&& mask) = d at e2 e3
  obtain ⟨i0, hi, hz0, hz1, hz2⟩ := info_parts info58
  by_cases h0 : now = 0
  · subst h0
    go_enter Try.func109, Try.ntmps109
    go_wp2
    go_ret
    exact ⟨_, rfl, by simpa [cellIf] using hown, Below.refl _ _, Nat.le_refl _, fun _ _ _ h => h⟩
  · have hne : ((now : Int) != 0) = true := by simp; omega
    have HI : Hid (Try.prog.info? 85 = some i0 ∧ i0.zero = some (.agg #[.int .u64 0, .int .u64 0]) ∧ i0.size = 2 ∧ i0.bytes = 16) := ⟨hi, hz0, hz1, hz2⟩
    have HO : Hid (w.ownsRow B 85 2 cv xs.length (rowOf .u64 xs)) := hown
    have H0 : Hid (¬ now = 0) := h0
    clear hi hz0 hz1 hz2 hown h0
    go_enter Try.func109, Try.ntmps109
    go_wp2_with (at_builtin; refine wpList_append_own _ rfl (.tmp 21) (.tmp 25) 23 rfl B 85 i0 _ 2 16 Try.underlying23 HI.out.1 HI.out.2.1 HI.out.2.2.1 HI.out.2.2.2 rfl (by decide) _ _ _ rfl (own_alloc HO.out _) ⟨w.heap.size, 0, none⟩ 1 1 [.int .u64 (a : Int), .int .u64 (now : Int)] rfl rfl ?c1 ?c2 (by unfold maxLen; omega) (by omega) (by simp; omega) ?_)
    case c1 =>
      intro j u hj
      match j, hj with
      | 0, hj => simp at hj; subst hj; simp [Addr.add]
      | 1, hj => simp at hj; subst hj; simp [Addr.add]
    case c2 => intro u hu; simp at hu; rcases hu with rfl | rfl <;> rfl
    intro cv' w1 hown' hgrow _
    have R1 : w1.ownsRow B 85 2 cv' (xs ++ cellIf a now).length (rowOf .u64 (xs ++ cellIf a now)) := by
      have e : cellIf a now = [(a, (now : Int))] := by rw [cellIf, if_neg H0.out]
      rw [e, rowOf_append]
      simpa [rowOf] using hown'
    have R2 : Below B w w1 := (((Below.refl B w).alloc hB _).grown hgrow (by simp; omega) (own_ge HO.out))
    have R3 := R2.size
    have R4 : Hid (∀ (p : Addr) u, some p.block ≠ cv.ownBlock → w.cell? p = some u → w1.cell? p = some u) := fun p u hp hu => hgrow.cell (cell_old hu _) hp
    clear hown' hgrow
    go_wp2
    go_ret
    exact ⟨_, rfl, R1, R2, R3, R4.out⟩
end Go.Proofs.Ytdhjmghfiodifaa
