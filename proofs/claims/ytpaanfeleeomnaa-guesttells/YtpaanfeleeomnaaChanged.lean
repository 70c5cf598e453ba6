/- What is proved here: a cell whose bits are others is added, if it is not 0. -/
import Derived.Test.YtpaanfeleeomnaaHeld
import Derived.Test.YtpaanfeleeomnaaWord
import Derived.Test.YtpaanfeleeomnaaCuts
namespace Go.Proofs.Ytpaanfeleeomnaa
open Go.RowKit
set_option maxRecDepth 100000
set_option linter.unusedVariables false
/-- A word of which some bits are another's. -/
def nowN (old mask v : Nat) : Nat := clr old mask ||| (v &&& mask)
/-- The cell, if it is not 0. -/
def cellIf (a now : Nat) : List (Nat × Int) := if now = 0 then [] else [(a, (now : Int))]
theorem nowN_lt (old mask v : Nat) (h1 : old < 18446744073709551616) (h2 : mask < 18446744073709551616) : nowN old mask v < 18446744073709551616 := by
  have a : clr old mask < 2 ^ 64 := Nat.lt_of_le_of_lt Nat.and_le_left h1
  have b : (v &&& mask) < 2 ^ 64 := Nat.lt_of_le_of_lt Nat.and_le_right h2
  exact Nat.or_lt_two_pow a b
set_option maxHeartbeats 1000000 in
theorem changed49 (cv : Value) (xs : List (Nat × Int)) (a old mask v B : Nat) (w : World) (hown : w.ownsRow B 61 2 cv xs.length (rowOf .u64 xs)) (hB : B ≤ w.heap.size) (hl : xs.length ≤ 1073741823)
    (h1 : old < 18446744073709551616) (h2 : mask < 18446744073709551616) (h3 : v < 18446744073709551616) :
    Calls Try.prog 91 #[cv, .int .u64 (a : Int), .int .u64 (old : Int), .int .u64 (mask : Int), .int .u64 (v : Int)] w
      fun e w' => ∃ cv', e = .returned cv' ∧ w'.ownsRow B 61 2 cv' (xs ++ cellIf a (nowN old mask v)).length (rowOf .u64 (xs ++ cellIf a (nowN old mask v))) ∧ Below B w w' ∧ w.heap.size ≤ w'.heap.size := by
  have e1 : bits .andNot .u64 (old : Int) (mask : Int) = ((clr old mask : Nat) : Int) := andNot64 old mask h1 h2
  have e2 : bits .and .u64 (v : Int) (mask : Int) = ((v &&& mask : Nat) : Int) := and64 v mask h3 h2
  have e3 : bits .or .u64 ((clr old mask : Nat) : Int) ((v &&& mask : Nat) : Int) = ((nowN old mask v : Nat) : Int) := or64 _ _ (Nat.lt_of_le_of_lt Nat.and_le_left h1) (Nat.lt_of_le_of_lt Nat.and_le_right h2)
  generalize nowN old mask v = now at e3 ⊢
  generalize clr old mask = c at e1 e3
  generalize (v &&& mask) = d at e2 e3
  obtain ⟨i0, hi, hz0, hz1, hz2⟩ := info_parts info58
  by_cases h0 : now = 0
  · subst h0
    go_enter Try.func91, Try.ntmps91
    go_wp2
    go_ret
    exact ⟨_, rfl, by simpa [cellIf] using hown, Below.refl _ _, Nat.le_refl _⟩
  · have hne : ((now : Int) != 0) = true := by simp; omega
    have HI : Hid (Try.prog.info? 61 = some i0 ∧ i0.zero = some (.agg #[.int .u64 0, .int .u64 0]) ∧ i0.size = 2 ∧ i0.bytes = 16) := ⟨hi, hz0, hz1, hz2⟩
    have HO : Hid (w.ownsRow B 61 2 cv xs.length (rowOf .u64 xs)) := hown
    have H0 : Hid (¬ now = 0) := h0
    clear hi hz0 hz1 hz2 hown h0
    go_enter Try.func91, Try.ntmps91
    go_wp2_with (at_builtin; refine wpList_append_own _ rfl (.tmp 21) (.tmp 25) 23 rfl B 61 i0 _ 2 16 Try.underlying23 HI.out.1 HI.out.2.1 HI.out.2.2.1 HI.out.2.2.2 rfl (by decide) _ _ _ rfl (own_alloc HO.out _) ⟨w.heap.size, 0, none⟩ 1 1 [.int .u64 (a : Int), .int .u64 (now : Int)] rfl rfl ?c1 ?c2 (by unfold maxLen; omega) (by omega) (by simp; omega) ?_)
    case c1 =>
      intro j u hj
      match j, hj with
      | 0, hj => simp at hj; subst hj; simp [Addr.add]
      | 1, hj => simp at hj; subst hj; simp [Addr.add]
    case c2 => intro u hu; simp at hu; rcases hu with rfl | rfl <;> rfl
    intro cv' w1 hown' hgrow _
    have R1 : w1.ownsRow B 61 2 cv' (xs ++ cellIf a now).length (rowOf .u64 (xs ++ cellIf a now)) := by
      have e : cellIf a now = [(a, (now : Int))] := by rw [cellIf, if_neg H0.out]
      rw [e, rowOf_append]
      simpa [rowOf] using hown'
    have R2 : Below B w w1 := (((Below.refl B w).alloc hB _).grown hgrow (by simp; omega) (own_ge HO.out))
    have R3 := R2.size
    clear hown' hgrow
    go_wp2
    go_ret
    exact ⟨_, rfl, R1, R2, R3⟩
end Go.Proofs.Ytpaanfeleeomnaa
namespace Go.Proofs.Ytpaanfeleeomnaa
open Go.RowKit
set_option maxRecDepth 100000
set_option linter.unusedVariables false
set_option maxHeartbeats 4000000 in
theorem exchanged51 (vm vc vn : Value) (ms cs ns : List (Nat × Int)) (f t : Nat) (w : World) (hm : Sl .i64 w vm ms) (hc : Sl .u64 w vc cs) (hn : Sl .u64 w vn ns) (lm : ms.length ≤ 1073741824) (lc : (cs.take f ++ ns ++ cs.drop t).length ≤ 1073741824) (hf : f ≤ cs.length) (ht : t ≤ cs.length) (lcs : cs.length ≤ 1073741824) :
    Calls Try.prog 93 #[.agg #[vm, vc], .int .i64 (f : Int), .int .i64 (t : Int), vn] w fun e w' => ∃ vm' vc', e = .returned (.agg #[vm', vc']) ∧ w'.ownsRow w.heap.size 56 2 vm' ms.length (rowOf .i64 ms) ∧ w'.ownsRow w.heap.size 61 2 vc' (cs.take f ++ ns ++ cs.drop t).length (rowOf .u64 (cs.take f ++ ns ++ cs.drop t)) ∧ Below w.heap.size w w' := by
  obtain ⟨W, hW, hb, hsz, c0, c1, _, _, g0, g1⟩ := box2b w vm vc (.slice none 0 0) (.slice none 0 0) 25 25
  obtain ⟨v1, e1, s1, a1, n1, p1, rfl⟩ := hc.to23 f hf
  obtain ⟨v2, e2, s2, a2, n2, p2, rfl⟩ := hc.from23 t ht
  obtain ⟨an, nn, pn, rfl⟩ : ∃ a n p, vn = .slice a n p := by obtain ⟨a, p, h, _⟩ := hn; exact ⟨_, _, _, h⟩
  have K39 : Hid (∀ b w1, Below W.heap.size W w1 → w1.cell? ⟨b, 0, none⟩ = some vm → Calls Try.prog 76 #[.slice (some ⟨b, 0, none⟩) 1 1] w1 fun e w' => ∃ a n p, e = .returned (.slice a n p) ∧ w'.ownsRow (w.heap.size + 2) 56 2 (.slice a n p) ms.length (rowOf .i64 ms) ∧ Below w1.heap.size w1 w') := fun b w1 hb1 hc1 =>
    (cat39_1 b vm ms w1 hc1 (hm.keep (below_tr hb hb1)) lm).mono (by rintro e w' ⟨v, rfl, ho, hB⟩; obtain ⟨a, n, p, rfl⟩ := own_shape ho; exact ⟨a, n, p, rfl, own_base ho (by have := hb1.size; omega), hB⟩)
  have K40 : Hid (∀ b w1, Below W.heap.size W w1 → w1.cell? ⟨b, 0, none⟩ = some (.slice a1 n1 p1) → w1.cell? ⟨b, 1, none⟩ = some (.slice an nn pn) → w1.cell? ⟨b, 2, none⟩ = some (.slice a2 n2 p2) → Calls Try.prog 77 #[.slice (some ⟨b, 0, none⟩) 3 3] w1 fun e w' => ∃ a n p, e = .returned (.slice a n p) ∧ w'.ownsRow (w.heap.size + 2) 61 2 (.slice a n p) (cs.take f ++ ns ++ cs.drop t).length (rowOf .u64 (cs.take f ++ ns ++ cs.drop t)) ∧ Below w1.heap.size w1 w') := fun b w1 hb1 hc1 hc2 hc3 =>
    (cat40_3 b _ _ _ _ _ _ w1 hc1 hc2 hc3 (s1.keep (below_tr hb hb1)) (hn.keep (below_tr hb hb1)) (s2.keep (below_tr hb hb1)) lc).mono (by rintro e w' ⟨v, rfl, ho, hB⟩; obtain ⟨a, n, p, rfl⟩ := own_shape ho; exact ⟨a, n, p, rfl, own_base ho (by have := hb1.size; omega), hB⟩)
  obtain ⟨am, nm, pm, rfl⟩ : ∃ a n p, vm = .slice a n p := by obtain ⟨a, p, h, _⟩ := hm; exact ⟨_, _, _, h⟩
  obtain ⟨ac, nc, pc, rfl⟩ : ∃ a n p, vc = .slice a n p := by obtain ⟨a, p, h, _⟩ := hc; exact ⟨_, _, _, h⟩
  generalize cs.take f ++ ns ++ cs.drop t = zs at K40 lc ⊢
  clear hm hc hn s1 s2 lc hf ht
  go_enter Try.func93, Try.ntmps93
  go_wp2
  go_region_held3 (fun w' => Below w.heap.size w w' ∧ w'.cell? ⟨w.heap.size, 0, none⟩ = some (.slice am nm pm) ∧ w'.cell? ⟨w.heap.size, 1, none⟩ = some (.slice ac nc pc) ∧ w'.cell? ⟨w.heap.size + 1, 0, none⟩ = some (cellAt w' ⟨w.heap.size + 1, 0, none⟩) ∧ w'.cell? ⟨w.heap.size + 1, 1, none⟩ = some (cellAt w' ⟨w.heap.size + 1, 1, none⟩) ∧ w'.frozen? ⟨w.heap.size + 1, 0, none⟩ = false ∧ w'.frozen? ⟨w.heap.size + 1, 1, none⟩ = false)
    (refine ⟨?_, ?_, ?_, ?_, ?_, ?_, ?_⟩ <;> first | (with_reducible refine Free.cell ?_; (repeat (first | with_reducible assumption | with_reducible refine Free.drew ?_ | with_reducible refine Free.alloc ?_ _ | with_reducible refine Free.set ?_ _ _ | with_reducible refine Free.keep (by with_reducible assumption) ?_)); done) | (with_reducible refine Free.frozen ?_; (repeat (first | with_reducible assumption | with_reducible refine Free.drew ?_ | with_reducible refine Free.alloc ?_ _ | with_reducible refine Free.set ?_ _ _ | with_reducible refine Free.keep (by with_reducible assumption) ?_)); done) | ((repeat (first | with_reducible assumption | with_reducible exact Below.refl _ _ | with_reducible refine Below.drew ?_ | with_reducible refine below_alloc ?_ _ | (with_reducible refine below_set ?_ ?_ _; rotate_left; focus (simp; done)) | with_reducible refine below_tr ?_ (by with_reducible assumption))); done) | ((repeat (first | with_reducible assumption | with_reducible refine cell_drew ?_ | (with_reducible refine cell_newA _ _ _ _ _ _ ?_ rfl; (simp [*]; done)) | with_reducible refine cell_old ?_ _ | (with_reducible refine cell_far ?_ ?_ _; rotate_left; focus (simp; done)) | with_reducible refine keep_cell (by with_reducible assumption) ?_)); done))
    (first | (go_at_call 76; refine (K39.out _ _ (by (repeat (first | with_reducible assumption | with_reducible exact Below.refl _ _ | with_reducible refine Below.drew ?_ | with_reducible refine below_alloc ?_ _ | (with_reducible refine below_set ?_ ?_ _; rotate_left; focus (simp; done)) | with_reducible refine below_tr ?_ (by with_reducible assumption)))) (by (repeat (first | with_reducible assumption | with_reducible refine cell_drew ?_ | (with_reducible refine cell_newA _ _ _ _ _ _ ?_ rfl; (simp [*]; done)) | with_reducible refine cell_old ?_ _ | (with_reducible refine cell_far ?_ ?_ _; rotate_left; focus (simp; done)) | with_reducible refine keep_cell (by with_reducible assumption) ?_)))).mono ?_; rintro e w' ⟨b1, k1, q1, rfl, ho1, hB1⟩) | (go_at_call 77; refine (K40.out _ _ (by (repeat (first | with_reducible assumption | with_reducible exact Below.refl _ _ | with_reducible refine Below.drew ?_ | with_reducible refine below_alloc ?_ _ | (with_reducible refine below_set ?_ ?_ _; rotate_left; focus (simp; done)) | with_reducible refine below_tr ?_ (by with_reducible assumption)))) (by (repeat (first | with_reducible assumption | with_reducible refine cell_drew ?_ | (with_reducible refine cell_newA _ _ _ _ _ _ ?_ rfl; (simp [*]; done)) | with_reducible refine cell_old ?_ _ | (with_reducible refine cell_far ?_ ?_ _; rotate_left; focus (simp; done)) | with_reducible refine keep_cell (by with_reducible assumption) ?_))) (by (repeat (first | with_reducible assumption | with_reducible refine cell_drew ?_ | (with_reducible refine cell_newA _ _ _ _ _ _ ?_ rfl; (simp [*]; done)) | with_reducible refine cell_old ?_ _ | (with_reducible refine cell_far ?_ ?_ _; rotate_left; focus (simp; done)) | with_reducible refine keep_cell (by with_reducible assumption) ?_))) (by (repeat (first | with_reducible assumption | with_reducible refine cell_drew ?_ | (with_reducible refine cell_newA _ _ _ _ _ _ ?_ rfl; (simp [*]; done)) | with_reducible refine cell_old ?_ _ | (with_reducible refine cell_far ?_ ?_ _; rotate_left; focus (simp; done)) | with_reducible refine keep_cell (by with_reducible assumption) ?_)))).mono ?_; rintro e w' ⟨b2, k2, q2, rfl, ho2, hB2⟩))
  all_goals (go_wp2; (try simp only [Exit.inBlock, Exit.then]))
  all_goals have r := res2 w' (w.heap.size + 1) (.slice b1 k1 q1) (.slice b2 k2 q2) (by (repeat (first | with_reducible assumption | with_reducible refine Free.drew ?_ | with_reducible refine Free.alloc ?_ _ | with_reducible refine Free.set ?_ _ _ | with_reducible refine Free.keep (by with_reducible assumption) ?_))) (by (repeat (first | with_reducible assumption | with_reducible refine Free.drew ?_ | with_reducible refine Free.alloc ?_ _ | with_reducible refine Free.set ?_ _ _ | with_reducible refine Free.keep (by with_reducible assumption) ?_)))
  all_goals obtain ⟨r0, r1⟩ := r
  all_goals refine bodyPost_ret (v := .agg #[.slice b1 k1 q1, .slice b2 k2 q2]) ?_ rfl ⟨_, _, rfl, own_base (base := w.heap.size + 2) (by (repeat (first | with_reducible assumption | (with_reducible refine ownsRow_setCell_below ?_ ?_ _; rotate_left; focus (simp; done)) | with_reducible refine own_keep ?_ (by with_reducible assumption) | with_reducible refine own_alloc ?_ _ | with_reducible refine own_drew ?_))) (by omega), own_base (base := w.heap.size + 2) (by (repeat (first | with_reducible assumption | (with_reducible refine ownsRow_setCell_below ?_ ?_ _; rotate_left; focus (simp; done)) | with_reducible refine own_keep ?_ (by with_reducible assumption) | with_reducible refine own_alloc ?_ _ | with_reducible refine own_drew ?_))) (by omega), (by (repeat (first | with_reducible assumption | with_reducible exact Below.refl _ _ | with_reducible refine Below.drew ?_ | with_reducible refine below_alloc ?_ _ | (with_reducible refine below_set ?_ ?_ _; rotate_left; focus (simp; done)) | with_reducible refine below_tr ?_ (by with_reducible assumption))))⟩
  all_goals (rw [results_cell1 rfl]; simp [go_sem, r0, r1])
end Go.Proofs.Ytpaanfeleeomnaa
