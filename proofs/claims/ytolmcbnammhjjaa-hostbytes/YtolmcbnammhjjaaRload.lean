/- What is proved here: the document's Load. -/
import Derived.Test.YtolmcbnammhjjaaAsk
namespace Go.Proofs.Ytolmcbnammhjjaa
open Go.RowKit
set_option linter.unusedVariables false
/-- The number of n bytes, 0 if n is 0. -/
def loadB (cs : List (Nat × Int)) (a n : Nat) : Nat := if n = 0 then 0 else loadN cs a n
theorem loadB_bit (cs : List (Nat × Int)) (hw : Words cs) (a k j : Nat) (k8 : k ≤ 8) :
    (loadB cs a k).testBit j = (decide (j < 8 * k) && (wordN cs (cellOf (a + j / 8))).testBit (8 * ((a + j / 8) % 8) + j % 8)) := by
  unfold loadB
  split
  · rename_i h; subst h; simp
  · exact loadN_bit cs hw a k j (by omega) k8
theorem peekN_lt (cs : List (Nat × Int)) (a : Nat) : peekN cs a < 256 := Nat.mod_lt _ (by omega)
theorem loadB_step (cs : List (Nat × Int)) (hw : Words cs) (a m : Nat) (hm : m < 8) : loadB cs (a + 1) m * 256 + peekN cs a = loadB cs a (m + 1) := by
  apply Nat.eq_of_testBit_eq
  intro j
  rw [show loadB cs (a + 1) m * 256 + peekN cs a = 2 ^ 8 * loadB cs (a + 1) m + peekN cs a by omega, Nat.testBit_two_pow_mul_add _ (peekN_lt cs a), loadB_bit cs hw a (m + 1) j (by omega)]
  by_cases hj : j < 8
  · rw [if_pos hj, peekN_bit, decide_eq_true hj, decide_eq_true (by omega), show j / 8 = 0 by omega, Nat.add_zero]
    congr 3; omega
  · rw [if_neg hj, loadB_bit cs hw (a + 1) m _ (by omega), show a + 1 + (j - 8) / 8 = a + j / 8 by omega]
    congr 1
    · rw [Bool.eq_iff_iff]; simp; omega
    · congr 1; omega
theorem loadB_lt (cs : List (Nat × Int)) (hw : Words cs) (a m : Nat) (hm : m ≤ 8) : loadB cs a m < 18446744073709551616 := by
  refine Nat.lt_pow_two_of_testBit _ (n := 64) (fun i hi => ?_)
  rw [loadB_bit cs hw a m i hm, decide_eq_false (by omega), Bool.false_and]
set_option maxHeartbeats 2000000 in
theorem rload21 (vm vc : Value) (ms cs : List (Nat × Int)) (a k : Nat) (w : World) (hm : Sl .i64 w vm ms) (hc : Sl .u64 w vc cs) (hw : Words cs) (ha : a < 18446744073709551616) (k1 : 1 ≤ k) (k8 : k ≤ 8) :
    Calls Try.prog 21 #[.agg #[vm, vc], .int .u64 (a : Int), .int .i64 (k : Int)] w fun e w' => e = .returned (.tuple #[.int .u64 ((loadV ms cs a k : Nat) : Int), .agg #[.int .i64 (faultFrom ms a 1 0 k).1, .int .u64 ((faultFrom ms a 1 0 k).2 : Int)]]) ∧ Below w.heap.size w w' := by
  obtain ⟨W, hW, hb, hsz, c0, c1, _, _, g0, g1⟩ := box2b w vm vc (.int .i64 0) (.int .u64 0) 25 39
  obtain ⟨x, nm, p, rfl⟩ : ∃ a n p, vm = .slice a n p := by obtain ⟨a, p, h, _⟩ := hm; exact ⟨_, _, _, h⟩
  obtain ⟨x', nc, p', rfl⟩ : ∃ a n p, vc = .slice a n p := by obtain ⟨a, p, h, _⟩ := hc; exact ⟨_, _, _, h⟩
  have K48 : Hid (Calls Try.prog 48 #[.agg #[.slice x nm p, .slice x' nc p'], .int .u64 (a : Int), .int .i64 (k : Int), .int .i64 1] W fun e w' => e = .returned (.agg #[.int .i64 (faultFrom ms a 1 0 k).1, .int .u64 ((faultFrom ms a 1 0 k).2 : Int)]) ∧ Below W.heap.size W w') :=
    ask48 (.slice x nm p) (.slice x' nc p') ms a k 1 W (hm.keep hb) ⟨_, _, _, rfl⟩ ha k8
  have K26 : Hid (∀ (b : Nat) w', b < 18446744073709551616 → Below W.heap.size W w' → Calls Try.prog 26 #[.agg #[.slice x nm p, .slice x' nc p'], .int .u64 (b : Int)] w' fun e w'' => e = .returned (.int .u8 ((peekN cs b : Nat) : Int)) ∧ Below w'.heap.size w' w'') := fun b w' hb' hB =>
    peek26 _ _ cs b w' ⟨_, _, _, rfl⟩ (hc.keep (below_tr hb hB)) hw hb'
  by_cases hf : (faultFrom ms a 1 0 k).1 = 0
  case neg =>
    rw [loadV, if_neg hf]
    generalize (faultFrom ms a 1 0 k).1 = fk at K48 hf ⊢
    generalize (faultFrom ms a 1 0 k).2 = fa at K48 ⊢
    have hne : (fk != 0) = true := by simpa using hf
    clear hm hc hf ha K26
    go_enter Try.func21, Try.ntmps21
    go_wp2_with fail
    refine K48.out.mono ?_
    rintro e w1 ⟨rfl, hb1⟩
    obtain ⟨W3, hW3, hb3, _, m0, m1, _, _⟩ := box2 w1 (.int .i64 fk) (.int .u64 (fa : Int)) 39
    have G0 : Free W3 ⟨w.heap.size + 1, 0, none⟩ := (by (repeat (first | with_reducible assumption | with_reducible refine Free.drew ?_ | with_reducible refine Free.alloc ?_ _ | with_reducible refine Free.set ?_ _ _ | with_reducible refine Free.keep (by with_reducible assumption) ?_)))
    have G1 : Free W3 ⟨w.heap.size + 1, 1, none⟩ := (by (repeat (first | with_reducible assumption | with_reducible refine Free.drew ?_ | with_reducible refine Free.alloc ?_ _ | with_reducible refine Free.set ?_ _ _ | with_reducible refine Free.keep (by with_reducible assumption) ?_)))
    have hlt : w.heap.size + 1 < w1.heap.size := by have := hb1.size; omega
    have HLT : Hid (w.heap.size + 1 < w1.heap.size) := hlt
    clear hlt K48
    have q0 := G0.cell
    have q1 := G1.cell
    have q2 := G0.frozen
    have q3 := G1.frozen
    go_wp2
    go_region_held3 (fun w' => Below w.heap.size w w' ∧ w'.cell? ⟨w1.heap.size, 0, none⟩ = some (.int .i64 fk) ∧ w'.cell? ⟨w1.heap.size, 1, none⟩ = some (.int .u64 (fa : Int)) ∧ w'.cell? ⟨w.heap.size + 1, 0, none⟩ = some (cellAt w' ⟨w.heap.size + 1, 0, none⟩) ∧ w'.cell? ⟨w.heap.size + 1, 1, none⟩ = some (cellAt w' ⟨w.heap.size + 1, 1, none⟩) ∧ w'.frozen? ⟨w.heap.size + 1, 0, none⟩ = false ∧ w'.frozen? ⟨w.heap.size + 1, 1, none⟩ = false)
      (refine ⟨?_, ?_, ?_, ?_, ?_, ?_, ?_⟩ <;> first | (with_reducible refine Free.cell ?_; (repeat (first | with_reducible assumption | with_reducible refine Free.drew ?_ | with_reducible refine Free.alloc ?_ _ | with_reducible refine Free.set ?_ _ _ | with_reducible refine Free.keep (by with_reducible assumption) ?_)); done) | (with_reducible refine Free.frozen ?_; (repeat (first | with_reducible assumption | with_reducible refine Free.drew ?_ | with_reducible refine Free.alloc ?_ _ | with_reducible refine Free.set ?_ _ _ | with_reducible refine Free.keep (by with_reducible assumption) ?_)); done) | ((repeat (first | with_reducible assumption | with_reducible exact Below.refl _ _ | with_reducible refine Below.drew ?_ | with_reducible refine below_alloc ?_ _ | (with_reducible refine below_set ?_ ?_ _; rotate_left; focus (first | (simp; done) | (simp; omega))) | with_reducible refine below_tr ?_ (by with_reducible assumption))); done) | ((repeat (first | with_reducible assumption | with_reducible refine cell_drew ?_ | (with_reducible refine cell_far ?_ ?_ _; rotate_left; focus (have := HLT.out; simp; omega)))); done)) (fail)
    all_goals (go_wp2; (try simp only [Exit.inBlock, Exit.then]))
    all_goals obtain ⟨r0, r1⟩ := res2 W3 (w.heap.size + 1) (.int .i64 fk) (.int .u64 (fa : Int)) G0 G1
    all_goals refine bodyPost_ret (v := .tuple #[.int .u64 0, .agg #[.int .i64 fk, .int .u64 (fa : Int)]]) ?_ rfl ⟨rfl, (by (repeat (first | with_reducible assumption | with_reducible exact Below.refl _ _ | with_reducible refine Below.drew ?_ | with_reducible refine below_alloc ?_ _ | (with_reducible refine below_set ?_ ?_ _; rotate_left; focus (first | (simp; done) | (simp; omega))) | with_reducible refine below_tr ?_ (by with_reducible assumption))))⟩
    all_goals (rw [results_tmp_cell rfl]; simp [go_sem, r0, r1])
  rw [loadV, if_pos hf]
  obtain ⟨hf0, hfj⟩ := faultFrom_kind ms a 1 k 0 hf
  have hlast : a + (k - 1) < 18446744073709551616 := faultK_lt ms a (k - 1) 1 (hfj _ (by omega) (by omega))
  rw [hf0] at K48 ⊢
  have HB : Hid (loadB cs (a + 0) (k - 0) = loadN cs a k) := by show _ = _; rw [loadB, if_neg (by omega)]; rfl
  have HST : Hid (∀ r, r < k → loadB cs (a + (r + 1)) (k - (r + 1)) * 256 + peekN cs (a + r) = loadB cs (a + r) (k - r) ∧ loadB cs (a + r) (k - r) < 18446744073709551616 ∧ peekN cs (a + r) < 256) := fun r hr => by
    have h := loadB_step cs hw (a + r) (k - (r + 1)) (by omega)
    rw [show k - (r + 1) + 1 = k - r by omega, show a + r + 1 = a + (r + 1) by omega] at h
    exact ⟨h, loadB_lt cs hw _ _ (by omega), peekN_lt _ _⟩
  have HE : Hid (a + (k - 1) < 18446744073709551616) := hlast
  have HZ : Hid (loadB cs (a + k) (k - k) = 0) := by show _ = _; rw [loadB, if_pos (by omega)]
  clear hm hc hf hfj hf0 hlast ha
  go_enter Try.func21, Try.ntmps21
  go_wp2_with fail
  refine K48.out.mono ?_
  rintro e w1 ⟨rfl, hb1⟩
  have e0 := keep_cell hb1 c0
  have e1 := keep_cell hb1 c1
  go_wp2
  obtain ⟨W3, hW3, hb3, _, _, _, _, _⟩ := box2 w1 (.int .i64 0) (.int .u64 0) 39
  rw [hW3]
  have hbW := below_tr hb1 hb3
  clear e0 e1 K48
  go_loopw [9, 10] (fun v i wr => ∃ r : Nat, r ≤ k ∧ i = .int .i64 ((r : Int) - 1) ∧ v = .int .u64 ((loadB cs (a + r) (k - r) : Nat) : Int) ∧ Below W.heap.size W wr) (fun _ i _ => (intOf i + 1).toNat)
  case atStart => exact ⟨k, Nat.le_refl _, rfl, by rw [HZ.out]; rfl, hbW⟩
  case round =>
    obtain ⟨r, hr, rfl, rfl, hbr⟩ := hrel
    have e0 := keep_cell hbr c0
    have e1 := keep_cell hbr c1
    cases r with
    | zero =>
      have G0 : Free wr ⟨w.heap.size + 1, 0, none⟩ := g0.keep hbr
      have G1 : Free wr ⟨w.heap.size + 1, 1, none⟩ := g1.keep hbr
      have q0 := G0.cell
      have q1 := G1.cell
      have q2 := G0.frozen
      have q3 := G1.frozen
      have hbw := below_tr hb hbr
      rw [HB.out]
      clear HST hbW hb1 hb3 hbr
      go_wp2
      (try simp only [Exit.inBlock, Exit.then])
      obtain ⟨r0, r1⟩ := res2 wr (w.heap.size + 1) (.int .i64 0) (.int .u64 0) G0 G1
      refine bodyPost_ret (v := .tuple #[.int .u64 ((loadN cs a k : Nat) : Int), .agg #[.int .i64 0, .int .u64 0]]) ?_ rfl ⟨rfl, (by (repeat (first | with_reducible assumption | with_reducible exact Below.refl _ _ | with_reducible refine Below.drew ?_ | with_reducible refine below_alloc ?_ _ | (with_reducible refine below_set ?_ ?_ _; rotate_left; focus (first | (simp; done) | (simp; omega))) | with_reducible refine below_tr ?_ (by with_reducible assumption))))⟩
      rw [results_tmp_cell rfl]
      simp [go_sem, r0, r1]
    | succ r =>
      obtain ⟨s1, s2, s3⟩ := HST.out r (by omega)
      obtain ⟨b, hbb⟩ : ∃ b, b = a + r := ⟨_, rfl⟩
      have K := K26.out b wr (by have := HE.out; omega) hbr
      obtain ⟨v0, hv0⟩ : ∃ x, x = loadB cs (a + (r + 1)) (k - (r + 1)) := ⟨_, rfl⟩
      obtain ⟨v1, hv1⟩ : ∃ x, x = loadB cs (a + r) (k - r) := ⟨_, rfl⟩
      rw [← hv0, ← hv1, ← hbb] at s1
      rw [← hv1] at s2
      rw [← hbb] at s3
      rw [← hv0]
      generalize peekN cs b = pb at K s1 s3
      have y1 : ((r + 1 : Nat) : Int) - 1 = (r : Int) := by omega
      rw [y1]
      have y2 : IntKind.u64.wrap (r : Int) = (r : Int) := by rw [IntKind.wrap_u64]; omega
      have y3 : IntKind.u64.wrap ((a : Int) + (r : Int)) = (b : Int) := by have := HE.out; rw [IntKind.wrap_u64]; omega
      have y4 : IntKind.u64.wrap ((v0 : Int) * 256) = ((v0 * 256 : Nat) : Int) := by rw [IntKind.wrap_u64]; omega
      obtain ⟨v2, hv2⟩ : ∃ x, x = v0 * 256 := ⟨_, rfl⟩
      rw [← hv2] at y4
      have y5 : IntKind.u64.wrap ((v2 : Int) + (pb : Int)) = (v1 : Int) := by rw [IntKind.wrap_u64]; omega
      have HV1 : Hid (v1 = loadB cs (a + r) (k - r)) := hv1
      clear s1 s2 hbb hv0 hv1 hv2 hbW hb1 hb3 y1
      go_wp2_with fail
      refine K.mono ?_
      rintro e w4 ⟨rfl, hb4⟩
      have hbx := below_tr hbr hb4
      clear K
      go_wp2
      go_roundw
      case rel => exact ⟨r, by omega, by go_num, by rw [HV1.out], hbx⟩
      case measure => simp [intOf]
set_option maxHeartbeats 2000000 in
theorem rload21_out (x x' : Option Addr) (nm p nc p' : Nat) (a : Nat) (n : Int) (w : World) (hn : n < 1 ∨ 8 < n) :
    Calls Try.prog 21 #[.agg #[.slice x nm p, .slice x' nc p'], .int .u64 (a : Int), .int .i64 n] w fun e w' => e = .returned (.tuple #[.int .u64 0, .agg #[.int .i64 0, .int .u64 0]]) ∧ Below w.heap.size w w' := by
  rcases hn with hn | hn
  · go_enter Try.func21, Try.ntmps21
    go_wp2
    (try simp only [Exit.inBlock, Exit.then])
    refine bodyPost_ret (v := .tuple #[.int .u64 0, .agg #[.int .i64 0, .int .u64 0]]) ?_ rfl ⟨rfl, (by (repeat (first | with_reducible assumption | with_reducible exact Below.refl _ _ | with_reducible refine Below.drew ?_ | with_reducible refine below_alloc ?_ _ | (with_reducible refine below_set ?_ ?_ _; rotate_left; focus (first | (simp; done) | (simp; omega))) | with_reducible refine below_tr ?_ (by with_reducible assumption))))⟩
    rw [results_tmp_cell rfl]; simp [go_sem]
  · go_enter Try.func21, Try.ntmps21
    go_wp2
    (try simp only [Exit.inBlock, Exit.then])
    refine bodyPost_ret (v := .tuple #[.int .u64 0, .agg #[.int .i64 0, .int .u64 0]]) ?_ rfl ⟨rfl, (by (repeat (first | with_reducible assumption | with_reducible exact Below.refl _ _ | with_reducible refine Below.drew ?_ | with_reducible refine below_alloc ?_ _ | (with_reducible refine below_set ?_ ?_ _; rotate_left; focus (first | (simp; done) | (simp; omega))) | with_reducible refine below_tr ?_ (by with_reducible assumption))))⟩
    rw [results_tmp_cell rfl]; simp [go_sem]
end Go.Proofs.Ytolmcbnammhjjaa
