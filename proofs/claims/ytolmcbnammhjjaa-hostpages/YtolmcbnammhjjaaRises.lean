/- What is proved here: does a list rise? -/
import Derived.Test.YtolmcbnammhjjaaHeld
namespace Go.Proofs.Ytolmcbnammhjjaa
open Go.RowKit
set_option linter.unusedVariables false
theorem getD_at' {xs : List (Nat × Int)} {i : Nat} (h : i < xs.length) : xs.getD i (0, 0) = xs[i] := by simp [List.getD, h]
open Classical in
/-- Does a list rise? -/
noncomputable def srtB (xs : List (Nat × Int)) : Bool := decide (∀ i, i < xs.length → 0 < i → (xs.getD (i - 1) (0, 0)).1 < (xs.getD i (0, 0)).1)
set_option maxHeartbeats 2000000 in
theorem rise27 (v : Value) (xs : List (Nat × Int)) (w : World) (hx : Sl .i64 w v xs) :
    Calls Try.prog 27 #[v, .func (.func 28) #[] #[]] w fun e w' => e = .returned (.bool (srtB xs)) ∧ Below w.heap.size w w' := by
  obtain ⟨ao, cap, rfl, x1, x2, _, x4⟩ := hx
  have HX : Hid (∀ i (h : i < xs.length), ∃ b o, ao = some ⟨b, o, none⟩ ∧ w.cell? ⟨b, o + i * 2, none⟩ = some (.int .u64 (xs[i].1 : Int)) ∧ w.cell? ⟨b, o + i * 2 + 1, none⟩ = some (.int .i64 xs[i].2)) := x4
  clear x4
  go_enter Try.func27, Try.ntmps27
  go_wp2
  go_loopw [5] (fun i wr => ∃ k m : Nat, m = k + 1 ∧ i = .int .i64 (m : Int) ∧ (k = 0 ∨ k < xs.length) ∧ (∀ j, j < k → (xs.getD j (0, 0)).1 < (xs.getD (j + 1) (0, 0)).1) ∧ Below w.heap.size w wr) (fun i _ => xs.length - (intOf i).toNat)
  case atStart => exact ⟨0, 1, rfl, rfl, Or.inl rfl, fun j hj => by omega, Below.refl _ _⟩
  case round =>
    obtain ⟨k, m, hmk, rfl, hkl, hno, hbr⟩ := hrel
    have HN : Hid (∀ j, j < k → (xs.getD j (0, 0)).1 < (xs.getD (j + 1) (0, 0)).1) := hno
    clear hno
    by_cases hk1 : k + 1 < xs.length
    · obtain ⟨b, o, rfl, d0, d1⟩ := HX.out k (by omega)
      obtain ⟨b', o', eb, d2, d3⟩ := HX.out (k + 1) hk1
      simp only [Option.some.injEq, Addr.mk.injEq, and_true] at eb
      obtain ⟨rfl, rfl⟩ := eb
      have d0 := keep_cell hbr d0
      have d1 := keep_cell hbr d1
      have d2 := keep_cell hbr d2
      have d3 := keep_cell hbr d3
      have HP : Hid (xs.getD k (0, 0) = xs[k] ∧ xs.getD (k + 1) (0, 0) = xs[k + 1]) := ⟨getD_at' (by omega), getD_at' hk1⟩
      obtain ⟨p0, hp0⟩ : ∃ t, t = xs[k].1 := ⟨_, rfl⟩
      obtain ⟨p1, hp1⟩ : ∃ t, t = xs[k + 1].1 := ⟨_, rfl⟩
      have HPP : Hid (p0 = xs[k].1 ∧ p1 = xs[k + 1].1) := ⟨hp0, hp1⟩
      rw [← hp0] at d0
      rw [← hp1] at d2
      generalize xs[k].2 = r0 at d1
      generalize xs[k + 1].2 = r1 at d3
      clear hp0 hp1 hkl
      have KA : Hid (∀ w', Calls Try.prog 28 #[.agg #[.int .u64 (p0 : Int), .int .i64 r0]] w' fun e w'' => e = .returned (.int .u64 (p0 : Int)) ∧ Below w'.heap.size w' w'') := fun w' => pageOf_any p0 r0 w'
      have KB : Hid (∀ w', Calls Try.prog 28 #[.agg #[.int .u64 (p1 : Int), .int .i64 r1]] w' fun e w'' => e = .returned (.int .u64 (p1 : Int)) ∧ Below w'.heap.size w' w'') := fun w' => pageOf_any p1 r1 w'
      rw [← hmk] at d2 d3
      have y2 : IntKind.i64.wrap ((m : Int) - 1) = (k : Int) := by rw [IntKind.wrap_i64]; omega
      have y1 : (m : Int) - 1 = (k : Int) := by omega
      have y6 : IntKind.i64.wrap (k : Int) = (k : Int) := by rw [IntKind.wrap_i64]; omega
      have y3 : (0 : Int) ≤ (k : Int) := by omega
      have y4 : (k : Int) < (xs.length : Int) := by omega
      have y4' : k < xs.length := by omega
      have y5 : (m : Int) < (xs.length : Int) := by omega
      have HMK : Hid (m = k + 1) := hmk
      clear hmk
      by_cases hlt : p0 < p1
      · have HR : Hid (∀ j, j < k + 1 → (xs.getD j (0, 0)).1 < (xs.getD (j + 1) (0, 0)).1) := fun j hj => by
          by_cases e : j = k
          · subst e; rw [HP.out.1, HP.out.2, ← HPP.out.1, ← HPP.out.2]; exact hlt
          · exact HN.out j (by omega)
        have hge : ¬ (p1 : Int) ≤ (p0 : Int) := by omega
        clear hlt
        go_wp2
        go_region_held3 (fun w' => Below w.heap.size w w' ∧ w'.cell? ⟨b, o + k * 2, none⟩ = some (.int .u64 (p0 : Int)) ∧ w'.cell? ⟨b, o + k * 2 + 1, none⟩ = some (.int .i64 r0) ∧ w'.cell? ⟨b, o + m * 2, none⟩ = some (.int .u64 (p1 : Int)) ∧ w'.cell? ⟨b, o + m * 2 + 1, none⟩ = some (.int .i64 r1)) (refine ⟨?_, ?_, ?_, ?_, ?_⟩ <;> first | (with_reducible refine Free.cell ?_; (repeat (first | with_reducible assumption | with_reducible refine Free.drew ?_ | with_reducible refine Free.alloc ?_ _ | with_reducible refine Free.set ?_ _ _ | with_reducible refine Free.keep (by with_reducible assumption) ?_)); done) | (with_reducible refine Free.frozen ?_; (repeat (first | with_reducible assumption | with_reducible refine Free.drew ?_ | with_reducible refine Free.alloc ?_ _ | with_reducible refine Free.set ?_ _ _ | with_reducible refine Free.keep (by with_reducible assumption) ?_)); done) | ((repeat (first | with_reducible assumption | with_reducible exact Below.refl _ _ | with_reducible refine Below.drew ?_ | with_reducible refine below_alloc ?_ _ | (with_reducible refine below_set ?_ ?_ _; rotate_left; focus (first | (simp; done) | (simp; omega))) | with_reducible refine below_tr ?_ (by with_reducible assumption))); done) | ((repeat (first | with_reducible assumption | with_reducible refine cell_drew ?_ | (with_reducible refine cell_newA _ _ _ _ _ _ ?_ rfl; (simp [*]; done)) | with_reducible refine cell_old ?_ _ | (with_reducible refine cell_far ?_ ?_ _; rotate_left; focus (first | (simp; done) | (simp; omega))) | with_reducible refine keep_cell (by with_reducible assumption) ?_)); done))
    (first | (go_at_call 28; first | (refine (KA.out _).mono ?_; rintro e w' ⟨rfl, hA⟩) | (refine (KB.out _).mono ?_; rintro e w' ⟨rfl, hB⟩)))
        all_goals go_wp2
        go_roundw
        case rel => exact ⟨k + 1, k + 1 + 1, rfl, by have := HMK.out; go_num, Or.inr hk1, HR.out, (by (repeat (first | with_reducible assumption | with_reducible exact Below.refl _ _ | with_reducible refine Below.drew ?_ | with_reducible refine below_alloc ?_ _ | (with_reducible refine below_set ?_ ?_ _; rotate_left; focus (first | (simp; done) | (simp; omega))) | with_reducible refine below_tr ?_ (by with_reducible assumption))))⟩
        case measure => have := HMK.out; simp [intOf]; omega
      · have HR : Hid (srtB xs = false) := by
          show _ = _
          rw [srtB, decide_eq_false]
          intro h
          have := h (k + 1) hk1 (by omega)
          rw [Nat.add_sub_cancel, HP.out.1, HP.out.2, ← HPP.out.1, ← HPP.out.2] at this
          exact hlt this
        have hge : (p1 : Int) ≤ (p0 : Int) := by omega
        clear hlt
        go_wp2
        go_region_held3 (fun w' => Below w.heap.size w w' ∧ w'.cell? ⟨b, o + k * 2, none⟩ = some (.int .u64 (p0 : Int)) ∧ w'.cell? ⟨b, o + k * 2 + 1, none⟩ = some (.int .i64 r0) ∧ w'.cell? ⟨b, o + m * 2, none⟩ = some (.int .u64 (p1 : Int)) ∧ w'.cell? ⟨b, o + m * 2 + 1, none⟩ = some (.int .i64 r1)) (refine ⟨?_, ?_, ?_, ?_, ?_⟩ <;> first | (with_reducible refine Free.cell ?_; (repeat (first | with_reducible assumption | with_reducible refine Free.drew ?_ | with_reducible refine Free.alloc ?_ _ | with_reducible refine Free.set ?_ _ _ | with_reducible refine Free.keep (by with_reducible assumption) ?_)); done) | (with_reducible refine Free.frozen ?_; (repeat (first | with_reducible assumption | with_reducible refine Free.drew ?_ | with_reducible refine Free.alloc ?_ _ | with_reducible refine Free.set ?_ _ _ | with_reducible refine Free.keep (by with_reducible assumption) ?_)); done) | ((repeat (first | with_reducible assumption | with_reducible exact Below.refl _ _ | with_reducible refine Below.drew ?_ | with_reducible refine below_alloc ?_ _ | (with_reducible refine below_set ?_ ?_ _; rotate_left; focus (first | (simp; done) | (simp; omega))) | with_reducible refine below_tr ?_ (by with_reducible assumption))); done) | ((repeat (first | with_reducible assumption | with_reducible refine cell_drew ?_ | (with_reducible refine cell_newA _ _ _ _ _ _ ?_ rfl; (simp [*]; done)) | with_reducible refine cell_old ?_ _ | (with_reducible refine cell_far ?_ ?_ _; rotate_left; focus (first | (simp; done) | (simp; omega))) | with_reducible refine keep_cell (by with_reducible assumption) ?_)); done))
    (first | (go_at_call 28; first | (refine (KA.out _).mono ?_; rintro e w' ⟨rfl, hA⟩) | (refine (KB.out _).mono ?_; rintro e w' ⟨rfl, hB⟩)))
        all_goals go_wp2
        all_goals go_ret
        all_goals exact ⟨by rw [HR.out]; rfl, (by (repeat (first | with_reducible assumption | with_reducible exact Below.refl _ _ | with_reducible refine Below.drew ?_ | with_reducible refine below_alloc ?_ _ | (with_reducible refine below_set ?_ ?_ _; rotate_left; focus (first | (simp; done) | (simp; omega))) | with_reducible refine below_tr ?_ (by with_reducible assumption))))⟩
    · have HR : Hid (srtB xs = true) := by
        show _ = _
        rw [srtB, decide_eq_true_iff]
        intro i hi h0
        have := HN.out (i - 1) (by omega)
        rw [Nat.sub_add_cancel h0] at this
        exact this
      clear hkl
      go_wp2
      go_ret
      exact ⟨by rw [HR.out]; rfl, hbr⟩
set_option maxHeartbeats 2000000 in
theorem rise29 (v : Value) (xs : List (Nat × Int)) (w : World) (hx : Sl .u64 w v xs) :
    Calls Try.prog 29 #[v, .func (.func 30) #[] #[]] w fun e w' => e = .returned (.bool (srtB xs)) ∧ Below w.heap.size w w' := by
  obtain ⟨ao, cap, rfl, x1, x2, _, x4⟩ := hx
  have HX : Hid (∀ i (h : i < xs.length), ∃ b o, ao = some ⟨b, o, none⟩ ∧ w.cell? ⟨b, o + i * 2, none⟩ = some (.int .u64 (xs[i].1 : Int)) ∧ w.cell? ⟨b, o + i * 2 + 1, none⟩ = some (.int .u64 xs[i].2)) := x4
  clear x4
  go_enter Try.func29, Try.ntmps29
  go_wp2
  go_loopw [5] (fun i wr => ∃ k m : Nat, m = k + 1 ∧ i = .int .i64 (m : Int) ∧ (k = 0 ∨ k < xs.length) ∧ (∀ j, j < k → (xs.getD j (0, 0)).1 < (xs.getD (j + 1) (0, 0)).1) ∧ Below w.heap.size w wr) (fun i _ => xs.length - (intOf i).toNat)
  case atStart => exact ⟨0, 1, rfl, rfl, Or.inl rfl, fun j hj => by omega, Below.refl _ _⟩
  case round =>
    obtain ⟨k, m, hmk, rfl, hkl, hno, hbr⟩ := hrel
    have HN : Hid (∀ j, j < k → (xs.getD j (0, 0)).1 < (xs.getD (j + 1) (0, 0)).1) := hno
    clear hno
    by_cases hk1 : k + 1 < xs.length
    · obtain ⟨b, o, rfl, d0, d1⟩ := HX.out k (by omega)
      obtain ⟨b', o', eb, d2, d3⟩ := HX.out (k + 1) hk1
      simp only [Option.some.injEq, Addr.mk.injEq, and_true] at eb
      obtain ⟨rfl, rfl⟩ := eb
      have d0 := keep_cell hbr d0
      have d1 := keep_cell hbr d1
      have d2 := keep_cell hbr d2
      have d3 := keep_cell hbr d3
      have HP : Hid (xs.getD k (0, 0) = xs[k] ∧ xs.getD (k + 1) (0, 0) = xs[k + 1]) := ⟨getD_at' (by omega), getD_at' hk1⟩
      obtain ⟨p0, hp0⟩ : ∃ t, t = xs[k].1 := ⟨_, rfl⟩
      obtain ⟨p1, hp1⟩ : ∃ t, t = xs[k + 1].1 := ⟨_, rfl⟩
      have HPP : Hid (p0 = xs[k].1 ∧ p1 = xs[k + 1].1) := ⟨hp0, hp1⟩
      rw [← hp0] at d0
      rw [← hp1] at d2
      generalize xs[k].2 = r0 at d1
      generalize xs[k + 1].2 = r1 at d3
      clear hp0 hp1 hkl
      have KA : Hid (∀ w', Calls Try.prog 30 #[.agg #[.int .u64 (p0 : Int), .int .u64 r0]] w' fun e w'' => e = .returned (.int .u64 (p0 : Int)) ∧ Below w'.heap.size w' w'') := fun w' => atOf_any p0 r0 w'
      have KB : Hid (∀ w', Calls Try.prog 30 #[.agg #[.int .u64 (p1 : Int), .int .u64 r1]] w' fun e w'' => e = .returned (.int .u64 (p1 : Int)) ∧ Below w'.heap.size w' w'') := fun w' => atOf_any p1 r1 w'
      rw [← hmk] at d2 d3
      have y2 : IntKind.i64.wrap ((m : Int) - 1) = (k : Int) := by rw [IntKind.wrap_i64]; omega
      have y1 : (m : Int) - 1 = (k : Int) := by omega
      have y6 : IntKind.i64.wrap (k : Int) = (k : Int) := by rw [IntKind.wrap_i64]; omega
      have y3 : (0 : Int) ≤ (k : Int) := by omega
      have y4 : (k : Int) < (xs.length : Int) := by omega
      have y4' : k < xs.length := by omega
      have y5 : (m : Int) < (xs.length : Int) := by omega
      have HMK : Hid (m = k + 1) := hmk
      clear hmk
      by_cases hlt : p0 < p1
      · have HR : Hid (∀ j, j < k + 1 → (xs.getD j (0, 0)).1 < (xs.getD (j + 1) (0, 0)).1) := fun j hj => by
          by_cases e : j = k
          · subst e; rw [HP.out.1, HP.out.2, ← HPP.out.1, ← HPP.out.2]; exact hlt
          · exact HN.out j (by omega)
        have hge : ¬ (p1 : Int) ≤ (p0 : Int) := by omega
        clear hlt
        go_wp2
        go_region_held3 (fun w' => Below w.heap.size w w' ∧ w'.cell? ⟨b, o + k * 2, none⟩ = some (.int .u64 (p0 : Int)) ∧ w'.cell? ⟨b, o + k * 2 + 1, none⟩ = some (.int .u64 r0) ∧ w'.cell? ⟨b, o + m * 2, none⟩ = some (.int .u64 (p1 : Int)) ∧ w'.cell? ⟨b, o + m * 2 + 1, none⟩ = some (.int .u64 r1)) (refine ⟨?_, ?_, ?_, ?_, ?_⟩ <;> first | (with_reducible refine Free.cell ?_; (repeat (first | with_reducible assumption | with_reducible refine Free.drew ?_ | with_reducible refine Free.alloc ?_ _ | with_reducible refine Free.set ?_ _ _ | with_reducible refine Free.keep (by with_reducible assumption) ?_)); done) | (with_reducible refine Free.frozen ?_; (repeat (first | with_reducible assumption | with_reducible refine Free.drew ?_ | with_reducible refine Free.alloc ?_ _ | with_reducible refine Free.set ?_ _ _ | with_reducible refine Free.keep (by with_reducible assumption) ?_)); done) | ((repeat (first | with_reducible assumption | with_reducible exact Below.refl _ _ | with_reducible refine Below.drew ?_ | with_reducible refine below_alloc ?_ _ | (with_reducible refine below_set ?_ ?_ _; rotate_left; focus (first | (simp; done) | (simp; omega))) | with_reducible refine below_tr ?_ (by with_reducible assumption))); done) | ((repeat (first | with_reducible assumption | with_reducible refine cell_drew ?_ | (with_reducible refine cell_newA _ _ _ _ _ _ ?_ rfl; (simp [*]; done)) | with_reducible refine cell_old ?_ _ | (with_reducible refine cell_far ?_ ?_ _; rotate_left; focus (first | (simp; done) | (simp; omega))) | with_reducible refine keep_cell (by with_reducible assumption) ?_)); done))
    (first | (go_at_call 30; first | (refine (KA.out _).mono ?_; rintro e w' ⟨rfl, hA⟩) | (refine (KB.out _).mono ?_; rintro e w' ⟨rfl, hB⟩)))
        all_goals go_wp2
        go_roundw
        case rel => exact ⟨k + 1, k + 1 + 1, rfl, by have := HMK.out; go_num, Or.inr hk1, HR.out, (by (repeat (first | with_reducible assumption | with_reducible exact Below.refl _ _ | with_reducible refine Below.drew ?_ | with_reducible refine below_alloc ?_ _ | (with_reducible refine below_set ?_ ?_ _; rotate_left; focus (first | (simp; done) | (simp; omega))) | with_reducible refine below_tr ?_ (by with_reducible assumption))))⟩
        case measure => have := HMK.out; simp [intOf]; omega
      · have HR : Hid (srtB xs = false) := by
          show _ = _
          rw [srtB, decide_eq_false]
          intro h
          have := h (k + 1) hk1 (by omega)
          rw [Nat.add_sub_cancel, HP.out.1, HP.out.2, ← HPP.out.1, ← HPP.out.2] at this
          exact hlt this
        have hge : (p1 : Int) ≤ (p0 : Int) := by omega
        clear hlt
        go_wp2
        go_region_held3 (fun w' => Below w.heap.size w w' ∧ w'.cell? ⟨b, o + k * 2, none⟩ = some (.int .u64 (p0 : Int)) ∧ w'.cell? ⟨b, o + k * 2 + 1, none⟩ = some (.int .u64 r0) ∧ w'.cell? ⟨b, o + m * 2, none⟩ = some (.int .u64 (p1 : Int)) ∧ w'.cell? ⟨b, o + m * 2 + 1, none⟩ = some (.int .u64 r1)) (refine ⟨?_, ?_, ?_, ?_, ?_⟩ <;> first | (with_reducible refine Free.cell ?_; (repeat (first | with_reducible assumption | with_reducible refine Free.drew ?_ | with_reducible refine Free.alloc ?_ _ | with_reducible refine Free.set ?_ _ _ | with_reducible refine Free.keep (by with_reducible assumption) ?_)); done) | (with_reducible refine Free.frozen ?_; (repeat (first | with_reducible assumption | with_reducible refine Free.drew ?_ | with_reducible refine Free.alloc ?_ _ | with_reducible refine Free.set ?_ _ _ | with_reducible refine Free.keep (by with_reducible assumption) ?_)); done) | ((repeat (first | with_reducible assumption | with_reducible exact Below.refl _ _ | with_reducible refine Below.drew ?_ | with_reducible refine below_alloc ?_ _ | (with_reducible refine below_set ?_ ?_ _; rotate_left; focus (first | (simp; done) | (simp; omega))) | with_reducible refine below_tr ?_ (by with_reducible assumption))); done) | ((repeat (first | with_reducible assumption | with_reducible refine cell_drew ?_ | (with_reducible refine cell_newA _ _ _ _ _ _ ?_ rfl; (simp [*]; done)) | with_reducible refine cell_old ?_ _ | (with_reducible refine cell_far ?_ ?_ _; rotate_left; focus (first | (simp; done) | (simp; omega))) | with_reducible refine keep_cell (by with_reducible assumption) ?_)); done))
    (first | (go_at_call 30; first | (refine (KA.out _).mono ?_; rintro e w' ⟨rfl, hA⟩) | (refine (KB.out _).mono ?_; rintro e w' ⟨rfl, hB⟩)))
        all_goals go_wp2
        all_goals go_ret
        all_goals exact ⟨by rw [HR.out]; rfl, (by (repeat (first | with_reducible assumption | with_reducible exact Below.refl _ _ | with_reducible refine Below.drew ?_ | with_reducible refine below_alloc ?_ _ | (with_reducible refine below_set ?_ ?_ _; rotate_left; focus (first | (simp; done) | (simp; omega))) | with_reducible refine below_tr ?_ (by with_reducible assumption))))⟩
    · have HR : Hid (srtB xs = true) := by
        show _ = _
        rw [srtB, decide_eq_true_iff]
        intro i hi h0
        have := HN.out (i - 1) (by omega)
        rw [Nat.sub_add_cancel h0] at this
        exact this
      clear hkl
      go_wp2
      go_ret
      exact ⟨by rw [HR.out]; rfl, hbr⟩
end Go.Proofs.Ytolmcbnammhjjaa
