/- What is proved here: does a list rise? -/
import Derived.Test.YtpaanfeleeomnaaHeld
import Derived.Test.YtpaanfeleeomnaaPlain
import Derived.Test.YtpaanfeleeomnaaEqual
namespace Go.Proofs.Ytpaanfeleeomnaa
open Go.RowKit
set_option maxRecDepth 100000
set_option linter.unusedVariables false
theorem getD_at' {xs : List (Nat × Int)} {i : Nat} (h : i < xs.length) : xs.getD i (0, 0) = xs[i] := by simp [List.getD, h]
open Classical in
/-- Does a list rise? -/
noncomputable def srtB (xs : List (Nat × Int)) : Bool := decide (∀ i, i < xs.length → 0 < i → (xs.getD (i - 1) (0, 0)).1 < (xs.getD i (0, 0)).1)
set_option maxHeartbeats 2000000 in
theorem rise27 (v : Value) (xs : List (Nat × Int)) (w : World) (hx : Sl .i64 w v xs) :
    Calls Try.prog 52 #[v, .func (.func 53) #[] #[]] w fun e w' => e = .returned (.bool (srtB xs)) ∧ Below w.heap.size w w' := by
  obtain ⟨ao, cap, rfl, x1, x2, _, x4⟩ := hx
  have HX : Hid (∀ i (h : i < xs.length), ∃ b o, ao = some ⟨b, o, none⟩ ∧ w.cell? ⟨b, o + i * 2, none⟩ = some (.int .u64 (xs[i].1 : Int)) ∧ w.cell? ⟨b, o + i * 2 + 1, none⟩ = some (.int .i64 xs[i].2)) := x4
  clear x4
  go_enter Try.func52, Try.ntmps52
  go_wp2
  go_loopw [5] (fun i wr => ∃ k m : Nat, m = k + 1 ∧ i = .int .i64 (m : Int) ∧ (k = 0 ∨ k < xs.length) ∧ (∀ j, j < k → (xs.getD j (0, 0)).1 < (xs.getD (j + 1) (0, 0)).1) ∧ Below w.heap.size w wr) (fun i _ => xs.length - (intOf i).toNat)
  case atStart => exact ⟨0, 1, rfl, rfl, Or.inl rfl, fun j hj => by omega, Below.refl _ _⟩
  case round =>
    obtain ⟨k, m, hmk, rfl, hkl, hno, hbr⟩ := hrel
    have HN : Hid (∀ j, j < k → (xs.getD j (0, 0)).1 < (xs.getD (j + 1) (0, 0)).1) := hno
    clear hno
    by_cases hk1 : k + 1 < xs.length
    · obtain ⟨b, o, rfl, d0, d1⟩ := HX.out k (by omega)
      obtain ⟨b', o', eb, d2, d3⟩ := HX.out (k + 1) hk1
      simp only [Option.some.injEq, Addr.mk.injEq, and_true] at eb
      obtain ⟨rfl, rfl⟩ := eb
      have d0 := keep_cell hbr d0
      have d1 := keep_cell hbr d1
      have d2 := keep_cell hbr d2
      have d3 := keep_cell hbr d3
      have HP : Hid (xs.getD k (0, 0) = xs[k] ∧ xs.getD (k + 1) (0, 0) = xs[k + 1]) := ⟨getD_at' (by omega), getD_at' hk1⟩
      obtain ⟨p0, hp0⟩ : ∃ t, t = xs[k].1 := ⟨_, rfl⟩
      obtain ⟨p1, hp1⟩ : ∃ t, t = xs[k + 1].1 := ⟨_, rfl⟩
      have HPP : Hid (p0 = xs[k].1 ∧ p1 = xs[k + 1].1) := ⟨hp0, hp1⟩
      rw [← hp0] at d0
      rw [← hp1] at d2
      generalize xs[k].2 = r0 at d1
      generalize xs[k + 1].2 = r1 at d3
      clear hp0 hp1 hkl
      have KA : Hid (∀ w', Calls Try.prog 53 #[.agg #[.int .u64 (p0 : Int), .int .i64 r0]] w' fun e w'' => e = .returned (.int .u64 (p0 : Int)) ∧ Below w'.heap.size w' w'') := fun w' => pageOf_any p0 r0 w'
      have KB : Hid (∀ w', Calls Try.prog 53 #[.agg #[.int .u64 (p1 : Int), .int .i64 r1]] w' fun e w'' => e = .returned (.int .u64 (p1 : Int)) ∧ Below w'.heap.size w' w'') := fun w' => pageOf_any p1 r1 w'
      rw [← hmk] at d2 d3
      have y2 : IntKind.i64.wrap ((m : Int) - 1) = (k : Int) := by rw [IntKind.wrap_i64]; omega
      have y1 : (m : Int) - 1 = (k : Int) := by omega
      have y6 : IntKind.i64.wrap (k : Int) = (k : Int) := by rw [IntKind.wrap_i64]; omega
      have y3 : (0 : Int) ≤ (k : Int) := by omega
      have y4 : (k : Int) < (xs.length : Int) := by omega
      have y4' : k < xs.length := by omega
      have y5 : (m : Int) < (xs.length : Int) := by omega
      have HMK : Hid (m = k + 1) := hmk
      clear hmk
      by_cases hlt : p0 < p1
      · have HR : Hid (∀ j, j < k + 1 → (xs.getD j (0, 0)).1 < (xs.getD (j + 1) (0, 0)).1) := fun j hj => by
          by_cases e : j = k
          · subst e; rw [HP.out.1, HP.out.2, ← HPP.out.1, ← HPP.out.2]; exact hlt
          · exact HN.out j (by omega)
        have hge : ¬ (p1 : Int) ≤ (p0 : Int) := by omega
        clear hlt
        go_wp2
        go_region_held3 (fun w' => Below w.heap.size w w' ∧ w'.cell? ⟨b, o + k * 2, none⟩ = some (.int .u64 (p0 : Int)) ∧ w'.cell? ⟨b, o + k * 2 + 1, none⟩ = some (.int .i64 r0) ∧ w'.cell? ⟨b, o + m * 2, none⟩ = some (.int .u64 (p1 : Int)) ∧ w'.cell? ⟨b, o + m * 2 + 1, none⟩ = some (.int .i64 r1)) (refine ⟨?_, ?_, ?_, ?_, ?_⟩ <;> first | (with_reducible refine Free.cell ?_; (repeat (first | with_reducible assumption | with_reducible refine Free.drew ?_ | with_reducible refine Free.alloc ?_ _ | with_reducible refine Free.set ?_ _ _ | with_reducible refine Free.keep (by with_reducible assumption) ?_)); done) | (with_reducible refine Free.frozen ?_; (repeat (first | with_reducible assumption | with_reducible refine Free.drew ?_ | with_reducible refine Free.alloc ?_ _ | with_reducible refine Free.set ?_ _ _ | with_reducible refine Free.keep (by with_reducible assumption) ?_)); done) | ((repeat (first | with_reducible assumption | with_reducible exact Below.refl _ _ | with_reducible refine Below.drew ?_ | with_reducible refine below_alloc ?_ _ | (with_reducible refine below_set ?_ ?_ _; rotate_left; focus (first | (simp; done) | (simp; omega))) | with_reducible refine below_tr ?_ (by with_reducible assumption))); done) | ((repeat (first | with_reducible assumption | with_reducible refine cell_drew ?_ | (with_reducible refine cell_newA _ _ _ _ _ _ ?_ rfl; (simp [*]; done)) | with_reducible refine cell_old ?_ _ | (with_reducible refine cell_far ?_ ?_ _; rotate_left; focus (first | (simp; done) | (simp; omega))) | with_reducible refine keep_cell (by with_reducible assumption) ?_)); done))
    (first | (go_at_call 53; first | (refine (KA.out _).mono ?_; rintro e w' ⟨rfl, hA⟩) | (refine (KB.out _).mono ?_; rintro e w' ⟨rfl, hB⟩)))
        all_goals go_wp2
        go_roundw
        case rel => exact ⟨k + 1, k + 1 + 1, rfl, by have := HMK.out; go_num, Or.inr hk1, HR.out, (by (repeat (first | with_reducible assumption | with_reducible exact Below.refl _ _ | with_reducible refine Below.drew ?_ | with_reducible refine below_alloc ?_ _ | (with_reducible refine below_set ?_ ?_ _; rotate_left; focus (first | (simp; done) | (simp; omega))) | with_reducible refine below_tr ?_ (by with_reducible assumption))))⟩
        case measure => have := HMK.out; simp [intOf]; omega
      · have HR : Hid (srtB xs = false) := by
          show _ = _
          rw [srtB, decide_eq_false]
          intro h
          have := h (k + 1) hk1 (by omega)
          rw [Nat.add_sub_cancel, HP.out.1, HP.out.2, ← HPP.out.1, ← HPP.out.2] at this
          exact hlt this
        have hge : (p1 : Int) ≤ (p0 : Int) := by omega
        clear hlt
        go_wp2
        go_region_held3 (fun w' => Below w.heap.size w w' ∧ w'.cell? ⟨b, o + k * 2, none⟩ = some (.int .u64 (p0 : Int)) ∧ w'.cell? ⟨b, o + k * 2 + 1, none⟩ = some (.int .i64 r0) ∧ w'.cell? ⟨b, o + m * 2, none⟩ = some (.int .u64 (p1 : Int)) ∧ w'.cell? ⟨b, o + m * 2 + 1, none⟩ = some (.int .i64 r1)) (refine ⟨?_, ?_, ?_, ?_, ?_⟩ <;> first | (with_reducible refine Free.cell ?_; (repeat (first | with_reducible assumption | with_reducible refine Free.drew ?_ | with_reducible refine Free.alloc ?_ _ | with_reducible refine Free.set ?_ _ _ | with_reducible refine Free.keep (by with_reducible assumption) ?_)); done) | (with_reducible refine Free.frozen ?_; (repeat (first | with_reducible assumption | with_reducible refine Free.drew ?_ | with_reducible refine Free.alloc ?_ _ | with_reducible refine Free.set ?_ _ _ | with_reducible refine Free.keep (by with_reducible assumption) ?_)); done) | ((repeat (first | with_reducible assumption | with_reducible exact Below.refl _ _ | with_reducible refine Below.drew ?_ | with_reducible refine below_alloc ?_ _ | (with_reducible refine below_set ?_ ?_ _; rotate_left; focus (first | (simp; done) | (simp; omega))) | with_reducible refine below_tr ?_ (by with_reducible assumption))); done) | ((repeat (first | with_reducible assumption | with_reducible refine cell_drew ?_ | (with_reducible refine cell_newA _ _ _ _ _ _ ?_ rfl; (simp [*]; done)) | with_reducible refine cell_old ?_ _ | (with_reducible refine cell_far ?_ ?_ _; rotate_left; focus (first | (simp; done) | (simp; omega))) | with_reducible refine keep_cell (by with_reducible assumption) ?_)); done))
    (first | (go_at_call 53; first | (refine (KA.out _).mono ?_; rintro e w' ⟨rfl, hA⟩) | (refine (KB.out _).mono ?_; rintro e w' ⟨rfl, hB⟩)))
        all_goals go_wp2
        all_goals go_ret
        all_goals exact ⟨by rw [HR.out]; rfl, (by (repeat (first | with_reducible assumption | with_reducible exact Below.refl _ _ | with_reducible refine Below.drew ?_ | with_reducible refine below_alloc ?_ _ | (with_reducible refine below_set ?_ ?_ _; rotate_left; focus (first | (simp; done) | (simp; omega))) | with_reducible refine below_tr ?_ (by with_reducible assumption))))⟩
    · have HR : Hid (srtB xs = true) := by
        show _ = _
        rw [srtB, decide_eq_true_iff]
        intro i hi h0
        have := HN.out (i - 1) (by omega)
        rw [Nat.sub_add_cancel h0] at this
        exact this
      clear hkl
      go_wp2
      go_ret
      exact ⟨by rw [HR.out]; rfl, hbr⟩
set_option maxHeartbeats 2000000 in
theorem rise29 (v : Value) (xs : List (Nat × Int)) (w : World) (hx : Sl .u64 w v xs) :
    Calls Try.prog 54 #[v, .func (.func 55) #[] #[]] w fun e w' => e = .returned (.bool (srtB xs)) ∧ Below w.heap.size w w' := by
  obtain ⟨ao, cap, rfl, x1, x2, _, x4⟩ := hx
  have HX : Hid (∀ i (h : i < xs.length), ∃ b o, ao = some ⟨b, o, none⟩ ∧ w.cell? ⟨b, o + i * 2, none⟩ = some (.int .u64 (xs[i].1 : Int)) ∧ w.cell? ⟨b, o + i * 2 + 1, none⟩ = some (.int .u64 xs[i].2)) := x4
  clear x4
  go_enter Try.func54, Try.ntmps54
  go_wp2
  go_loopw [5] (fun i wr => ∃ k m : Nat, m = k + 1 ∧ i = .int .i64 (m : Int) ∧ (k = 0 ∨ k < xs.length) ∧ (∀ j, j < k → (xs.getD j (0, 0)).1 < (xs.getD (j + 1) (0, 0)).1) ∧ Below w.heap.size w wr) (fun i _ => xs.length - (intOf i).toNat)
  case atStart => exact ⟨0, 1, rfl, rfl, Or.inl rfl, fun j hj => by omega, Below.refl _ _⟩
  case round =>
    obtain ⟨k, m, hmk, rfl, hkl, hno, hbr⟩ := hrel
    have HN : Hid (∀ j, j < k → (xs.getD j (0, 0)).1 < (xs.getD (j + 1) (0, 0)).1) := hno
    clear hno
    by_cases hk1 : k + 1 < xs.length
    · obtain ⟨b, o, rfl, d0, d1⟩ := HX.out k (by omega)
      obtain ⟨b', o', eb, d2, d3⟩ := HX.out (k + 1) hk1
      simp only [Option.some.injEq, Addr.mk.injEq, and_true] at eb
      obtain ⟨rfl, rfl⟩ := eb
      have d0 := keep_cell hbr d0
      have d1 := keep_cell hbr d1
      have d2 := keep_cell hbr d2
      have d3 := keep_cell hbr d3
      have HP : Hid (xs.getD k (0, 0) = xs[k] ∧ xs.getD (k + 1) (0, 0) = xs[k + 1]) := ⟨getD_at' (by omega), getD_at' hk1⟩
      obtain ⟨p0, hp0⟩ : ∃ t, t = xs[k].1 := ⟨_, rfl⟩
      obtain ⟨p1, hp1⟩ : ∃ t, t = xs[k + 1].1 := ⟨_, rfl⟩
      have HPP : Hid (p0 = xs[k].1 ∧ p1 = xs[k + 1].1) := ⟨hp0, hp1⟩
      rw [← hp0] at d0
      rw [← hp1] at d2
      generalize xs[k].2 = r0 at d1
      generalize xs[k + 1].2 = r1 at d3
      clear hp0 hp1 hkl
      have KA : Hid (∀ w', Calls Try.prog 55 #[.agg #[.int .u64 (p0 : Int), .int .u64 r0]] w' fun e w'' => e = .returned (.int .u64 (p0 : Int)) ∧ Below w'.heap.size w' w'') := fun w' => atOf_any p0 r0 w'
      have KB : Hid (∀ w', Calls Try.prog 55 #[.agg #[.int .u64 (p1 : Int), .int .u64 r1]] w' fun e w'' => e = .returned (.int .u64 (p1 : Int)) ∧ Below w'.heap.size w' w'') := fun w' => atOf_any p1 r1 w'
      rw [← hmk] at d2 d3
      have y2 : IntKind.i64.wrap ((m : Int) - 1) = (k : Int) := by rw [IntKind.wrap_i64]; omega
      have y1 : (m : Int) - 1 = (k : Int) := by omega
      have y6 : IntKind.i64.wrap (k : Int) = (k : Int) := by rw [IntKind.wrap_i64]; omega
      have y3 : (0 : Int) ≤ (k : Int) := by omega
      have y4 : (k : Int) < (xs.length : Int) := by omega
      have y4' : k < xs.length := by omega
      have y5 : (m : Int) < (xs.length : Int) := by omega
      have HMK : Hid (m = k + 1) := hmk
      clear hmk
      by_cases hlt : p0 < p1
      · have HR : Hid (∀ j, j < k + 1 → (xs.getD j (0, 0)).1 < (xs.getD (j + 1) (0, 0)).1) := fun j hj => by
          by_cases e : j = k
          · subst e; rw [HP.out.1, HP.out.2, ← HPP.out.1, ← HPP.out.2]; exact hlt
          · exact HN.out j (by omega)
        have hge : ¬ (p1 : Int) ≤ (p0 : Int) := by omega
        clear hlt
        go_wp2
        go_region_held3 (fun w' => Below w.heap.size w w' ∧ w'.cell? ⟨b, o + k * 2, none⟩ = some (.int .u64 (p0 : Int)) ∧ w'.cell? ⟨b, o + k * 2 + 1, none⟩ = some (.int .u64 r0) ∧ w'.cell? ⟨b, o + m * 2, none⟩ = some (.int .u64 (p1 : Int)) ∧ w'.cell? ⟨b, o + m * 2 + 1, none⟩ = some (.int .u64 r1)) (refine ⟨?_, ?_, ?_, ?_, ?_⟩ <;> first | (with_reducible refine Free.cell ?_; (repeat (first | with_reducible assumption | with_reducible refine Free.drew ?_ | with_reducible refine Free.alloc ?_ _ | with_reducible refine Free.set ?_ _ _ | with_reducible refine Free.keep (by with_reducible assumption) ?_)); done) | (with_reducible refine Free.frozen ?_; (repeat (first | with_reducible assumption | with_reducible refine Free.drew ?_ | with_reducible refine Free.alloc ?_ _ | with_reducible refine Free.set ?_ _ _ | with_reducible refine Free.keep (by with_reducible assumption) ?_)); done) | ((repeat (first | with_reducible assumption | with_reducible exact Below.refl _ _ | with_reducible refine Below.drew ?_ | with_reducible refine below_alloc ?_ _ | (with_reducible refine below_set ?_ ?_ _; rotate_left; focus (first | (simp; done) | (simp; omega))) | with_reducible refine below_tr ?_ (by with_reducible assumption))); done) | ((repeat (first | with_reducible assumption | with_reducible refine cell_drew ?_ | (with_reducible refine cell_newA _ _ _ _ _ _ ?_ rfl; (simp [*]; done)) | with_reducible refine cell_old ?_ _ | (with_reducible refine cell_far ?_ ?_ _; rotate_left; focus (first | (simp; done) | (simp; omega))) | with_reducible refine keep_cell (by with_reducible assumption) ?_)); done))
    (first | (go_at_call 55; first | (refine (KA.out _).mono ?_; rintro e w' ⟨rfl, hA⟩) | (refine (KB.out _).mono ?_; rintro e w' ⟨rfl, hB⟩)))
        all_goals go_wp2
        go_roundw
        case rel => exact ⟨k + 1, k + 1 + 1, rfl, by have := HMK.out; go_num, Or.inr hk1, HR.out, (by (repeat (first | with_reducible assumption | with_reducible exact Below.refl _ _ | with_reducible refine Below.drew ?_ | with_reducible refine below_alloc ?_ _ | (with_reducible refine below_set ?_ ?_ _; rotate_left; focus (first | (simp; done) | (simp; omega))) | with_reducible refine below_tr ?_ (by with_reducible assumption))))⟩
        case measure => have := HMK.out; simp [intOf]; omega
      · have HR : Hid (srtB xs = false) := by
          show _ = _
          rw [srtB, decide_eq_false]
          intro h
          have := h (k + 1) hk1 (by omega)
          rw [Nat.add_sub_cancel, HP.out.1, HP.out.2, ← HPP.out.1, ← HPP.out.2] at this
          exact hlt this
        have hge : (p1 : Int) ≤ (p0 : Int) := by omega
        clear hlt
        go_wp2
        go_region_held3 (fun w' => Below w.heap.size w w' ∧ w'.cell? ⟨b, o + k * 2, none⟩ = some (.int .u64 (p0 : Int)) ∧ w'.cell? ⟨b, o + k * 2 + 1, none⟩ = some (.int .u64 r0) ∧ w'.cell? ⟨b, o + m * 2, none⟩ = some (.int .u64 (p1 : Int)) ∧ w'.cell? ⟨b, o + m * 2 + 1, none⟩ = some (.int .u64 r1)) (refine ⟨?_, ?_, ?_, ?_, ?_⟩ <;> first | (with_reducible refine Free.cell ?_; (repeat (first | with_reducible assumption | with_reducible refine Free.drew ?_ | with_reducible refine Free.alloc ?_ _ | with_reducible refine Free.set ?_ _ _ | with_reducible refine Free.keep (by with_reducible assumption) ?_)); done) | (with_reducible refine Free.frozen ?_; (repeat (first | with_reducible assumption | with_reducible refine Free.drew ?_ | with_reducible refine Free.alloc ?_ _ | with_reducible refine Free.set ?_ _ _ | with_reducible refine Free.keep (by with_reducible assumption) ?_)); done) | ((repeat (first | with_reducible assumption | with_reducible exact Below.refl _ _ | with_reducible refine Below.drew ?_ | with_reducible refine below_alloc ?_ _ | (with_reducible refine below_set ?_ ?_ _; rotate_left; focus (first | (simp; done) | (simp; omega))) | with_reducible refine below_tr ?_ (by with_reducible assumption))); done) | ((repeat (first | with_reducible assumption | with_reducible refine cell_drew ?_ | (with_reducible refine cell_newA _ _ _ _ _ _ ?_ rfl; (simp [*]; done)) | with_reducible refine cell_old ?_ _ | (with_reducible refine cell_far ?_ ?_ _; rotate_left; focus (first | (simp; done) | (simp; omega))) | with_reducible refine keep_cell (by with_reducible assumption) ?_)); done))
    (first | (go_at_call 55; first | (refine (KA.out _).mono ?_; rintro e w' ⟨rfl, hA⟩) | (refine (KB.out _).mono ?_; rintro e w' ⟨rfl, hB⟩)))
        all_goals go_wp2
        all_goals go_ret
        all_goals exact ⟨by rw [HR.out]; rfl, (by (repeat (first | with_reducible assumption | with_reducible exact Below.refl _ _ | with_reducible refine Below.drew ?_ | with_reducible refine below_alloc ?_ _ | (with_reducible refine below_set ?_ ?_ _; rotate_left; focus (first | (simp; done) | (simp; omega))) | with_reducible refine below_tr ?_ (by with_reducible assumption))))⟩
    · have HR : Hid (srtB xs = true) := by
        show _ = _
        rw [srtB, decide_eq_true_iff]
        intro i hi h0
        have := HN.out (i - 1) (by omega)
        rw [Nat.sub_add_cancel h0] at this
        exact this
      clear hkl
      go_wp2
      go_ret
      exact ⟨by rw [HR.out]; rfl, hbr⟩
end Go.Proofs.Ytpaanfeleeomnaa
namespace Go.Proofs.Ytpaanfeleeomnaa
open Go.RowKit
set_option maxRecDepth 100000
set_option linter.unusedVariables false
theorem srtB_yes {xs : List (Nat × Int)} (h : srtB xs = true) : Srt xs := by
  rw [srtB, decide_eq_true_iff] at h
  exact srt_of (fun i hi h0 => h i hi h0)
theorem srtB_no {xs : List (Nat × Int)} (h : srtB xs = false) : ¬ Srt xs := by
  intro hs
  rw [srtB, decide_eq_false_iff_not] at h
  exact h (fun i hi h0 => srt_get hs i hi h0)
theorem fitB_nq {ms cs : List (Nat × Int)} (h : ¬ FitQ ms cs) : fitB ms cs = false := fitB_no (fun c => h (fitP_iff.1 c))
theorem mid_ne {ms : List (Nat × Int)} {p : Nat} : (!(mid ms p p).isEmpty) = true ↔ ∃ x ∈ ms, x.1 = p := by
  constructor
  · intro h
    cases hm : mid ms p p with
    | nil => rw [hm] at h; simp at h
    | cons x l =>
      have : x ∈ mid ms p p := by rw [hm]; simp
      obtain ⟨h1, h2, h3⟩ := mid_mem.1 this
      exact ⟨x, h1, by omega⟩
  · rintro ⟨x, hx, e⟩
    have : x ∈ mid ms p p := mid_mem.2 ⟨hx, by omega, by omega⟩
    cases hm : mid ms p p with
    | nil => rw [hm] at this; simp at this
    | cons y l => simp
set_option maxHeartbeats 4000000 in
set_option maxRecDepth 100000 in
theorem fit9 (vm vc : Value) (ms cs : List (Nat × Int)) (w : World) (hm : Sl .i64 w vm ms) (hc : Sl .u64 w vc cs) (hrc : ∀ y ∈ cs, y.1 < 18446744073709551616) :
    Calls Try.prog 28 #[.agg #[vm, vc]] w fun e w' => e = .returned (.bool (fitB ms cs)) ∧ Below w.heap.size w w' := by
  obtain ⟨W, hW, hb, hsz, c0, c1, _, _⟩ := box2 w vm vc 25
  obtain ⟨am, pm, rfl, x1, x2, x4⟩ : ∃ ao cap, vm = .slice ao ms.length cap ∧ ms.length ≤ cap ∧ cap ≤ 9223372036854775807 ∧ ∀ i (h : i < ms.length), ∃ b o, ao = some ⟨b, o, none⟩ ∧ W.cell? ⟨b, o + i * 2, none⟩ = some (.int .u64 (ms[i].1 : Int)) ∧ W.cell? ⟨b, o + i * 2 + 1, none⟩ = some (.int .i64 ms[i].2) := by
    obtain ⟨ao, cap, e, q1, q2, _, q4⟩ := hm.keep hb
    exact ⟨ao, cap, e, q1, q2, q4⟩
  obtain ⟨ac, pc, rfl, z1, z2, z4⟩ : ∃ ao cap, vc = .slice ao cs.length cap ∧ cs.length ≤ cap ∧ cap ≤ 9223372036854775807 ∧ ∀ i (h : i < cs.length), ∃ b o, ao = some ⟨b, o, none⟩ ∧ W.cell? ⟨b, o + i * 2, none⟩ = some (.int .u64 (cs[i].1 : Int)) ∧ W.cell? ⟨b, o + i * 2 + 1, none⟩ = some (.int .u64 cs[i].2) := by
    obtain ⟨ao, cap, e, q1, q2, _, q4⟩ := hc.keep hb
    exact ⟨ao, cap, e, q1, q2, q4⟩
  have HXM : Hid (∀ i (h : i < ms.length), ∃ b o, am = some ⟨b, o, none⟩ ∧ W.cell? ⟨b, o + i * 2, none⟩ = some (.int .u64 (ms[i].1 : Int)) ∧ W.cell? ⟨b, o + i * 2 + 1, none⟩ = some (.int .i64 ms[i].2)) := x4
  have HXC : Hid (∀ i (h : i < cs.length), ∃ b o, ac = some ⟨b, o, none⟩ ∧ W.cell? ⟨b, o + i * 2, none⟩ = some (.int .u64 (cs[i].1 : Int)) ∧ W.cell? ⟨b, o + i * 2 + 1, none⟩ = some (.int .u64 cs[i].2)) := z4
  have K27 : Hid (∀ w', Below W.heap.size W w' → Calls Try.prog 52 #[.slice am ms.length pm, .func (.func 53) #[] #[]] w' fun e w'' => e = .returned (.bool (srtB ms)) ∧ Below w'.heap.size w' w'') := fun w' h => rise27 _ ms w' (hm.keep (below_tr hb h))
  have K29 : Hid (∀ w', Below W.heap.size W w' → Calls Try.prog 54 #[.slice ac cs.length pc, .func (.func 55) #[] #[]] w' fun e w'' => e = .returned (.bool (srtB cs)) ∧ Below w'.heap.size w' w'') := fun w' h => rise29 _ cs w' (hc.keep (below_tr hb h))
  have HRC : Hid (∀ y ∈ cs, y.1 < 18446744073709551616) := hrc
  have HSM : Hid (Sl .i64 w (.slice am ms.length pm) ms) := hm
  obtain ⟨F, hF⟩ : ∃ F, F = fitB ms cs := ⟨_, rfl⟩
  rw [← hF]
  have HF : Hid (F = fitB ms cs) := hF
  clear x4 z4 hm hc hrc hF
  by_cases h64 : 64 < ms.length
  · have HR : Hid (F = false) := by show _ = _; rw [HF.out]; exact fitB_nq (fun q => by have := q.1; omega)
    go_enter Try.func28, Try.ntmps28
    go_wp2
    go_ret
    exact ⟨by rw [HR.out]; rfl, hb⟩
  by_cases h65 : 65536 < cs.length
  · have HR : Hid (F = false) := by show _ = _; rw [HF.out]; exact fitB_nq (fun q => by have := q.2.1; omega)
    go_enter Try.func28, Try.ntmps28
    go_wp2
    go_ret
    exact ⟨by rw [HR.out]; rfl, hb⟩
  cases hsm : srtB ms with
  | false =>
    have HR : Hid (F = false) := by show _ = _; rw [HF.out]; exact fitB_nq (fun q => srtB_no hsm q.2.2.1)
    rw [hsm] at K27
    clear hsm
    go_enter Try.func28, Try.ntmps28
    go_wp2_with fail
    refine (K27.out W (Below.refl _ _)).mono ?_
    rintro e w1 ⟨rfl, hb1⟩
    go_wp2
    go_ret
    exact ⟨by rw [HR.out]; rfl, below_tr hb hb1⟩
  | true =>
  cases hsc : srtB cs with
  | false =>
    have HR : Hid (F = false) := by show _ = _; rw [HF.out]; exact fitB_nq (fun q => srtB_no hsc q.2.2.2.1)
    rw [hsm] at K27
    rw [hsc] at K29
    clear hsm hsc
    go_enter Try.func28, Try.ntmps28
    go_wp2_with fail
    refine (K27.out W (Below.refl _ _)).mono ?_
    rintro e w1 ⟨rfl, hb1⟩
    have e1 := keep_cell hb1 c1
    go_wp2_with fail
    refine (K29.out w1 hb1).mono ?_
    rintro e w2 ⟨rfl, hb2⟩
    go_wp2
    go_ret
    exact ⟨by rw [HR.out]; rfl, below_tr (below_tr hb hb1) hb2⟩
  | true =>
  have HSS : Hid (Srt ms ∧ Srt cs ∧ ms.length ≤ 64 ∧ cs.length ≤ 65536) := ⟨srtB_yes hsm, srtB_yes hsc, by omega, by omega⟩
  rw [hsm] at K27
  rw [hsc] at K29
  have K32 : Hid (∀ (pg : Nat) w', Below W.heap.size W w' → Calls Try.prog 57 #[.slice am ms.length pm, .func (.func 53) #[] #[], .int .u64 (pg : Int)] w' fun e w'' => e = .returned (.tuple #[.agg #[.int .u64 (((mid ms pg pg).headD (0, 0)).1 : Int), .int .i64 ((mid ms pg pg).headD (0, 0)).2], .bool (!(mid ms pg pg).isEmpty)]) ∧ Below w'.heap.size w' w'') := fun pg w' h => found32s _ ms pg w' (HSM.out.keep (below_tr hb h)) HSS.out.1 (by have := HSS.out.2.2.1; omega)
  clear hsm hsc
  go_enter Try.func28, Try.ntmps28
  go_wp2_with fail
  refine (K27.out W (Below.refl _ _)).mono ?_
  rintro e w1 ⟨rfl, hb1⟩
  have e0 := keep_cell hb1 c0
  have e1 := keep_cell hb1 c1
  go_wp2_with fail
  refine (K29.out w1 hb1).mono ?_
  rintro e w2 ⟨rfl, hb2⟩
  have hbW := below_tr hb1 hb2
  have e0 := keep_cell hb2 e0
  have e1 := keep_cell hb2 e1
  clear hb1 hb2 K27 K29
  go_wp2
  go_loopw [34] (fun i wr => ∃ k : Nat, k ≤ ms.length ∧ i = .int .i64 (k : Int) ∧ (∀ j (h : j < ms.length), j < k → ms[j].1 < 1125899906842624 ∧ 0 ≤ ms[j].2 ∧ ms[j].2 ≤ 7) ∧ Below W.heap.size W wr) (fun i _ => ms.length - (intOf i).toNat)
  case atStart => exact ⟨0, Nat.zero_le _, rfl, fun j h h0 => by omega, hbW⟩
  case round =>
    clear hbW e0 e1
    obtain ⟨k, hk, rfl, hno, hbr⟩ := hrel
    have HN : Hid (∀ j (h : j < ms.length), j < k → ms[j].1 < 1125899906842624 ∧ 0 ≤ ms[j].2 ∧ ms[j].2 ≤ 7) := hno
    clear hno
    have e0 := keep_cell hbr c0
    have e1 := keep_cell hbr c1
    by_cases hkl : k < ms.length
    · obtain ⟨b, o, rfl, d0, d1⟩ := HXM.out k hkl
      have d0 := keep_cell hbr d0
      have d1 := keep_cell hbr d1
      obtain ⟨p, hp⟩ : ∃ p, p = ms[k].1 := ⟨_, rfl⟩
      obtain ⟨r, hr⟩ : ∃ r, r = ms[k].2 := ⟨_, rfl⟩
      have HX : Hid (p = ms[k].1 ∧ r = ms[k].2) := ⟨hp, hr⟩
      rw [← hp] at d0
      rw [← hr] at d1
      clear hp hr
      obtain ⟨W2, hW2, hb2, _, q0, q1, _, _⟩ := box2 wr (.int .u64 (p : Int)) (.int .i64 r) 56
      have hbr2 := below_tr hbr hb2
      by_cases a1 : 1125899906842624 ≤ (p : Int)
      · have HR : Hid (F = false) := by
          show _ = _; rw [HF.out]
          exact fitB_nq (fun q => by have := (q.2.2.2.2.1 _ (List.getElem_mem hkl)).1; rw [← HX.out.1] at this; omega)
        go_wp2
        go_ret
        exact ⟨by rw [HR.out]; rfl, below_tr hb hbr2⟩
      · have K31 := isProt31 r W2
        have HA : Hid (¬ 1125899906842624 ≤ (p : Int)) := a1
        cases hpr : protOk r with
        | false =>
          have HR : Hid (F = false) := by
            show _ = _; rw [HF.out]
            refine fitB_nq (fun q => ?_)
            have := (q.2.2.2.2.1 _ (List.getElem_mem hkl)).2
            rw [← HX.out.2] at this
            rw [protOk, decide_eq_true this] at hpr
            cases hpr
          rw [hpr] at K31
          clear hpr
          go_wp2_with fail
          refine K31.mono ?_
          rintro e w3 ⟨rfl, h3⟩
          subst h3
          go_wp2
          go_ret
          exact ⟨by rw [HR.out]; rfl, below_tr hb hbr2⟩
        | true =>
          rw [hpr] at K31
          have HK : Hid (∀ j (h : j < ms.length), j < k + 1 → ms[j].1 < 1125899906842624 ∧ 0 ≤ ms[j].2 ∧ ms[j].2 ≤ 7) := fun j h hj => by
            by_cases e : j = k
            · subst e
              rw [← HX.out.1, ← HX.out.2]
              have := HA.out
              have h2 : 0 ≤ r ∧ r ≤ 7 := by simpa [protOk] using hpr
              exact ⟨by omega, h2⟩
            · exact HN.out j h (by omega)
          clear hpr
          go_wp2_with fail
          refine K31.mono ?_
          rintro e w3 ⟨rfl, h3⟩
          subst h3
          go_wp2
          go_roundw
          case rel => exact ⟨k + 1, by omega, by go_num, HK.out, hbr2⟩
          case measure => simp [intOf]; omega
    · obtain rfl : k = ms.length := by omega
      have HMS : Hid (∀ x ∈ ms, x.1 < 1125899906842624 ∧ 0 ≤ x.2 ∧ x.2 ≤ 7) := fun x hx => by
        obtain ⟨i, hi, rfl⟩ := List.getElem_of_mem hx
        exact HN.out i hi hi
      clear HN
      go_wp2
      go_loopw [51] (fun i wr => ∃ k : Nat, k ≤ cs.length ∧ i = .int .i64 (k : Int) ∧ (∀ j (h : j < cs.length), j < k → cs[j].1 % 8 = 0 ∧ cs[j].2 ≠ 0 ∧ ∃ x ∈ ms, x.1 = cs[j].1 / 16384) ∧ Below W.heap.size W wr) (fun i _ => cs.length - (intOf i).toNat)
      case atStart => exact ⟨0, Nat.zero_le _, rfl, fun j h h0 => by omega, hbr⟩
      case round =>
        clear e0 e1 hbr hk
        obtain ⟨k, hk, rfl, hno, hbr⟩ := hrel
        have HN : Hid (∀ j (h : j < cs.length), j < k → cs[j].1 % 8 = 0 ∧ cs[j].2 ≠ 0 ∧ ∃ x ∈ ms, x.1 = cs[j].1 / 16384) := hno
        clear hno
        have e0 := keep_cell hbr c0
        have e1 := keep_cell hbr c1
        by_cases hkl2 : k < cs.length
        · obtain ⟨b, o, rfl, d0, d1⟩ := HXC.out k hkl2
          have d0 := keep_cell hbr d0
          have d1 := keep_cell hbr d1
          have hpl := HRC.out _ (List.getElem_mem hkl2)
          obtain ⟨p, hp⟩ : ∃ p, p = cs[k].1 := ⟨_, rfl⟩
          obtain ⟨r, hr⟩ : ∃ r, r = cs[k].2 := ⟨_, rfl⟩
          have HX : Hid (p = cs[k].1 ∧ r = cs[k].2) := ⟨hp, hr⟩
          rw [← hp] at d0 hpl
          rw [← hr] at d1
          clear hp hr
          obtain ⟨W2, hW2, hb2, _, q0, q1, _, _⟩ := box2 wr (.int .u64 (p : Int)) (.int .u64 r) 61
          have hbr2 := below_tr hbr hb2
          have e0 := keep_cell hb2 e0
          obtain ⟨pg, hpg⟩ : ∃ t, t = p / 16384 := ⟨_, rfl⟩
          obtain ⟨m8, hm8⟩ : ∃ t, t = p % 8 := ⟨_, rfl⟩
          have y1 : IntKind.u64.wrap ((p : Int) / 16384) = (pg : Int) := by rw [IntKind.wrap_u64]; omega
          have y2 : ((p : Int)).tmod 8 = (m8 : Int) := by rw [Int.tmod_eq_emod_of_nonneg (by omega)]; omega
          have K := K32.out pg W2 hbr2
          have HME := mid_ne (ms := ms) (p := pg)
          have HME : Hid ((!(mid ms pg pg).isEmpty) = true ↔ ∃ x ∈ ms, x.1 = pg) := HME
          generalize (!(mid ms pg pg).isEmpty) = bb at K HME
          generalize ((mid ms pg pg).headD (0, 0)).1 = f1 at K
          generalize ((mid ms pg pg).headD (0, 0)).2 = f2 at K
          have HPM : Hid (pg = p / 16384 ∧ m8 = p % 8) := ⟨hpg, hm8⟩
          clear hpg hm8 hpl
          cases bb with
          | false =>
            have HR : Hid (F = false) := by
              show _ = _; rw [HF.out]
              refine fitB_nq (fun q => ?_)
              obtain ⟨_, _, x, hx, ex⟩ := q.2.2.2.2.2 _ (List.getElem_mem hkl2)
              rw [← HX.out.1, ← HPM.out.1] at ex
              have := HME.out.2 ⟨x, hx, ex⟩
              cases this
            go_wp2_with fail
            refine K.mono ?_
            rintro e w3 ⟨rfl, hb3⟩
            have q0 := keep_cell hb3 q0
            have q1 := keep_cell hb3 q1
            go_wp2
            go_ret
            exact ⟨by rw [HR.out]; rfl, below_alloc (below_tr (below_tr hb hbr2) hb3) _⟩
          | true =>
            by_cases a1 : m8 = 0
            case neg =>
              have HR : Hid (F = false) := by
                show _ = _; rw [HF.out]
                refine fitB_nq (fun q => ?_)
                have := (q.2.2.2.2.2 _ (List.getElem_mem hkl2)).1
                rw [← HX.out.1] at this
                have := HPM.out.2
                omega
              have a1' : ((m8 : Int) != 0) = true := by simp; omega
              clear a1
              go_wp2_with fail
              refine K.mono ?_
              rintro e w3 ⟨rfl, hb3⟩
              obtain ⟨W4, hW4, hb4, _, _, _, _, _⟩ := box2 w3 (.int .u64 (f1 : Int)) (.int .i64 f2) 56
              have q0 := keep_cell hb4 (keep_cell hb3 q0)
              have q1 := keep_cell hb4 (keep_cell hb3 q1)
              go_wp2
              go_ret
              exact ⟨by rw [HR.out]; rfl, below_tr (below_tr (below_tr hb hbr2) hb3) hb4⟩
            subst a1
            by_cases a2 : r = 0
            · have HR : Hid (F = false) := by
                show _ = _; rw [HF.out]
                refine fitB_nq (fun q => ?_)
                have := (q.2.2.2.2.2 _ (List.getElem_mem hkl2)).2.1
                rw [← HX.out.2] at this
                exact this a2
              have a2' : (r == 0) = true := by simpa using a2
              clear a2
              go_wp2_with fail
              refine K.mono ?_
              rintro e w3 ⟨rfl, hb3⟩
              obtain ⟨W4, hW4, hb4, _, _, _, _, _⟩ := box2 w3 (.int .u64 (f1 : Int)) (.int .i64 f2) 56
              have q0 := keep_cell hb4 (keep_cell hb3 q0)
              have q1 := keep_cell hb4 (keep_cell hb3 q1)
              go_wp2
              go_ret
              exact ⟨by rw [HR.out]; rfl, below_tr (below_tr (below_tr hb hbr2) hb3) hb4⟩
            · have HK : Hid (∀ j (h : j < cs.length), j < k + 1 → cs[j].1 % 8 = 0 ∧ cs[j].2 ≠ 0 ∧ ∃ x ∈ ms, x.1 = cs[j].1 / 16384) := fun j h hj => by
                by_cases e : j = k
                · subst e
                  rw [← HX.out.1, ← HX.out.2, ← HPM.out.1]
                  exact ⟨HPM.out.2.symm, a2, HME.out.1 rfl⟩
                · exact HN.out j h (by omega)
              have a2' : (r == 0) = false := by simpa using a2
              clear a2
              go_wp2_with fail
              refine K.mono ?_
              rintro e w3 ⟨rfl, hb3⟩
              obtain ⟨W4, hW4, hb4, _, _, _, _, _⟩ := box2 w3 (.int .u64 (f1 : Int)) (.int .i64 f2) 56
              have q0 := keep_cell hb4 (keep_cell hb3 q0)
              have q1 := keep_cell hb4 (keep_cell hb3 q1)
              have hbx := below_tr (below_tr hbr2 hb3) hb4
              go_wp2
              go_roundw
              case rel => exact ⟨k + 1, by omega, by go_num, HK.out, hbx⟩
              case measure => simp [intOf]; omega
        · obtain rfl : k = cs.length := by omega
          have HR : Hid (F = true) := by
            show _ = _; rw [HF.out]
            refine fitB_q ⟨HSS.out.2.2.1, HSS.out.2.2.2, HSS.out.1, HSS.out.2.1, HMS.out, fun c hc => ?_⟩
            obtain ⟨i, hi, rfl⟩ := List.getElem_of_mem hc
            exact HN.out i hi hi
          go_wp2
          go_ret
          exact ⟨by rw [HR.out]; rfl, below_tr hb hbr⟩
end Go.Proofs.Ytpaanfeleeomnaa
namespace Go.Proofs.Ytpaanfeleeomnaa
open Go.RowKit
set_option maxRecDepth 100000
set_option linter.unusedVariables false
set_option maxHeartbeats 1000000 in
theorem same11 (vm vc vm' vc' : Value) (ms cs ms' cs' : List (Nat × Int)) (w : World) (hm : Sl .i64 w vm ms) (hc : Sl .u64 w vc cs) (hm' : Sl .i64 w vm' ms') (hc' : Sl .u64 w vc' cs') (lm : ms.length ≤ 1073741824) (lc : cs.length ≤ 1073741824) :
    Calls Try.prog 35 #[.agg #[vm, vc], .agg #[vm', vc']] w fun e w' => e = .returned (.bool (decide (ms = ms' ∧ cs = cs'))) ∧ Below w.heap.size w w' := by
  obtain ⟨X, hX, hx, hxs, c0, c1, _, _⟩ := box2 w vm vc 25
  obtain ⟨W, hW, hb, hsz, c2, c3, _, _⟩ := box2 X vm' vc' 25
  rw [hxs] at c2 c3
  have c0 := keep_cell hb c0
  have c1 := keep_cell hb c1
  have hb := below_tr hx hb
  have K34 : Hid (Calls Try.prog 60 #[vm, vm'] W fun e w' => e = .returned (.bool (decide (ms = ms'))) ∧ Below W.heap.size W w') := equal34 vm vm' ms ms' W (hm.keep hb) (hm'.keep hb) lm
  have K35 : Hid (∀ w1, Below W.heap.size W w1 → Calls Try.prog 61 #[vc, vc'] w1 fun e w' => e = .returned (.bool (decide (cs = cs'))) ∧ Below w1.heap.size w1 w') := fun w1 h1 => equal35 vc vc' cs cs' w1 (hc.keep (below_tr hb h1)) (hc'.keep (below_tr hb h1)) lc
  obtain ⟨am, nm, pm, rfl⟩ : ∃ a n p, vm = .slice a n p := by obtain ⟨a, p, h, _⟩ := hm; exact ⟨_, _, _, h⟩
  obtain ⟨ac, nc, pc, rfl⟩ : ∃ a n p, vc = .slice a n p := by obtain ⟨a, p, h, _⟩ := hc; exact ⟨_, _, _, h⟩
  obtain ⟨am', nm', pm', rfl⟩ : ∃ a n p, vm' = .slice a n p := by obtain ⟨a, p, h, _⟩ := hm'; exact ⟨_, _, _, h⟩
  obtain ⟨ac', nc', pc', rfl⟩ : ∃ a n p, vc' = .slice a n p := by obtain ⟨a, p, h, _⟩ := hc'; exact ⟨_, _, _, h⟩
  clear hm hc hm' hc'
  by_cases h1 : ms = ms'
  · rw [decide_eq_true h1] at K34
    have HR : Hid (decide (ms = ms' ∧ cs = cs') = decide (cs = cs')) := by simp [Hid, h1]
    generalize decide (cs = cs') = bb at K35 HR
    clear h1
    go_enter Try.func35, Try.ntmps35
    go_wp2_with fail
    refine K34.out.mono ?_
    rintro e w1 ⟨rfl, hb1⟩
    have c1 := keep_cell hb1 c1
    have c3 := keep_cell hb1 c3
    go_wp2_with fail
    refine (K35.out w1 hb1).mono ?_
    rintro e w2 ⟨rfl, hb2⟩
    go_wp2
    go_ret
    exact ⟨by rw [HR.out]; rfl, below_tr (below_tr hb hb1) hb2⟩
  · rw [decide_eq_false h1] at K34
    have HR : Hid (decide (ms = ms' ∧ cs = cs') = false) := by simp [Hid, h1]
    clear h1
    go_enter Try.func35, Try.ntmps35
    go_wp2_with fail
    refine K34.out.mono ?_
    rintro e w1 ⟨rfl, hb1⟩
    go_wp2
    go_ret
    exact ⟨by rw [HR.out]; rfl, below_tr hb hb1⟩
end Go.Proofs.Ytpaanfeleeomnaa
