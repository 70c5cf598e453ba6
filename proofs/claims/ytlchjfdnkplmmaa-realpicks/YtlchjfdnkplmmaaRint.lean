/- What is proved here: Int, by the document. -/
import Derived.Test.YtlchjfdnkplmmaaRround2
namespace Go.Proofs.Ytlchjfdnkplmmaa
open Go.RowKit

/-- The end of it, whatever number was cut. -/
theorem rint_out (a x : Nat) (ca : Nat) (w : World) (C1 : Hid (∀ w, Calls Try.prog 10 #[.int .u64 (a : Int)] w fun e w' => e = .returned (.int .i64 (ca : Nat)) ∧ w' = w)) (k4 : ((ca : Int) == 4) = false)
    (R : Hid (∀ w, Calls Try.prog 27 #[.int .u64 (a : Int), .int .i64 0] w fun e w' => e = .returned (.int .u64 (x : Int)) ∧ w' = w)) (hn : ¬ isNone x)
    (h : 4746794007248502784 ≤ rank x ∨ rank x < -4746794007248502784) :
    Calls Try.prog 21 #[.int .u64 (a : Int)] w fun e w' => e = .returned (.tuple #[.int .i32 2147483647, .bool false]) ∧ w' = w := by
  have P : Hid (∀ w, Calls Try.prog 38 #[.int .u64 (x : Int)] w fun e w' => e = .returned (.float .f64 x) ∧ w' = w) := point_any x
  have g1 := ord_ge x 4746794007248502784 hn (by decide +kernel)
  have g2 := ord_lt x 13970166044103278592 hn (by decide +kernel)
  rw [rank_const_31] at g1
  rw [rank_const_m] at g2
  by_cases h1 : 4746794007248502784 ≤ rank x
  · rw [decide_eq_true h1] at g1
    clear h h1 g2 hn
    go_enter Try.func21, Try.ntmps21
    go_wp2_with fail
    refine (C1.out _).mono ?_
    rintro e w1 ⟨rfl, rfl⟩
    go_wp2_with fail
    refine (R.out _).mono ?_
    rintro e w1 ⟨rfl, rfl⟩
    go_wp2_with fail
    refine (P.out _).mono ?_
    rintro e w1 ⟨rfl, rfl⟩
    go_wp2
    go_ret2
    exact ⟨rfl, rfl⟩
  · rw [decide_eq_false h1] at g1
    rw [decide_eq_true (h.resolve_left h1)] at g2
    clear h h1 hn
    go_enter Try.func21, Try.ntmps21
    go_wp2_with fail
    refine (C1.out _).mono ?_
    rintro e w1 ⟨rfl, rfl⟩
    go_wp2_with fail
    refine (R.out _).mono ?_
    rintro e w1 ⟨rfl, rfl⟩
    go_wp2_with fail
    refine (P.out _).mono ?_
    rintro e w1 ⟨rfl, rfl⟩
    go_wp2
    go_ret2
    exact ⟨rfl, rfl⟩
theorem rint_in (a x : Nat) (n : Int) (ca : Nat) (w : World) (C1 : Hid (∀ w, Calls Try.prog 10 #[.int .u64 (a : Int)] w fun e w' => e = .returned (.int .i64 (ca : Nat)) ∧ w' = w)) (k4 : ((ca : Int) == 4) = false)
    (R : Hid (∀ w, Calls Try.prog 27 #[.int .u64 (a : Int), .int .i64 0] w fun e w' => e = .returned (.int .u64 (x : Int)) ∧ w' = w)) (hn : ¬ isNone x)
    (h : ¬ (4746794007248502784 ≤ rank x ∨ rank x < -4746794007248502784)) (ht : floatToIntVal .f64 x .i32 = some n) :
    Calls Try.prog 21 #[.int .u64 (a : Int)] w fun e w' => e = .returned (.tuple #[.int .i32 n, .bool true]) ∧ w' = w := by
  have P : Hid (∀ w, Calls Try.prog 38 #[.int .u64 (x : Int)] w fun e w' => e = .returned (.float .f64 x) ∧ w' = w) := point_any x
  have hcv := fun w => run_convert_float_int (P := Try.prog) w 37 21 .f64 .i32 _ _ (by kernel_rfl) Try.underlying21 ht
  have g1 := ord_ge x 4746794007248502784 hn (by decide +kernel)
  have g2 := ord_lt x 13970166044103278592 hn (by decide +kernel)
  rw [rank_const_31, decide_eq_false (fun g => h (Or.inl g))] at g1
  rw [rank_const_m, decide_eq_false (fun g => h (Or.inr g))] at g2
  clear h hn ht
  go_enter Try.func21, Try.ntmps21
  go_wp2_with fail
  refine (C1.out _).mono ?_
  rintro e w1 ⟨rfl, rfl⟩
  go_wp2_with fail
  refine (R.out _).mono ?_
  rintro e w1 ⟨rfl, rfl⟩
  go_wp2_with fail
  refine (P.out _).mono ?_
  rintro e w1 ⟨rfl, rfl⟩
  go_wp2
  go_ret2
  exact ⟨rfl, rfl⟩
theorem rint_none (a : Nat) (w : World) (C1 : Hid (∀ w, Calls Try.prog 10 #[.int .u64 (a : Int)] w fun e w' => e = .returned (.int .i64 4) ∧ w' = w)) :
    Calls Try.prog 21 #[.int .u64 (a : Int)] w fun e w' => e = .returned (.tuple #[.int .i32 2147483647, .bool false]) ∧ w' = w := by
  go_enter Try.func21, Try.ntmps21
  go_wp2_with fail
  refine (C1.out _).mono ?_
  rintro e w1 ⟨rfl, rfl⟩
  go_wp2
  go_ret2
  exact ⟨rfl, rfl⟩
theorem rint_any (a : Nat) (hA : a < 18446744073709551616) (w : World) :
    Calls Try.prog 21 #[.int .u64 (a : Int)] w fun e w' => e = .returned (.tuple #[.int .i32 (intV a), .bool (decide (¬ outOf (cutN a)))]) ∧ w' = w := by
  by_cases h1 : isNone a
  · have ec : cutN a = 4746794007248502784 := by unfold cutN; rw [if_neg (by unfold isNone infR at h1; omega)]
    have e1 : intV a = 2147483647 := by unfold intV; rw [ec, if_pos out_beyond]
    have e2 : decide (¬ outOf (cutN a)) = false := by rw [ec]; decide +kernel
    rw [e1, e2]
    exact rint_none a w (rclass_none a hA h1)
  have C1 : Hid (∀ w, Calls Try.prog 10 #[.int .u64 (a : Int)] w fun e w' => e = .returned (.int .i64 (classN a : Nat)) ∧ w' = w) := rclass_any a hA
  have k4 := class_beq a h1
  have R := rround_any a 0 hA
  rcases not_none_cases a h1 with hf | hf
  · have er : roundN a 0 = roundW .zero a := by unfold roundN; rw [if_neg h1, if_pos hf]; rfl
    have ec : cutN a = roundW .zero a := by unfold cutN; rw [if_pos hf]
    have hn : ¬ isNone (roundW .zero a) := by have := (roundW_fin .zero a hA hf).1; unfold isNone; omega
    have ho := out_ref a hA hf
    rw [er] at R
    by_cases h : outOf (roundW .zero a)
    · have e1 : intV a = 2147483647 := by unfold intV; rw [ec, if_pos h]
      have e2 : decide (¬ outOf (cutN a)) = false := by rw [ec]; simp [h]
      rw [e1, e2]
      exact rint_out a _ _ w C1 k4 R hn (ho.1 h)
    · have e1 : intV a = toIntV (roundW .zero a) := by unfold intV; rw [ec, if_neg h]
      have e2 : decide (¬ outOf (cutN a)) = true := by rw [ec]; simp [h]
      rw [e1, e2]
      exact rint_in a _ _ _ w C1 k4 R hn (fun g => h (ho.2 g)) (toInt_in a hA hf h)
  · have er : roundN a 0 = a := by unfold roundN; rw [if_neg h1, if_neg (by unfold infR at hf; omega)]
    have ec : cutN a = 4746794007248502784 := by unfold cutN; rw [if_neg (by unfold infR at hf; omega)]
    have e1 : intV a = 2147483647 := by unfold intV; rw [ec, if_pos out_beyond]
    have e2 : decide (¬ outOf (cutN a)) = false := by rw [ec]; decide +kernel
    rw [e1, e2]
    rw [er] at R
    refine rint_out a a _ w C1 k4 R h1 ?_
    unfold infR at hf
    unfold rank; rw [hf]; cases sgn a <;> simp
end Go.Proofs.Ytlchjfdnkplmmaa
