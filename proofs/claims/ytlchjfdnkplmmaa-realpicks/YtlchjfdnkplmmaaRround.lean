/- What is proved here: a number without its part behind the point, by the document: its walks. -/
import Derived.Test.YtlchjfdnkplmmaaLaws2
namespace Go.Proofs.Ytlchjfdnkplmmaa
open Go.RowKit
set_option linter.unusedVariables false

set_option maxRecDepth 100000 in
set_option maxHeartbeats 1000000 in
theorem mid0_0 (a q low rest down ca x1 : Nat) (w : World) (hA : a < 18446744073709551616) (C1 : Hid (∀ w, Calls Try.prog 10 #[.int .u64 (a : Int)] w fun e w' => e = .returned (.int .i64 (ca : Nat)) ∧ w' = w)) (k4 : ((ca : Int) == 4) = false) (k3 : ((ca : Int) == 3) = false)
    (h63 : (a : Int) / 9223372036854775808 = 0) (hq : (a : Int) / 4503599627370496 % 2048 = (q : Int)) (hq1 : 1023 ≤ q) (hq2 : q < 1075)
    (hl : IntKind.u64.wrap (2 ^ (52 - (q - 1023))) = (low : Int)) (hl0 : 0 < low) (hm : (a : Int) % (low : Int) = (rest : Int)) (hd : IntKind.u64.wrap ((a : Int) - (rest : Int)) = (down : Int))
    (hx1 : bits .or .u64 0 (down : Int) = (x1 : Int)) :
    Calls Try.prog 27 #[.int .u64 (a : Int), .int .i64 0] w fun e w' => e = .returned (.int .u64 ((x1 : Nat) : Int)) ∧ w' = w := by
  go_enter Try.func27, Try.ntmps27
  go_wp2_with fail
  refine (C1.out _).mono ?_
  rintro e w1 ⟨rfl, rfl⟩
  go_wp2_with fail
  refine (C1.out _).mono ?_
  rintro e w1 ⟨rfl, rfl⟩
  go_wp2_with fail
  all_goals go_ret
  all_goals exact ⟨rfl, rfl⟩
set_option maxRecDepth 100000 in
set_option maxHeartbeats 1000000 in
theorem mid0_1 (a q low rest down ca x1 : Nat) (w : World) (hA : a < 18446744073709551616) (C1 : Hid (∀ w, Calls Try.prog 10 #[.int .u64 (a : Int)] w fun e w' => e = .returned (.int .i64 (ca : Nat)) ∧ w' = w)) (k4 : ((ca : Int) == 4) = false) (k3 : ((ca : Int) == 3) = false)
    (h63 : (a : Int) / 9223372036854775808 = 0) (hq : (a : Int) / 4503599627370496 % 2048 = (q : Int)) (hq1 : 1023 ≤ q) (hq2 : q < 1075)
    (hl : IntKind.u64.wrap (2 ^ (52 - (q - 1023))) = (low : Int)) (hl0 : 0 < low) (hm : (a : Int) % (low : Int) = (rest : Int)) (hd : IntKind.u64.wrap ((a : Int) - (rest : Int)) = (down : Int))
    (hx1 : bits .or .u64 0 (down : Int) = (x1 : Int)) :
    Calls Try.prog 27 #[.int .u64 (a : Int), .int .i64 1] w fun e w' => e = .returned (.int .u64 ((x1 : Nat) : Int)) ∧ w' = w := by
  go_enter Try.func27, Try.ntmps27
  go_wp2_with fail
  refine (C1.out _).mono ?_
  rintro e w1 ⟨rfl, rfl⟩
  go_wp2_with fail
  refine (C1.out _).mono ?_
  rintro e w1 ⟨rfl, rfl⟩
  go_wp2_with fail
  all_goals go_ret
  all_goals exact ⟨rfl, rfl⟩
set_option maxRecDepth 100000 in
set_option maxHeartbeats 1000000 in
theorem mid0_2 (a q low rest down upv x2 ca x1 : Nat) (w : World) (hA : a < 18446744073709551616) (C1 : Hid (∀ w, Calls Try.prog 10 #[.int .u64 (a : Int)] w fun e w' => e = .returned (.int .i64 (ca : Nat)) ∧ w' = w)) (k4 : ((ca : Int) == 4) = false) (k3 : ((ca : Int) == 3) = false)
    (h63 : (a : Int) / 9223372036854775808 = 0) (hq : (a : Int) / 4503599627370496 % 2048 = (q : Int)) (hq1 : 1023 ≤ q) (hq2 : q < 1075)
    (hl : IntKind.u64.wrap (2 ^ (52 - (q - 1023))) = (low : Int)) (hl0 : 0 < low) (hm : (a : Int) % (low : Int) = (rest : Int)) (hd : IntKind.u64.wrap ((a : Int) - (rest : Int)) = (down : Int))
    (hx1 : bits .or .u64 0 (down : Int) = (x1 : Int))
    (hu : IntKind.u64.wrap ((down : Int) + (low : Int)) = (upv : Int)) (hx2 : bits .or .u64 0 (upv : Int) = (x2 : Int)) :
    Calls Try.prog 27 #[.int .u64 (a : Int), .int .i64 2] w fun e w' => e = .returned (.int .u64 ((if 0 < rest then x2 else x1 : Nat) : Int)) ∧ w' = w := by
  go_enter Try.func27, Try.ntmps27
  go_wp2_with fail
  refine (C1.out _).mono ?_
  rintro e w1 ⟨rfl, rfl⟩
  go_wp2_with fail
  refine (C1.out _).mono ?_
  rintro e w1 ⟨rfl, rfl⟩
  go_wp2_with fail
  all_goals go_ret
  all_goals refine ⟨ret_int ?_, rfl⟩
  all_goals first | rfl | (exfalso; omega)
set_option maxRecDepth 100000 in
set_option maxHeartbeats 1000000 in
theorem mid0_3a (a q low rest down upv x2 half ca x1 : Nat) (w : World) (hA : a < 18446744073709551616) (C1 : Hid (∀ w, Calls Try.prog 10 #[.int .u64 (a : Int)] w fun e w' => e = .returned (.int .i64 (ca : Nat)) ∧ w' = w)) (k4 : ((ca : Int) == 4) = false) (k3 : ((ca : Int) == 3) = false)
    (h63 : (a : Int) / 9223372036854775808 = 0) (hq : (a : Int) / 4503599627370496 % 2048 = (q : Int)) (hq1 : 1023 ≤ q) (hq2 : q < 1075)
    (hl : IntKind.u64.wrap (2 ^ (52 - (q - 1023))) = (low : Int)) (hl0 : 0 < low) (hm : (a : Int) % (low : Int) = (rest : Int)) (hd : IntKind.u64.wrap ((a : Int) - (rest : Int)) = (down : Int))
    (hx1 : bits .or .u64 0 (down : Int) = (x1 : Int))
    (hu : IntKind.u64.wrap ((down : Int) + (low : Int)) = (upv : Int)) (hx2 : bits .or .u64 0 (upv : Int) = (x2 : Int))
    (hh : (low : Int) / 2 = (half : Int)) (hw : IntKind.u64.wrap (half : Int) = (half : Int)) (c1 : (half : Int) < (rest : Int)) (c2 : (0 : Int) < (rest : Int)) :
    Calls Try.prog 27 #[.int .u64 (a : Int), .int .i64 3] w fun e w' => e = .returned (.int .u64 ((x2 : Nat) : Int)) ∧ w' = w := by
  go_enter Try.func27, Try.ntmps27
  go_wp2_with fail
  refine (C1.out _).mono ?_
  rintro e w1 ⟨rfl, rfl⟩
  go_wp2_with fail
  refine (C1.out _).mono ?_
  rintro e w1 ⟨rfl, rfl⟩
  go_wp2_with fail
  all_goals go_ret
  all_goals exact ⟨rfl, rfl⟩
set_option maxRecDepth 100000 in
set_option maxHeartbeats 1000000 in
theorem mid0_3b (a q low rest down half ca x1 : Nat) (w : World) (hA : a < 18446744073709551616) (C1 : Hid (∀ w, Calls Try.prog 10 #[.int .u64 (a : Int)] w fun e w' => e = .returned (.int .i64 (ca : Nat)) ∧ w' = w)) (k4 : ((ca : Int) == 4) = false) (k3 : ((ca : Int) == 3) = false)
    (h63 : (a : Int) / 9223372036854775808 = 0) (hq : (a : Int) / 4503599627370496 % 2048 = (q : Int)) (hq1 : 1023 ≤ q) (hq2 : q < 1075)
    (hl : IntKind.u64.wrap (2 ^ (52 - (q - 1023))) = (low : Int)) (hl0 : 0 < low) (hm : (a : Int) % (low : Int) = (rest : Int)) (hd : IntKind.u64.wrap ((a : Int) - (rest : Int)) = (down : Int))
    (hx1 : bits .or .u64 0 (down : Int) = (x1 : Int))
    (hh : (low : Int) / 2 = (half : Int)) (hw : IntKind.u64.wrap (half : Int) = (half : Int)) (c1 : (rest : Int) < (half : Int)) (c2 : decide ((half : Int) < (rest : Int)) = false) (c3 : ((rest : Int) == (half : Int)) = false) :
    Calls Try.prog 27 #[.int .u64 (a : Int), .int .i64 3] w fun e w' => e = .returned (.int .u64 ((x1 : Nat) : Int)) ∧ w' = w := by
  go_enter Try.func27, Try.ntmps27
  go_wp2_with fail
  refine (C1.out _).mono ?_
  rintro e w1 ⟨rfl, rfl⟩
  go_wp2_with fail
  refine (C1.out _).mono ?_
  rintro e w1 ⟨rfl, rfl⟩
  go_wp2_with fail
  all_goals go_ret
  all_goals exact ⟨rfl, rfl⟩
set_option maxRecDepth 100000 in
set_option maxHeartbeats 1000000 in
theorem mid0_3c (a q low rest down upv x2 half ca x1 : Nat) (w : World) (hA : a < 18446744073709551616) (C1 : Hid (∀ w, Calls Try.prog 10 #[.int .u64 (a : Int)] w fun e w' => e = .returned (.int .i64 (ca : Nat)) ∧ w' = w)) (k4 : ((ca : Int) == 4) = false) (k3 : ((ca : Int) == 3) = false)
    (h63 : (a : Int) / 9223372036854775808 = 0) (hq : (a : Int) / 4503599627370496 % 2048 = (q : Int)) (hq1 : 1023 ≤ q) (hq2 : q < 1075)
    (hl : IntKind.u64.wrap (2 ^ (52 - (q - 1023))) = (low : Int)) (hl0 : 0 < low) (hm : (a : Int) % (low : Int) = (rest : Int)) (hd : IntKind.u64.wrap ((a : Int) - (rest : Int)) = (down : Int))
    (hx1 : bits .or .u64 0 (down : Int) = (x1 : Int))
    (hu : IntKind.u64.wrap ((down : Int) + (low : Int)) = (upv : Int)) (hx2 : bits .or .u64 0 (upv : Int) = (x2 : Int))
    (hh : (low : Int) / 2 = (half : Int)) (hw : IntKind.u64.wrap (half : Int) = (half : Int)) (c1 : decide ((half : Int) < (rest : Int)) = false) (c3 : ((rest : Int) == (half : Int)) = true) (c2 : (0 : Int) < (rest : Int)) (c5 : ((q : Int) - 1023 == 0) = true) :
    Calls Try.prog 27 #[.int .u64 (a : Int), .int .i64 3] w fun e w' => e = .returned (.int .u64 ((x2 : Nat) : Int)) ∧ w' = w := by
  go_enter Try.func27, Try.ntmps27
  go_wp2_with fail
  refine (C1.out _).mono ?_
  rintro e w1 ⟨rfl, rfl⟩
  go_wp2_with fail
  refine (C1.out _).mono ?_
  rintro e w1 ⟨rfl, rfl⟩
  go_wp2_with fail
  all_goals go_ret
  all_goals exact ⟨rfl, rfl⟩
set_option maxRecDepth 100000 in
set_option maxHeartbeats 1000000 in
theorem mid0_3d (a q low rest down upv x2 half quo ca x1 : Nat) (w : World) (hA : a < 18446744073709551616) (C1 : Hid (∀ w, Calls Try.prog 10 #[.int .u64 (a : Int)] w fun e w' => e = .returned (.int .i64 (ca : Nat)) ∧ w' = w)) (k4 : ((ca : Int) == 4) = false) (k3 : ((ca : Int) == 3) = false)
    (h63 : (a : Int) / 9223372036854775808 = 0) (hq : (a : Int) / 4503599627370496 % 2048 = (q : Int)) (hq1 : 1023 ≤ q) (hq2 : q < 1075)
    (hl : IntKind.u64.wrap (2 ^ (52 - (q - 1023))) = (low : Int)) (hl0 : 0 < low) (hm : (a : Int) % (low : Int) = (rest : Int)) (hd : IntKind.u64.wrap ((a : Int) - (rest : Int)) = (down : Int))
    (hx1 : bits .or .u64 0 (down : Int) = (x1 : Int))
    (hu : IntKind.u64.wrap ((down : Int) + (low : Int)) = (upv : Int)) (hx2 : bits .or .u64 0 (upv : Int) = (x2 : Int))
    (hh : (low : Int) / 2 = (half : Int)) (hw : IntKind.u64.wrap (half : Int) = (half : Int)) (c1 : decide ((half : Int) < (rest : Int)) = false) (c3 : ((rest : Int) == (half : Int)) = true) (c2 : (0 : Int) < (rest : Int)) (c5 : ((q : Int) - 1023 == 0) = false) (hv : IntKind.u64.wrap ((down : Int) / (low : Int)) = (quo : Int)) (c4 : ((quo : Int) % 2 == 1) = true) :
    Calls Try.prog 27 #[.int .u64 (a : Int), .int .i64 3] w fun e w' => e = .returned (.int .u64 ((x2 : Nat) : Int)) ∧ w' = w := by
  go_enter Try.func27, Try.ntmps27
  go_wp2_with fail
  refine (C1.out _).mono ?_
  rintro e w1 ⟨rfl, rfl⟩
  go_wp2_with fail
  refine (C1.out _).mono ?_
  rintro e w1 ⟨rfl, rfl⟩
  go_wp2_with fail
  all_goals go_ret
  all_goals exact ⟨rfl, rfl⟩
set_option maxRecDepth 100000 in
set_option maxHeartbeats 1000000 in
theorem mid0_3e (a q low rest down half quo ca x1 : Nat) (w : World) (hA : a < 18446744073709551616) (C1 : Hid (∀ w, Calls Try.prog 10 #[.int .u64 (a : Int)] w fun e w' => e = .returned (.int .i64 (ca : Nat)) ∧ w' = w)) (k4 : ((ca : Int) == 4) = false) (k3 : ((ca : Int) == 3) = false)
    (h63 : (a : Int) / 9223372036854775808 = 0) (hq : (a : Int) / 4503599627370496 % 2048 = (q : Int)) (hq1 : 1023 ≤ q) (hq2 : q < 1075)
    (hl : IntKind.u64.wrap (2 ^ (52 - (q - 1023))) = (low : Int)) (hl0 : 0 < low) (hm : (a : Int) % (low : Int) = (rest : Int)) (hd : IntKind.u64.wrap ((a : Int) - (rest : Int)) = (down : Int))
    (hx1 : bits .or .u64 0 (down : Int) = (x1 : Int))
    (hh : (low : Int) / 2 = (half : Int)) (hw : IntKind.u64.wrap (half : Int) = (half : Int)) (c1 : decide ((half : Int) < (rest : Int)) = false) (c3 : ((rest : Int) == (half : Int)) = true) (c2 : (0 : Int) < (rest : Int)) (c5 : ((q : Int) - 1023 == 0) = false) (hv : IntKind.u64.wrap ((down : Int) / (low : Int)) = (quo : Int)) (c4 : ((quo : Int) % 2 == 1) = false) :
    Calls Try.prog 27 #[.int .u64 (a : Int), .int .i64 3] w fun e w' => e = .returned (.int .u64 ((x1 : Nat) : Int)) ∧ w' = w := by
  go_enter Try.func27, Try.ntmps27
  go_wp2_with fail
  refine (C1.out _).mono ?_
  rintro e w1 ⟨rfl, rfl⟩
  go_wp2_with fail
  refine (C1.out _).mono ?_
  rintro e w1 ⟨rfl, rfl⟩
  go_wp2_with fail
  all_goals go_ret
  all_goals first | exact ⟨rfl, rfl⟩ | (exfalso; rw [decide_eq_false_iff_not] at c1; omega)
set_option maxRecDepth 100000 in
set_option maxHeartbeats 1000000 in
theorem low0_0 (a q ca : Nat) (w : World) (hA : a < 18446744073709551616) (C1 : Hid (∀ w, Calls Try.prog 10 #[.int .u64 (a : Int)] w fun e w' => e = .returned (.int .i64 (ca : Nat)) ∧ w' = w)) (k4 : ((ca : Int) == 4) = false) (k3 : ((ca : Int) == 3) = false)
    (h63 : (a : Int) / 9223372036854775808 = 0) (hq : (a : Int) / 4503599627370496 % 2048 = (q : Int)) (hq2 : q < 1023) :
    Calls Try.prog 27 #[.int .u64 (a : Int), .int .i64 0] w fun e w' => e = .returned (.int .u64 ((0 : Nat) : Int)) ∧ w' = w := by
  have hone : bits .or .u64 0 4607182418800017408 = 4607182418800017408 := by decide
  go_enter Try.func27, Try.ntmps27
  go_wp2_with fail
  refine (C1.out _).mono ?_
  rintro e w1 ⟨rfl, rfl⟩
  go_wp2_with fail
  refine (C1.out _).mono ?_
  rintro e w1 ⟨rfl, rfl⟩
  go_wp2_with fail
  all_goals go_ret
  all_goals exact ⟨rfl, rfl⟩
set_option maxRecDepth 100000 in
set_option maxHeartbeats 1000000 in
theorem low0_1 (a q ca : Nat) (w : World) (hA : a < 18446744073709551616) (C1 : Hid (∀ w, Calls Try.prog 10 #[.int .u64 (a : Int)] w fun e w' => e = .returned (.int .i64 (ca : Nat)) ∧ w' = w)) (k4 : ((ca : Int) == 4) = false) (k3 : ((ca : Int) == 3) = false)
    (h63 : (a : Int) / 9223372036854775808 = 0) (hq : (a : Int) / 4503599627370496 % 2048 = (q : Int)) (hq2 : q < 1023) :
    Calls Try.prog 27 #[.int .u64 (a : Int), .int .i64 1] w fun e w' => e = .returned (.int .u64 ((0 : Nat) : Int)) ∧ w' = w := by
  have hone : bits .or .u64 0 4607182418800017408 = 4607182418800017408 := by decide
  go_enter Try.func27, Try.ntmps27
  go_wp2_with fail
  refine (C1.out _).mono ?_
  rintro e w1 ⟨rfl, rfl⟩
  go_wp2_with fail
  refine (C1.out _).mono ?_
  rintro e w1 ⟨rfl, rfl⟩
  go_wp2_with fail
  all_goals go_ret
  all_goals exact ⟨rfl, rfl⟩
set_option maxRecDepth 100000 in
set_option maxHeartbeats 1000000 in
theorem low0_2 (a q ca : Nat) (w : World) (hA : a < 18446744073709551616) (C1 : Hid (∀ w, Calls Try.prog 10 #[.int .u64 (a : Int)] w fun e w' => e = .returned (.int .i64 (ca : Nat)) ∧ w' = w)) (k4 : ((ca : Int) == 4) = false) (k3 : ((ca : Int) == 3) = false)
    (h63 : (a : Int) / 9223372036854775808 = 0) (hq : (a : Int) / 4503599627370496 % 2048 = (q : Int)) (hq2 : q < 1023) :
    Calls Try.prog 27 #[.int .u64 (a : Int), .int .i64 2] w fun e w' => e = .returned (.int .u64 ((if 0 < a then 4607182418800017408 else 0 : Nat) : Int)) ∧ w' = w := by
  have hone : bits .or .u64 0 4607182418800017408 = 4607182418800017408 := by decide
  go_enter Try.func27, Try.ntmps27
  go_wp2_with fail
  refine (C1.out _).mono ?_
  rintro e w1 ⟨rfl, rfl⟩
  go_wp2_with fail
  refine (C1.out _).mono ?_
  rintro e w1 ⟨rfl, rfl⟩
  go_wp2_with fail
  all_goals go_ret
  all_goals refine ⟨ret_int ?_, rfl⟩
  all_goals first | rfl | (exfalso; omega)
set_option maxRecDepth 100000 in
set_option maxHeartbeats 1000000 in
theorem low0_3a (a q ca : Nat) (w : World) (hA : a < 18446744073709551616) (C1 : Hid (∀ w, Calls Try.prog 10 #[.int .u64 (a : Int)] w fun e w' => e = .returned (.int .i64 (ca : Nat)) ∧ w' = w)) (k4 : ((ca : Int) == 4) = false) (k3 : ((ca : Int) == 3) = false)
    (h63 : (a : Int) / 9223372036854775808 = 0) (hq : (a : Int) / 4503599627370496 % 2048 = (q : Int)) (hq2 : q < 1023) (c1 : (4602678819172646912 : Int) < (a : Int)) (c2 : (0 : Int) < (a : Int)) :
    Calls Try.prog 27 #[.int .u64 (a : Int), .int .i64 3] w fun e w' => e = .returned (.int .u64 ((4607182418800017408 : Nat) : Int)) ∧ w' = w := by
  have hone : bits .or .u64 0 4607182418800017408 = 4607182418800017408 := by decide
  go_enter Try.func27, Try.ntmps27
  go_wp2_with fail
  refine (C1.out _).mono ?_
  rintro e w1 ⟨rfl, rfl⟩
  go_wp2_with fail
  refine (C1.out _).mono ?_
  rintro e w1 ⟨rfl, rfl⟩
  go_wp2_with fail
  all_goals go_ret
  all_goals exact ⟨rfl, rfl⟩
set_option maxRecDepth 100000 in
set_option maxHeartbeats 1000000 in
theorem low0_3b (a q ca : Nat) (w : World) (hA : a < 18446744073709551616) (C1 : Hid (∀ w, Calls Try.prog 10 #[.int .u64 (a : Int)] w fun e w' => e = .returned (.int .i64 (ca : Nat)) ∧ w' = w)) (k4 : ((ca : Int) == 4) = false) (k3 : ((ca : Int) == 3) = false)
    (h63 : (a : Int) / 9223372036854775808 = 0) (hq : (a : Int) / 4503599627370496 % 2048 = (q : Int)) (hq2 : q < 1023) (c1 : decide ((4602678819172646912 : Int) < (a : Int)) = false) :
    Calls Try.prog 27 #[.int .u64 (a : Int), .int .i64 3] w fun e w' => e = .returned (.int .u64 ((0 : Nat) : Int)) ∧ w' = w := by
  have hone : bits .or .u64 0 4607182418800017408 = 4607182418800017408 := by decide
  go_enter Try.func27, Try.ntmps27
  go_wp2_with fail
  refine (C1.out _).mono ?_
  rintro e w1 ⟨rfl, rfl⟩
  go_wp2_with fail
  refine (C1.out _).mono ?_
  rintro e w1 ⟨rfl, rfl⟩
  go_wp2_with fail
  all_goals go_ret
  all_goals exact ⟨rfl, rfl⟩
set_option maxRecDepth 100000 in
set_option maxHeartbeats 1000000 in
theorem mid1_0 (a r q low rest down ca x1 : Nat) (w : World) (hA : a < 18446744073709551616) (hrl : r < 9223372036854775808) (C1 : Hid (∀ w, Calls Try.prog 10 #[.int .u64 (a : Int)] w fun e w' => e = .returned (.int .i64 (ca : Nat)) ∧ w' = w)) (k4 : ((ca : Int) == 4) = false) (k3 : ((ca : Int) == 3) = false)
    (h63 : (a : Int) / 9223372036854775808 = 1) (hsz : (a : Int) - 9223372036854775808 = (r : Int)) (hq : (a : Int) / 4503599627370496 % 2048 = (q : Int)) (hq1 : 1023 ≤ q) (hq2 : q < 1075)
    (hl : IntKind.u64.wrap (2 ^ (52 - (q - 1023))) = (low : Int)) (hl0 : 0 < low) (hm : (r : Int) % (low : Int) = (rest : Int)) (hd : IntKind.u64.wrap ((r : Int) - (rest : Int)) = (down : Int))
    (hx1 : bits .or .u64 9223372036854775808 (down : Int) = (x1 : Int)) :
    Calls Try.prog 27 #[.int .u64 (a : Int), .int .i64 0] w fun e w' => e = .returned (.int .u64 ((x1 : Nat) : Int)) ∧ w' = w := by
  go_enter Try.func27, Try.ntmps27
  go_wp2_with fail
  refine (C1.out _).mono ?_
  rintro e w1 ⟨rfl, rfl⟩
  go_wp2_with fail
  refine (C1.out _).mono ?_
  rintro e w1 ⟨rfl, rfl⟩
  go_wp2_with fail
  all_goals go_ret
  all_goals exact ⟨rfl, rfl⟩
set_option maxRecDepth 100000 in
set_option maxHeartbeats 1000000 in
theorem mid1_1 (a r q low rest down upv x2 ca x1 : Nat) (w : World) (hA : a < 18446744073709551616) (hrl : r < 9223372036854775808) (C1 : Hid (∀ w, Calls Try.prog 10 #[.int .u64 (a : Int)] w fun e w' => e = .returned (.int .i64 (ca : Nat)) ∧ w' = w)) (k4 : ((ca : Int) == 4) = false) (k3 : ((ca : Int) == 3) = false)
    (h63 : (a : Int) / 9223372036854775808 = 1) (hsz : (a : Int) - 9223372036854775808 = (r : Int)) (hq : (a : Int) / 4503599627370496 % 2048 = (q : Int)) (hq1 : 1023 ≤ q) (hq2 : q < 1075)
    (hl : IntKind.u64.wrap (2 ^ (52 - (q - 1023))) = (low : Int)) (hl0 : 0 < low) (hm : (r : Int) % (low : Int) = (rest : Int)) (hd : IntKind.u64.wrap ((r : Int) - (rest : Int)) = (down : Int))
    (hx1 : bits .or .u64 9223372036854775808 (down : Int) = (x1 : Int))
    (hu : IntKind.u64.wrap ((down : Int) + (low : Int)) = (upv : Int)) (hx2 : bits .or .u64 9223372036854775808 (upv : Int) = (x2 : Int)) :
    Calls Try.prog 27 #[.int .u64 (a : Int), .int .i64 1] w fun e w' => e = .returned (.int .u64 ((if 0 < rest then x2 else x1 : Nat) : Int)) ∧ w' = w := by
  go_enter Try.func27, Try.ntmps27
  go_wp2_with fail
  refine (C1.out _).mono ?_
  rintro e w1 ⟨rfl, rfl⟩
  go_wp2_with fail
  refine (C1.out _).mono ?_
  rintro e w1 ⟨rfl, rfl⟩
  go_wp2_with fail
  all_goals go_ret
  all_goals refine ⟨ret_int ?_, rfl⟩
  all_goals first | rfl | (exfalso; omega)
set_option maxRecDepth 100000 in
set_option maxHeartbeats 1000000 in
theorem mid1_2 (a r q low rest down ca x1 : Nat) (w : World) (hA : a < 18446744073709551616) (hrl : r < 9223372036854775808) (C1 : Hid (∀ w, Calls Try.prog 10 #[.int .u64 (a : Int)] w fun e w' => e = .returned (.int .i64 (ca : Nat)) ∧ w' = w)) (k4 : ((ca : Int) == 4) = false) (k3 : ((ca : Int) == 3) = false)
    (h63 : (a : Int) / 9223372036854775808 = 1) (hsz : (a : Int) - 9223372036854775808 = (r : Int)) (hq : (a : Int) / 4503599627370496 % 2048 = (q : Int)) (hq1 : 1023 ≤ q) (hq2 : q < 1075)
    (hl : IntKind.u64.wrap (2 ^ (52 - (q - 1023))) = (low : Int)) (hl0 : 0 < low) (hm : (r : Int) % (low : Int) = (rest : Int)) (hd : IntKind.u64.wrap ((r : Int) - (rest : Int)) = (down : Int))
    (hx1 : bits .or .u64 9223372036854775808 (down : Int) = (x1 : Int)) :
    Calls Try.prog 27 #[.int .u64 (a : Int), .int .i64 2] w fun e w' => e = .returned (.int .u64 ((x1 : Nat) : Int)) ∧ w' = w := by
  go_enter Try.func27, Try.ntmps27
  go_wp2_with fail
  refine (C1.out _).mono ?_
  rintro e w1 ⟨rfl, rfl⟩
  go_wp2_with fail
  refine (C1.out _).mono ?_
  rintro e w1 ⟨rfl, rfl⟩
  go_wp2_with fail
  all_goals go_ret
  all_goals exact ⟨rfl, rfl⟩
set_option maxRecDepth 100000 in
set_option maxHeartbeats 1000000 in
theorem mid1_3a (a r q low rest down upv x2 half ca x1 : Nat) (w : World) (hA : a < 18446744073709551616) (hrl : r < 9223372036854775808) (C1 : Hid (∀ w, Calls Try.prog 10 #[.int .u64 (a : Int)] w fun e w' => e = .returned (.int .i64 (ca : Nat)) ∧ w' = w)) (k4 : ((ca : Int) == 4) = false) (k3 : ((ca : Int) == 3) = false)
    (h63 : (a : Int) / 9223372036854775808 = 1) (hsz : (a : Int) - 9223372036854775808 = (r : Int)) (hq : (a : Int) / 4503599627370496 % 2048 = (q : Int)) (hq1 : 1023 ≤ q) (hq2 : q < 1075)
    (hl : IntKind.u64.wrap (2 ^ (52 - (q - 1023))) = (low : Int)) (hl0 : 0 < low) (hm : (r : Int) % (low : Int) = (rest : Int)) (hd : IntKind.u64.wrap ((r : Int) - (rest : Int)) = (down : Int))
    (hx1 : bits .or .u64 9223372036854775808 (down : Int) = (x1 : Int))
    (hu : IntKind.u64.wrap ((down : Int) + (low : Int)) = (upv : Int)) (hx2 : bits .or .u64 9223372036854775808 (upv : Int) = (x2 : Int))
    (hh : (low : Int) / 2 = (half : Int)) (hw : IntKind.u64.wrap (half : Int) = (half : Int)) (c1 : (half : Int) < (rest : Int)) (c2 : (0 : Int) < (rest : Int)) :
    Calls Try.prog 27 #[.int .u64 (a : Int), .int .i64 3] w fun e w' => e = .returned (.int .u64 ((x2 : Nat) : Int)) ∧ w' = w := by
  go_enter Try.func27, Try.ntmps27
  go_wp2_with fail
  refine (C1.out _).mono ?_
  rintro e w1 ⟨rfl, rfl⟩
  go_wp2_with fail
  refine (C1.out _).mono ?_
  rintro e w1 ⟨rfl, rfl⟩
  go_wp2_with fail
  all_goals go_ret
  all_goals exact ⟨rfl, rfl⟩
set_option maxRecDepth 100000 in
set_option maxHeartbeats 1000000 in
theorem mid1_3b (a r q low rest down half ca x1 : Nat) (w : World) (hA : a < 18446744073709551616) (hrl : r < 9223372036854775808) (C1 : Hid (∀ w, Calls Try.prog 10 #[.int .u64 (a : Int)] w fun e w' => e = .returned (.int .i64 (ca : Nat)) ∧ w' = w)) (k4 : ((ca : Int) == 4) = false) (k3 : ((ca : Int) == 3) = false)
    (h63 : (a : Int) / 9223372036854775808 = 1) (hsz : (a : Int) - 9223372036854775808 = (r : Int)) (hq : (a : Int) / 4503599627370496 % 2048 = (q : Int)) (hq1 : 1023 ≤ q) (hq2 : q < 1075)
    (hl : IntKind.u64.wrap (2 ^ (52 - (q - 1023))) = (low : Int)) (hl0 : 0 < low) (hm : (r : Int) % (low : Int) = (rest : Int)) (hd : IntKind.u64.wrap ((r : Int) - (rest : Int)) = (down : Int))
    (hx1 : bits .or .u64 9223372036854775808 (down : Int) = (x1 : Int))
    (hh : (low : Int) / 2 = (half : Int)) (hw : IntKind.u64.wrap (half : Int) = (half : Int)) (c1 : (rest : Int) < (half : Int)) (c2 : decide ((half : Int) < (rest : Int)) = false) (c3 : ((rest : Int) == (half : Int)) = false) :
    Calls Try.prog 27 #[.int .u64 (a : Int), .int .i64 3] w fun e w' => e = .returned (.int .u64 ((x1 : Nat) : Int)) ∧ w' = w := by
  go_enter Try.func27, Try.ntmps27
  go_wp2_with fail
  refine (C1.out _).mono ?_
  rintro e w1 ⟨rfl, rfl⟩
  go_wp2_with fail
  refine (C1.out _).mono ?_
  rintro e w1 ⟨rfl, rfl⟩
  go_wp2_with fail
  all_goals go_ret
  all_goals exact ⟨rfl, rfl⟩
set_option maxRecDepth 100000 in
set_option maxHeartbeats 1000000 in
theorem mid1_3c (a r q low rest down upv x2 half ca x1 : Nat) (w : World) (hA : a < 18446744073709551616) (hrl : r < 9223372036854775808) (C1 : Hid (∀ w, Calls Try.prog 10 #[.int .u64 (a : Int)] w fun e w' => e = .returned (.int .i64 (ca : Nat)) ∧ w' = w)) (k4 : ((ca : Int) == 4) = false) (k3 : ((ca : Int) == 3) = false)
    (h63 : (a : Int) / 9223372036854775808 = 1) (hsz : (a : Int) - 9223372036854775808 = (r : Int)) (hq : (a : Int) / 4503599627370496 % 2048 = (q : Int)) (hq1 : 1023 ≤ q) (hq2 : q < 1075)
    (hl : IntKind.u64.wrap (2 ^ (52 - (q - 1023))) = (low : Int)) (hl0 : 0 < low) (hm : (r : Int) % (low : Int) = (rest : Int)) (hd : IntKind.u64.wrap ((r : Int) - (rest : Int)) = (down : Int))
    (hx1 : bits .or .u64 9223372036854775808 (down : Int) = (x1 : Int))
    (hu : IntKind.u64.wrap ((down : Int) + (low : Int)) = (upv : Int)) (hx2 : bits .or .u64 9223372036854775808 (upv : Int) = (x2 : Int))
    (hh : (low : Int) / 2 = (half : Int)) (hw : IntKind.u64.wrap (half : Int) = (half : Int)) (c1 : decide ((half : Int) < (rest : Int)) = false) (c3 : ((rest : Int) == (half : Int)) = true) (c2 : (0 : Int) < (rest : Int)) (c5 : ((q : Int) - 1023 == 0) = true) :
    Calls Try.prog 27 #[.int .u64 (a : Int), .int .i64 3] w fun e w' => e = .returned (.int .u64 ((x2 : Nat) : Int)) ∧ w' = w := by
  go_enter Try.func27, Try.ntmps27
  go_wp2_with fail
  refine (C1.out _).mono ?_
  rintro e w1 ⟨rfl, rfl⟩
  go_wp2_with fail
  refine (C1.out _).mono ?_
  rintro e w1 ⟨rfl, rfl⟩
  go_wp2_with fail
  all_goals go_ret
  all_goals exact ⟨rfl, rfl⟩
set_option maxRecDepth 100000 in
set_option maxHeartbeats 1000000 in
theorem mid1_3d (a r q low rest down upv x2 half quo ca x1 : Nat) (w : World) (hA : a < 18446744073709551616) (hrl : r < 9223372036854775808) (C1 : Hid (∀ w, Calls Try.prog 10 #[.int .u64 (a : Int)] w fun e w' => e = .returned (.int .i64 (ca : Nat)) ∧ w' = w)) (k4 : ((ca : Int) == 4) = false) (k3 : ((ca : Int) == 3) = false)
    (h63 : (a : Int) / 9223372036854775808 = 1) (hsz : (a : Int) - 9223372036854775808 = (r : Int)) (hq : (a : Int) / 4503599627370496 % 2048 = (q : Int)) (hq1 : 1023 ≤ q) (hq2 : q < 1075)
    (hl : IntKind.u64.wrap (2 ^ (52 - (q - 1023))) = (low : Int)) (hl0 : 0 < low) (hm : (r : Int) % (low : Int) = (rest : Int)) (hd : IntKind.u64.wrap ((r : Int) - (rest : Int)) = (down : Int))
    (hx1 : bits .or .u64 9223372036854775808 (down : Int) = (x1 : Int))
    (hu : IntKind.u64.wrap ((down : Int) + (low : Int)) = (upv : Int)) (hx2 : bits .or .u64 9223372036854775808 (upv : Int) = (x2 : Int))
    (hh : (low : Int) / 2 = (half : Int)) (hw : IntKind.u64.wrap (half : Int) = (half : Int)) (c1 : decide ((half : Int) < (rest : Int)) = false) (c3 : ((rest : Int) == (half : Int)) = true) (c2 : (0 : Int) < (rest : Int)) (c5 : ((q : Int) - 1023 == 0) = false) (hv : IntKind.u64.wrap ((down : Int) / (low : Int)) = (quo : Int)) (c4 : ((quo : Int) % 2 == 1) = true) :
    Calls Try.prog 27 #[.int .u64 (a : Int), .int .i64 3] w fun e w' => e = .returned (.int .u64 ((x2 : Nat) : Int)) ∧ w' = w := by
  go_enter Try.func27, Try.ntmps27
  go_wp2_with fail
  refine (C1.out _).mono ?_
  rintro e w1 ⟨rfl, rfl⟩
  go_wp2_with fail
  refine (C1.out _).mono ?_
  rintro e w1 ⟨rfl, rfl⟩
  go_wp2_with fail
  all_goals go_ret
  all_goals exact ⟨rfl, rfl⟩
set_option maxRecDepth 100000 in
set_option maxHeartbeats 1000000 in
theorem mid1_3e (a r q low rest down half quo ca x1 : Nat) (w : World) (hA : a < 18446744073709551616) (hrl : r < 9223372036854775808) (C1 : Hid (∀ w, Calls Try.prog 10 #[.int .u64 (a : Int)] w fun e w' => e = .returned (.int .i64 (ca : Nat)) ∧ w' = w)) (k4 : ((ca : Int) == 4) = false) (k3 : ((ca : Int) == 3) = false)
    (h63 : (a : Int) / 9223372036854775808 = 1) (hsz : (a : Int) - 9223372036854775808 = (r : Int)) (hq : (a : Int) / 4503599627370496 % 2048 = (q : Int)) (hq1 : 1023 ≤ q) (hq2 : q < 1075)
    (hl : IntKind.u64.wrap (2 ^ (52 - (q - 1023))) = (low : Int)) (hl0 : 0 < low) (hm : (r : Int) % (low : Int) = (rest : Int)) (hd : IntKind.u64.wrap ((r : Int) - (rest : Int)) = (down : Int))
    (hx1 : bits .or .u64 9223372036854775808 (down : Int) = (x1 : Int))
    (hh : (low : Int) / 2 = (half : Int)) (hw : IntKind.u64.wrap (half : Int) = (half : Int)) (c1 : decide ((half : Int) < (rest : Int)) = false) (c3 : ((rest : Int) == (half : Int)) = true) (c2 : (0 : Int) < (rest : Int)) (c5 : ((q : Int) - 1023 == 0) = false) (hv : IntKind.u64.wrap ((down : Int) / (low : Int)) = (quo : Int)) (c4 : ((quo : Int) % 2 == 1) = false) :
    Calls Try.prog 27 #[.int .u64 (a : Int), .int .i64 3] w fun e w' => e = .returned (.int .u64 ((x1 : Nat) : Int)) ∧ w' = w := by
  go_enter Try.func27, Try.ntmps27
  go_wp2_with fail
  refine (C1.out _).mono ?_
  rintro e w1 ⟨rfl, rfl⟩
  go_wp2_with fail
  refine (C1.out _).mono ?_
  rintro e w1 ⟨rfl, rfl⟩
  go_wp2_with fail
  all_goals go_ret
  all_goals first | exact ⟨rfl, rfl⟩ | (exfalso; rw [decide_eq_false_iff_not] at c1; omega)
set_option maxRecDepth 100000 in
set_option maxHeartbeats 1000000 in
theorem low1_0 (a r q ca : Nat) (w : World) (hA : a < 18446744073709551616) (hrl : r < 9223372036854775808) (C1 : Hid (∀ w, Calls Try.prog 10 #[.int .u64 (a : Int)] w fun e w' => e = .returned (.int .i64 (ca : Nat)) ∧ w' = w)) (k4 : ((ca : Int) == 4) = false) (k3 : ((ca : Int) == 3) = false)
    (h63 : (a : Int) / 9223372036854775808 = 1) (hsz : (a : Int) - 9223372036854775808 = (r : Int)) (hq : (a : Int) / 4503599627370496 % 2048 = (q : Int)) (hq2 : q < 1023) :
    Calls Try.prog 27 #[.int .u64 (a : Int), .int .i64 0] w fun e w' => e = .returned (.int .u64 ((9223372036854775808 : Nat) : Int)) ∧ w' = w := by
  have hone : bits .or .u64 9223372036854775808 4607182418800017408 = 13830554455654793216 := by decide
  go_enter Try.func27, Try.ntmps27
  go_wp2_with fail
  refine (C1.out _).mono ?_
  rintro e w1 ⟨rfl, rfl⟩
  go_wp2_with fail
  refine (C1.out _).mono ?_
  rintro e w1 ⟨rfl, rfl⟩
  go_wp2_with fail
  all_goals go_ret
  all_goals exact ⟨rfl, rfl⟩
set_option maxRecDepth 100000 in
set_option maxHeartbeats 1000000 in
theorem low1_1 (a r q ca : Nat) (w : World) (hA : a < 18446744073709551616) (hrl : r < 9223372036854775808) (C1 : Hid (∀ w, Calls Try.prog 10 #[.int .u64 (a : Int)] w fun e w' => e = .returned (.int .i64 (ca : Nat)) ∧ w' = w)) (k4 : ((ca : Int) == 4) = false) (k3 : ((ca : Int) == 3) = false)
    (h63 : (a : Int) / 9223372036854775808 = 1) (hsz : (a : Int) - 9223372036854775808 = (r : Int)) (hq : (a : Int) / 4503599627370496 % 2048 = (q : Int)) (hq2 : q < 1023) :
    Calls Try.prog 27 #[.int .u64 (a : Int), .int .i64 1] w fun e w' => e = .returned (.int .u64 ((if 0 < r then 13830554455654793216 else 9223372036854775808 : Nat) : Int)) ∧ w' = w := by
  have hone : bits .or .u64 9223372036854775808 4607182418800017408 = 13830554455654793216 := by decide
  go_enter Try.func27, Try.ntmps27
  go_wp2_with fail
  refine (C1.out _).mono ?_
  rintro e w1 ⟨rfl, rfl⟩
  go_wp2_with fail
  refine (C1.out _).mono ?_
  rintro e w1 ⟨rfl, rfl⟩
  go_wp2_with fail
  all_goals go_ret
  all_goals refine ⟨ret_int ?_, rfl⟩
  all_goals first | rfl | (exfalso; omega)
set_option maxRecDepth 100000 in
set_option maxHeartbeats 1000000 in
theorem low1_2 (a r q ca : Nat) (w : World) (hA : a < 18446744073709551616) (hrl : r < 9223372036854775808) (C1 : Hid (∀ w, Calls Try.prog 10 #[.int .u64 (a : Int)] w fun e w' => e = .returned (.int .i64 (ca : Nat)) ∧ w' = w)) (k4 : ((ca : Int) == 4) = false) (k3 : ((ca : Int) == 3) = false)
    (h63 : (a : Int) / 9223372036854775808 = 1) (hsz : (a : Int) - 9223372036854775808 = (r : Int)) (hq : (a : Int) / 4503599627370496 % 2048 = (q : Int)) (hq2 : q < 1023) :
    Calls Try.prog 27 #[.int .u64 (a : Int), .int .i64 2] w fun e w' => e = .returned (.int .u64 ((9223372036854775808 : Nat) : Int)) ∧ w' = w := by
  have hone : bits .or .u64 9223372036854775808 4607182418800017408 = 13830554455654793216 := by decide
  go_enter Try.func27, Try.ntmps27
  go_wp2_with fail
  refine (C1.out _).mono ?_
  rintro e w1 ⟨rfl, rfl⟩
  go_wp2_with fail
  refine (C1.out _).mono ?_
  rintro e w1 ⟨rfl, rfl⟩
  go_wp2_with fail
  all_goals go_ret
  all_goals exact ⟨rfl, rfl⟩
set_option maxRecDepth 100000 in
set_option maxHeartbeats 1000000 in
theorem low1_3a (a r q ca : Nat) (w : World) (hA : a < 18446744073709551616) (hrl : r < 9223372036854775808) (C1 : Hid (∀ w, Calls Try.prog 10 #[.int .u64 (a : Int)] w fun e w' => e = .returned (.int .i64 (ca : Nat)) ∧ w' = w)) (k4 : ((ca : Int) == 4) = false) (k3 : ((ca : Int) == 3) = false)
    (h63 : (a : Int) / 9223372036854775808 = 1) (hsz : (a : Int) - 9223372036854775808 = (r : Int)) (hq : (a : Int) / 4503599627370496 % 2048 = (q : Int)) (hq2 : q < 1023) (c1 : (4602678819172646912 : Int) < (r : Int)) (c2 : (0 : Int) < (r : Int)) :
    Calls Try.prog 27 #[.int .u64 (a : Int), .int .i64 3] w fun e w' => e = .returned (.int .u64 ((13830554455654793216 : Nat) : Int)) ∧ w' = w := by
  have hone : bits .or .u64 9223372036854775808 4607182418800017408 = 13830554455654793216 := by decide
  go_enter Try.func27, Try.ntmps27
  go_wp2_with fail
  refine (C1.out _).mono ?_
  rintro e w1 ⟨rfl, rfl⟩
  go_wp2_with fail
  refine (C1.out _).mono ?_
  rintro e w1 ⟨rfl, rfl⟩
  go_wp2_with fail
  all_goals go_ret
  all_goals exact ⟨rfl, rfl⟩
set_option maxRecDepth 100000 in
set_option maxHeartbeats 1000000 in
theorem low1_3b (a r q ca : Nat) (w : World) (hA : a < 18446744073709551616) (hrl : r < 9223372036854775808) (C1 : Hid (∀ w, Calls Try.prog 10 #[.int .u64 (a : Int)] w fun e w' => e = .returned (.int .i64 (ca : Nat)) ∧ w' = w)) (k4 : ((ca : Int) == 4) = false) (k3 : ((ca : Int) == 3) = false)
    (h63 : (a : Int) / 9223372036854775808 = 1) (hsz : (a : Int) - 9223372036854775808 = (r : Int)) (hq : (a : Int) / 4503599627370496 % 2048 = (q : Int)) (hq2 : q < 1023) (c1 : decide ((4602678819172646912 : Int) < (r : Int)) = false) :
    Calls Try.prog 27 #[.int .u64 (a : Int), .int .i64 3] w fun e w' => e = .returned (.int .u64 ((9223372036854775808 : Nat) : Int)) ∧ w' = w := by
  have hone : bits .or .u64 9223372036854775808 4607182418800017408 = 13830554455654793216 := by decide
  go_enter Try.func27, Try.ntmps27
  go_wp2_with fail
  refine (C1.out _).mono ?_
  rintro e w1 ⟨rfl, rfl⟩
  go_wp2_with fail
  refine (C1.out _).mono ?_
  rintro e w1 ⟨rfl, rfl⟩
  go_wp2_with fail
  all_goals go_ret
  all_goals exact ⟨rfl, rfl⟩
set_option maxRecDepth 100000 in
set_option maxHeartbeats 1000000 in
theorem big_any (a q ca : Nat) (way : Int) (w : World) (hA : a < 18446744073709551616) (C1 : Hid (∀ w, Calls Try.prog 10 #[.int .u64 (a : Int)] w fun e w' => e = .returned (.int .i64 (ca : Nat)) ∧ w' = w)) (k4 : ((ca : Int) == 4) = false) (k3 : ((ca : Int) == 3) = false)
    (hw0 : decide (way < 0) = false) (hw3 : decide (3 < way) = false) (hq : (a : Int) / 4503599627370496 % 2048 = (q : Int)) (hq2 : 1075 ≤ q) (hq3 : q < 2048) :
    Calls Try.prog 27 #[.int .u64 (a : Int), .int .i64 way] w fun e w' => e = .returned (.int .u64 (a : Int)) ∧ w' = w := by
  go_enter Try.func27, Try.ntmps27
  go_wp2_with fail
  refine (C1.out _).mono ?_
  rintro e w1 ⟨rfl, rfl⟩
  go_wp2_with fail
  refine (C1.out _).mono ?_
  rintro e w1 ⟨rfl, rfl⟩
  go_wp2_with fail
  all_goals go_ret
  all_goals exact ⟨rfl, rfl⟩
set_option maxRecDepth 100000 in
set_option maxHeartbeats 1000000 in
theorem under_any (a ca : Nat) (way : Int) (w : World) (hA : a < 18446744073709551616) (C1 : Hid (∀ w, Calls Try.prog 10 #[.int .u64 (a : Int)] w fun e w' => e = .returned (.int .i64 (ca : Nat)) ∧ w' = w)) (k4 : ((ca : Int) == 4) = false) (k3 : ((ca : Int) == 3) = false)
    (hw0 : decide (way < 0) = true) :
    Calls Try.prog 27 #[.int .u64 (a : Int), .int .i64 way] w fun e w' => e = .returned (.int .u64 (a : Int)) ∧ w' = w := by
  go_enter Try.func27, Try.ntmps27
  go_wp2_with fail
  refine (C1.out _).mono ?_
  rintro e w1 ⟨rfl, rfl⟩
  go_wp2_with fail
  refine (C1.out _).mono ?_
  rintro e w1 ⟨rfl, rfl⟩
  go_wp2_with fail
  all_goals go_ret
  all_goals exact ⟨rfl, rfl⟩
set_option maxRecDepth 100000 in
set_option maxHeartbeats 1000000 in
theorem over_any (a ca : Nat) (way : Int) (w : World) (hA : a < 18446744073709551616) (C1 : Hid (∀ w, Calls Try.prog 10 #[.int .u64 (a : Int)] w fun e w' => e = .returned (.int .i64 (ca : Nat)) ∧ w' = w)) (k4 : ((ca : Int) == 4) = false) (k3 : ((ca : Int) == 3) = false)
    (hw0 : decide (way < 0) = false) (hw3 : decide (3 < way) = true) :
    Calls Try.prog 27 #[.int .u64 (a : Int), .int .i64 way] w fun e w' => e = .returned (.int .u64 (a : Int)) ∧ w' = w := by
  go_enter Try.func27, Try.ntmps27
  go_wp2_with fail
  refine (C1.out _).mono ?_
  rintro e w1 ⟨rfl, rfl⟩
  go_wp2_with fail
  refine (C1.out _).mono ?_
  rintro e w1 ⟨rfl, rfl⟩
  go_wp2_with fail
  all_goals go_ret
  all_goals exact ⟨rfl, rfl⟩
set_option maxRecDepth 100000 in
set_option maxHeartbeats 1000000 in
theorem rinf_any (a : Nat) (way : Int) (w : World) (C1 : Hid (∀ w, Calls Try.prog 10 #[.int .u64 (a : Int)] w fun e w' => e = .returned (.int .i64 3) ∧ w' = w)) :
    Calls Try.prog 27 #[.int .u64 (a : Int), .int .i64 way] w fun e w' => e = .returned (.int .u64 (a : Int)) ∧ w' = w := by
  go_enter Try.func27, Try.ntmps27
  go_wp2_with fail
  refine (C1.out _).mono ?_
  rintro e w1 ⟨rfl, rfl⟩
  go_wp2_with fail
  refine (C1.out _).mono ?_
  rintro e w1 ⟨rfl, rfl⟩
  go_wp2_with fail
  all_goals go_ret
  all_goals exact ⟨rfl, rfl⟩
set_option maxRecDepth 100000 in
set_option maxHeartbeats 1000000 in
theorem rnone_any (a : Nat) (way : Int) (w : World) (C1 : Hid (∀ w, Calls Try.prog 10 #[.int .u64 (a : Int)] w fun e w' => e = .returned (.int .i64 4) ∧ w' = w)) :
    Calls Try.prog 27 #[.int .u64 (a : Int), .int .i64 way] w fun e w' => e = .returned (.int .u64 9221120237041090560) ∧ w' = w := by
  go_enter Try.func27, Try.ntmps27
  go_wp2_with fail
  refine (C1.out _).mono ?_
  rintro e w1 ⟨rfl, rfl⟩
  go_wp2_with fail
  go_ret
  exact ⟨rfl, rfl⟩
end Go.Proofs.Ytlchjfdnkplmmaa
