/- What is proved here: the class of a number, by the program and by the document; a number asked for, or thrown. -/
import Derived.WalkKit
import Derived.WalkSpells
import Derived.WalkLawsBesides
import Derived.Laws.Bits64
import Derived.Laws.Bits64b
import Derived.Laws.Externs
import Derived.Deep.QuietTactic
import Derived.BigQuiet
import Derived.RegionTactic
import Derived.Test.YtlchjfdnkplmmaaProg
import Derived.Test.YtlchjfdnkplmmaaExt
namespace Go.Proofs.Ytlchjfdnkplmmaa
open Go.RowKit

theorem ret_int {k : IntKind} {a b : Int} (h : a = b) : Ending.returned (.int k a) = .returned (.int k b) := by rw [h]
def classN (a : Nat) : Nat := if rung a = 0 then 0 else if rung a < 4503599627370496 then 1 else if rung a < 9218868437227405312 then 2 else if rung a = 9218868437227405312 then 3 else 4

theorem and_expo (a : Nat) (ha : a < 18446744073709551616) : bits .and .u64 ((a : Int) / 4503599627370496) 2047 = ((a / 4503599627370496 % 2048 : Nat) : Int) := by
  have := bits_and_u64_nat (a / 4503599627370496) 2047 (by omega) (by decide)
  rw [show (2047 : Nat) = 2 ^ 11 - 1 from rfl, Nat.and_two_pow_sub_one_eq_mod] at this
  exact this
theorem and_frac (a : Nat) (ha : a < 18446744073709551616) : bits .and .u64 (a : Int) 4503599627370495 = ((a % 4503599627370496 : Nat) : Int) := by
  have := bits_and_u64_nat a 4503599627370495 (by omega) (by decide)
  rw [show (4503599627370495 : Nat) = 2 ^ 52 - 1 from rfl, Nat.and_two_pow_sub_one_eq_mod] at this
  exact this

set_option maxHeartbeats 400000 in
theorem class_any (a : Nat) (ha : a < 18446744073709551616) (w : World) :
    Calls Try.prog 9 #[.int .u64 (a : Int)] w fun e w' => e = .returned (.int .i64 (classN a : Nat)) ∧ w' = w := by
  have he := and_expo a ha
  have hf := and_frac a ha
  go_enter Try.func9, Try.ntmps9
  go_wp2
  all_goals go_ret
  all_goals refine ⟨ret_int ?_, rfl⟩
  all_goals
    simp only [he, hf, beq_iff_eq, beq_eq_false_iff_ne] at *
    unfold classN rung; (repeat' split) <;> omega
set_option maxHeartbeats 400000 in
theorem rclass_any (a : Nat) (ha : a < 18446744073709551616) (w : World) :
    Calls Try.prog 10 #[.int .u64 (a : Int)] w fun e w' => e = .returned (.int .i64 (classN a : Nat)) ∧ w' = w := by
  go_enter Try.func10, Try.ntmps10
  go_wp2
  all_goals go_ret
  all_goals refine ⟨ret_int ?_, rfl⟩
  all_goals
    simp only [beq_iff_eq, beq_eq_false_iff_ne] at *
    unfold classN rung; (repeat' split) <;> omega

theorem asked_ok (a : Nat) (ha : a < 18446744073709551616) (last : Int) (h : (classN a : Int) ≤ last) (w : World) :
    Calls Try.prog 53 #[.int .u64 (a : Int), .int .i64 last] w fun e w' => e = .returned (.int .u64 (a : Int)) ∧ w' = w := by
  go_enter Try.func53, Try.ntmps53
  go_wp2_with fail
  refine (class_any a ha _).mono ?_
  rintro e w1 ⟨rfl, rfl⟩
  go_wp2
  go_ret
  exact ⟨rfl, rfl⟩
theorem asked_thrown (a : Nat) (ha : a < 18446744073709551616) (last : Int) (h : last < (classN a : Int)) (w : World) :
    Calls Try.prog 53 #[.int .u64 (a : Int), .int .i64 last] w fun e w' => e = .panicked [{ v := .iface 52 (.int .u64 (a : Int)), recovered := false }] ∧ w' = w := by
  go_enter Try.func53, Try.ntmps53
  go_wp2_with fail
  refine (class_any a ha _).mono ?_
  rintro e w1 ⟨rfl, rfl⟩
  go_wp2
  exact ⟨rfl, rfl, rfl⟩

theorem number_ok (a : Nat) (ha : a < 18446744073709551616) (last : Int) (h : (classN a : Int) ≤ last) (w : World) :
    Calls Try.prog 33 #[.int .u64 (a : Int), .int .i64 last] w fun e w' => e = .returned (.float .f64 a) ∧ w' = w := by
  go_enter Try.func33, Try.ntmps33
  go_wp2_with fail
  refine (asked_ok a ha last h _).mono ?_
  rintro e w1 ⟨rfl, rfl⟩
  have hx := x_frombits a
  go_wp2
  go_ret
  exact ⟨rfl, rfl⟩
theorem number_thrown (a : Nat) (ha : a < 18446744073709551616) (last : Int) (h : last < (classN a : Int)) (w : World) :
    Calls Try.prog 33 #[.int .u64 (a : Int), .int .i64 last] w fun e w' => e = .panicked [{ v := .iface 52 (.int .u64 (a : Int)), recovered := false }] ∧ w' = w := by
  go_enter Try.func33, Try.ntmps33
  go_wp2_with fail
  refine (asked_thrown a ha last h _).mono ?_
  rintro e w1 ⟨rfl, rfl⟩
  go_wp2
  exact ⟨rfl, rfl, rfl⟩
end Go.Proofs.Ytlchjfdnkplmmaa
