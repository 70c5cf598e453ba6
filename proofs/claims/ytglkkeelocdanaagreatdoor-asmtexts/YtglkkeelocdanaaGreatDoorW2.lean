/- What is proved here: the walk of DecWords. -/
import Derived.Test.YtglkkeelocdanaaGreatDoorPl
namespace Go.Proofs.YtglkkeelocdanaaGreatDoor
open Go.RowKit
set_option linter.unusedVariables false
set_option linter.unusedSimpArgs false
set_option maxRecDepth 100000
theorem fld_and (x f k : Nat) : (x &&& f) / 2 ^ k % 32 = (x / 2 ^ k % 32) &&& (f / 2 ^ k % 32) := by
  refine Nat.eq_of_testBit_eq (fun j => ?_)
  rw [show (32 : Nat) = 2 ^ 5 from rfl]
  simp only [Nat.testBit_mod_two_pow, Nat.testBit_and, Nat.testBit_div_two_pow]
  cases decide (j < 5) <;> simp
theorem and_31 (y : Nat) (h : y < 32) : y &&& 31 = y := by
  have := Nat.and_two_pow_sub_one_eq_mod y 5
  rw [show (31 : Nat) = 2 ^ 5 - 1 from rfl, this]; omega
theorem or_add (a b k : Nat) (h : b < 2 ^ k) : a * 2 ^ k ||| b = a * 2 ^ k + b := by
  rw [Nat.mul_comm]; exact (Nat.two_pow_add_eq_or_of_lt h a).symm
end Go.Proofs.YtglkkeelocdanaaGreatDoor
