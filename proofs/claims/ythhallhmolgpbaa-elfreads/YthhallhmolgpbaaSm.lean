/- What is proved here: elf's small functions: what may be done by flags, sums, what must hold, what is taken off a file. -/
import Derived.Test.YthhallhmolgpbaaPb
import Derived.Test.YthhallhmolgpbaaBd
import Derived.Test.YthhallhmolgpbaaWRef
import Derived.Test.YthhallhmolgpbaaWPut
import Derived.Test.YthhallhmolgpbaaWBe
import Derived.LoopTactic
import Derived.LoopN
import Derived.BigQuiet
namespace Go.Proofs.Ythhallhmolgpbaa
open Go.RowKit
set_option linter.unusedVariables false
set_option linter.unusedSimpArgs false
set_option maxRecDepth 100000
abbrev thrown (k : Int) : List PanicEntry := [{ v := .iface 27 (.int .i64 k), recovered := false }]
theorem must38_ok (w : World) : Calls Try.prog 38 #[.bool true] w fun e w' => e = .returned (.tuple #[]) ∧ w' = w := by
  go_enter Try.func38, Try.ntmps38
  go_wp2
  simp [bodyPost, results, Try.results38]
theorem must38_no (w : World) : Calls Try.prog 38 #[.bool false] w fun e w' => e = .panicked (thrown 103) ∧ w' = w := by
  go_enter Try.func38, Try.ntmps38
  go_wp2
  exact ⟨rfl, rfl, rfl⟩
theorem sum23 (a b : Nat) (ha : a < 4294967296) (hb : b < 4294967296) (w : World) : Calls Try.prog 23 #[.int .u32 (a : Int), .int .u32 (b : Int)] w fun e w' => e = .returned (.int .u64 ((a : Int) + (b : Int))) ∧ w' = w := by
  have h : ((a : Int) + (b : Int)) % 18446744073709551616 = (a : Int) + (b : Int) := by omega
  have ia : (a : Int) < 4294967296 := by omega
  have ib : (b : Int) < 4294967296 := by omega
  clear ha hb
  go_enter Try.func23, Try.ntmps23
  go_wp2
  go_ret
  exact ⟨by first | rfl | (rw [← h]; rfl) | (simp; omega), rfl⟩
theorem and1 (f : Nat) (hf : f < 4294967296) : bits .and .u32 (f : Int) 1 = ((f % 2 : Nat) : Int) := by
  have := u32_and_nat f 1 hf (by decide)
  rw [Nat.and_one_is_mod] at this
  exact this
theorem and_at (f : Nat) (hf : f < 4294967296) (k : Nat) (hk : 2 ^ k < 4294967296) : bits .and .u32 (f : Int) ((2 ^ k : Nat) : Int) = ((f / 2 ^ k % 2 * 2 ^ k : Nat) : Int) := by
  rw [u32_and_nat f _ hf hk]
  congr 1
  apply Nat.eq_of_testBit_eq
  intro i
  rw [Nat.testBit_and, Nat.testBit_two_pow, ← Nat.shiftLeft_eq, Nat.testBit_shiftLeft]
  by_cases h : k = i
  · subst h
    simp [Nat.testBit, Nat.shiftRight_eq_div_pow]
  · rw [decide_eq_false h, Bool.and_false]
    by_cases hi : k ≤ i
    · have : (f / 2 ^ k % 2).testBit (i - k) = false := Nat.testBit_lt_two_pow (Nat.lt_of_lt_of_le (Nat.mod_lt _ (by decide)) (Nat.le_self_pow (by omega) 2))
      rw [this, Bool.and_false]
    · rw [decide_eq_false hi, Bool.false_and]
theorem and2 (f : Nat) (hf : f < 4294967296) : bits .and .u32 (f : Int) 2 = ((f / 2 % 2 * 2 : Nat) : Int) := and_at f hf 1 (by decide)
theorem and4 (f : Nat) (hf : f < 4294967296) : bits .and .u32 (f : Int) 4 = ((f / 4 % 2 * 4 : Nat) : Int) := and_at f hf 2 (by decide)
theorem protN_mod (f : Nat) : protN f = f % 2 * 4 + (f / 2 % 2 * 2 + f / 4 % 2) := by unfold protN; split <;> split <;> split <;> omega
theorem prots11 (f : Nat) (hf : f < 4294967296) (w : World) : Calls Try.prog 11 #[.int .u32 (f : Int)] w fun e w' => e = .returned (.int .i64 (protN f : Int)) ∧ w' = w := by
  have e1 := and1 f hf
  have e2 := and2 f hf
  have e4 := and4 f hf
  have hl := protN_le f
  have k : Hid (wrap64 (bits .or .u32 (bits .or .u32 ((f : Int) % 2 * 4) ((f : Int) / 2 % 2 * 2)) ((f : Int) / 4 % 2)) = (protN f : Int)) := by
    show wrap64 (bits .or .u32 (bits .or .u32 ((f : Int) % 2 * 4) ((f : Int) / 2 % 2 * 2)) ((f : Int) / 4 % 2)) = (protN f : Int)
    have h1 : (f : Int) % 2 = 0 ∨ (f : Int) % 2 = 1 := by omega
    have h2 : (f : Int) / 2 % 2 = 0 ∨ (f : Int) / 2 % 2 = 1 := by omega
    have h3 : (f : Int) / 4 % 2 = 0 ∨ (f : Int) / 4 % 2 = 1 := by omega
    have e : (protN f : Int) = (f : Int) % 2 * 4 + ((f : Int) / 2 % 2 * 2 + (f : Int) / 4 % 2) := by rw [protN_mod]; omega
    rw [e]
    rcases h1 with h1 | h1 <;> rcases h2 with h2 | h2 <;> rcases h3 with h3 | h3 <;> rw [h1, h2, h3] <;> decide +kernel
  obtain ⟨p, hp⟩ : ∃ p, p = protN f := ⟨_, rfl⟩
  rw [← hp] at k ⊢
  clear hl hp
  go_enter Try.func11, Try.ntmps11
  go_wp2
  go_ret
  refine ⟨?_, rfl⟩
  exact congrArg (fun z => Ending.returned (Value.int .i64 z)) k.out
end Go.Proofs.Ythhallhmolgpbaa
