/- What is proved here: the chapter's examples are answered as the document says. -/
import Derived.Test.YtlchjfdnkplmmaaInt
import Derived.Test.YtlchjfdnkplmmaaPicks
namespace Go.Proofs.Ytlchjfdnkplmmaa
open Go.RowKit

theorem awake_any (w : World) : Calls Try.prog 13 #[] w fun e w' => e = .returned (.bool true) ∧ Below w.heap.size w w' := by
  have A1 : Hid (∀ w, Calls Try.prog 20 #[.int .u64 4746794007248502784] w fun e w' => e = .returned (.tuple #[.int .i32 2147483647, .bool false]) ∧ Below w.heap.size w w') := by
    have h := int_any 4746794007248502784 (by decide)
    have e1 : intV 4746794007248502784 = 2147483647 := by decide +kernel
    have e2 : decide (¬ outOf (cutN 4746794007248502784)) = false := by decide +kernel
    rw [e1, e2] at h; exact h
  have A2 : Hid (∀ w, Calls Try.prog 14 #[.int .u64 9218868437227405312, .int .u64 18442240474082181120] w fun e w' => e = .returned (.int .u64 9221120237041090560) ∧ Below w.heap.size w w') := by
    have h := add_any 9218868437227405312 18442240474082181120 (by decide) (by decide)
    have e1 : opN .add 9218868437227405312 18442240474082181120 = 9221120237041090560 := by decide +kernel
    rw [e1] at h; exact h
  have A3 : Hid (∀ w, Calls Try.prog 22 #[.int .u64 0, .int .u64 9223372036854775808] w fun e w' => e = .returned (.int .u64 9223372036854775808) ∧ Below w.heap.size w w') := by
    have h := min_any 0 9223372036854775808 (by decide) (by decide)
    have e1 : pickN true 0 9223372036854775808 = 9223372036854775808 := by decide +kernel
    rw [e1] at h; exact h
  have A4 : Hid (∀ w, Calls Try.prog 26 #[.int .u64 13826050856027422720, .int .i64 2] w fun e w' => e = .returned (.int .u64 9223372036854775808) ∧ Below w.heap.size w w') := by
    have h := round_any 13826050856027422720 2 (by decide)
    have e1 : roundN 13826050856027422720 2 = 9223372036854775808 := by decide +kernel
    rw [e1] at h; exact h
  have A5 : Hid (∀ w, Calls Try.prog 26 #[.int .u64 4612811918334230528, .int .i64 3] w fun e w' => e = .returned (.int .u64 4611686018427387904) ∧ Below w.heap.size w w') := by
    have h := round_any 4612811918334230528 3 (by decide)
    have e1 : roundN 4612811918334230528 3 = 4611686018427387904 := by decide +kernel
    rw [e1] at h; exact h
  have A6 : Hid (∀ w, Calls Try.prog 18 #[.int .u64 13830554455654793216, .int .u64 0] w fun e w' => e = .returned (.int .u64 18442240474082181120) ∧ Below w.heap.size w w') := by
    have h := div_any 13830554455654793216 0 (by decide) (by decide)
    have e1 : opN .quo 13830554455654793216 0 = 18442240474082181120 := by decide +kernel
    rw [e1] at h; exact h
  go_enter Try.func13, Try.ntmps13
  go_wp2_with fail
  refine (A1.out _).mono ?_
  rintro e w1 ⟨rfl, b1⟩
  go_wp2_with fail
  refine (A2.out _).mono ?_
  rintro e w2 ⟨rfl, b2⟩
  go_wp2_with fail
  refine (A3.out _).mono ?_
  rintro e w3 ⟨rfl, b3⟩
  go_wp2_with fail
  refine (A4.out _).mono ?_
  rintro e w4 ⟨rfl, b4⟩
  go_wp2_with fail
  refine (A5.out _).mono ?_
  rintro e w5 ⟨rfl, b5⟩
  go_wp2_with fail
  refine (A6.out _).mono ?_
  rintro e w6 ⟨rfl, b6⟩
  go_wp2
  go_ret
  have c2 := b1.trans (b2.mono b1.size)
  have c3 := c2.trans (b3.mono c2.size)
  have c4 := c3.trans (b4.mono c3.size)
  have c5 := c4.trans (b5.mono c4.size)
  exact ⟨rfl, c5.trans (b6.mono c5.size)⟩
end Go.Proofs.Ytlchjfdnkplmmaa
