/- What is proved here: the statements' end, awake, chapter 1's examples, answers true. -/
import Derived.Test.YtajlhnojhpomdaaBits
import Derived.Test.YtajlhnojhpomdaaRef
namespace Go.Proofs.Ytajlhnojhpomdaa
open Go.RowKit Go.Shelf

theorem up_54 (w : World) : Calls Try.prog 17 #[.int .u32 5, .int .u32 4] w fun e w' => e = .returned (.tuple #[.int .u32 8, .bool true]) ∧ w' = w := up_any 5 4 (by decide) (by decide) w
theorem putBe_258 (w : World) : Calls Try.prog 13 #[.int .u64 258, .int .i64 4] w fun e w' => e = .returned (.string ⟨#[0, 0, 1, 2]⟩) ∧ Below w.heap.size w w' := putBe_any 258 4 w
theorem le_0012 (w : World) : Calls Try.prog 11 #[.string ⟨#[0, 0, 1, 2]⟩] w fun e w' => e = .returned (.int .u64 33619968) ∧ Below w.heap.size w w' := le_any ⟨#[0, 0, 1, 2]⟩ w
theorem sext_255 (w : World) : Calls Try.prog 19 #[.int .u32 255, .int .i64 8] w fun e w' => e = .returned (.int .u32 4294967295) ∧ w' = w := sext_any 255 8 w
theorem rot_11 (w : World) : Calls Try.prog 21 #[.int .u32 1, .int .i64 1] w fun e w' => e = .returned (.int .u32 2147483648) ∧ Below w.heap.size w w' := rot_any 1 (by decide) 1 w

set_option maxHeartbeats 400000 in
theorem awake_any (w : World) : Calls Try.prog 8 #[] w fun e w' => e = .returned (.bool true) ∧ Below w.heap.size w w' := by
  go_enter Try.func8, Try.ntmps8
  go_wp2_with fail
  refine (up_54 _).mono ?_
  rintro e w1 ⟨rfl, rfl⟩
  go_wp2_with fail
  refine (putBe_258 _).mono ?_
  rintro e w2 ⟨rfl, hb2⟩
  go_wp2_with fail
  refine (le_0012 _).mono ?_
  rintro e w3 ⟨rfl, hb3⟩
  go_wp2_with fail
  refine (sext_255 _).mono ?_
  rintro e w4 ⟨rfl, rfl⟩
  go_wp2_with fail
  refine (rot_11 _).mono ?_
  rintro e w5 ⟨rfl, hb5⟩
  go_wp2
  go_ret
  exact ⟨rfl, hb2.trans ((hb3.mono hb2.size).trans (hb5.mono (Nat.le_trans hb2.size hb3.size)))⟩

end Go.Proofs.Ytajlhnojhpomdaa
