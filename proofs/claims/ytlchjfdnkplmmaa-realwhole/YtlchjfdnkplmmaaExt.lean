/- What is proved here: what the bodyless functions of package math answer: bits of a number, a number of bits, numbers made whole. -/
import Derived.WalkKit
import Derived.WalkLawsBesides
import Derived.Laws.Externs
import Derived.Test.YtlchjfdnkplmmaaProg
import Derived.Test.YtlchjfdnkplmmaaFl4
namespace Go.Proofs.Ytlchjfdnkplmmaa
open Go.RowKit

theorem x_frombits (a : Nat) (w : World) : (callFunc 52 #[.int .u64 (a : Int)]).run Try.prog w = .ok (.value (.float .f64 a)) w := by
  rw [run_callFunc_extern Try.func52 (by kernel_rfl) (by kernel_rfl) (by kernel_rfl) (e := Extern.MathFloatBits.float64frombits) (by kernel_rfl)]
  rfl
theorem x_bits (a : Nat) (w : World) : (callFunc 48 #[.float .f64 a]).run Try.prog w = .ok (.value (.int .u64 (a : Int))) w := by
  rw [run_callFunc_extern Try.func48 (by kernel_rfl) (by kernel_rfl) (by kernel_rfl) (e := Extern.MathFloatBits.float64bits) (by kernel_rfl)]
  rfl
theorem whole_run (name : String) (way : Ieee.Toward) (a : Nat) (h : ¬ isNone a) (P : Program) (w : World) : (Extern.MathFloor.toIntegral name way #[.float .f64 a]).run P w = .ok (.float .f64 (roundW way a)) w := by
  unfold Extern.MathFloor.toIntegral
  change Sem.run P (match Ieee.double.read a with | .nan s t => _ | d => _) w = _
  unfold roundW
  rcases Nat.lt_or_ge (rung a) infR with h1 | h1
  · rw [read_num a h1]; rfl
  · rw [read_inf a (by unfold isNone at h; omega)]; rfl
theorem x_trunc (a : Nat) (h : ¬ isNone a) (w : World) : (callFunc 61 #[.float .f64 a]).run Try.prog w = .ok (.value (.float .f64 (roundW .zero a))) w := by
  rw [run_callFunc_extern Try.func61 (by kernel_rfl) (by kernel_rfl) (by kernel_rfl) (e := Extern.MathFloor.toIntegral "math.archTrunc" .zero) (by kernel_rfl), whole_run _ _ _ h]
  rfl
theorem x_floor (a : Nat) (h : ¬ isNone a) (w : World) : (callFunc 63 #[.float .f64 a]).run Try.prog w = .ok (.value (.float .f64 (roundW .down a))) w := by
  rw [run_callFunc_extern Try.func63 (by kernel_rfl) (by kernel_rfl) (by kernel_rfl) (e := Extern.MathFloor.toIntegral "math.archFloor" .down) (by kernel_rfl), whole_run _ _ _ h]
  rfl
theorem x_ceil (a : Nat) (h : ¬ isNone a) (w : World) : (callFunc 65 #[.float .f64 a]).run Try.prog w = .ok (.value (.float .f64 (roundW .up a))) w := by
  rw [run_callFunc_extern Try.func65 (by kernel_rfl) (by kernel_rfl) (by kernel_rfl) (e := Extern.MathFloor.toIntegral "math.archCeil" .up) (by kernel_rfl), whole_run _ _ _ h]
  rfl
theorem x_even (a : Nat) (h : ¬ isNone a) (w : World) : (callFunc 59 #[.float .f64 a]).run Try.prog w = .ok (.value (.float .f64 (roundW .even a))) w := by
  rw [run_callFunc_extern Try.func59 (by kernel_rfl) (by kernel_rfl) (by kernel_rfl) (e := Extern.MathFloor.toIntegral "math.RoundToEven" .even) (by kernel_rfl), whole_run _ _ _ h]
  rfl
end Go.Proofs.Ytlchjfdnkplmmaa
