/- What is proved here: the first fault of some bytes. -/
import Derived.Test.YtpaanfeleeomnaaSpan
import Derived.Test.YtpaanfeleeomnaaHeld
namespace Go.Proofs.Ytpaanfeleeomnaa
open Go.RowKit
set_option maxRecDepth 100000
set_option linter.unusedVariables false
/-- What is wrong with a byte: 1: no page, 2: no right, 0: nothing. -/
def faultK (ms : List (Nat × Int)) (at_ i : Nat) (need : Int) : Int :=
  match ms.find? (fun x => x.1 == ((at_ + i) % 18446744073709551616) / 16384) with
  | none => 1
  | some x => if 18446744073709551616 ≤ at_ + i then 1 else if bits .and .i64 x.2 need = 0 then 2 else 0
/-- The first fault of bytes from the i-th on. -/
def faultFrom (ms : List (Nat × Int)) (at_ : Nat) (need : Int) : Nat → Nat → Int × Nat
  | _, 0 => (0, 0)
  | i, m + 1 => if faultK ms at_ i need = 0 then faultFrom ms at_ need (i + 1) m else (faultK ms at_ i need, (at_ + i) % 18446744073709551616)
end Go.Proofs.Ytpaanfeleeomnaa
