/- What is proved here: the instruction of a word. -/
import Derived.Test.YtogokbefpgaciaaDoorFd
namespace Go.Proofs.YtogokbefpgaciaaDoor
open Go.RowKit
set_option linter.unusedVariables false
set_option linter.unusedSimpArgs false
set_option maxRecDepth 100000
/-- Is x a word of a row? -/
def matchB (x : Nat) (r : Rw) : Bool := (r.op == x / 67108864) && belongB r.shape (insN r.shape x) x
theorem insN_imm (s : Sh) (x : Nat) (hx : x < 4294967296) : (insN s x).imm < 4294967296 := by
  show (x &&& s.great) / _ < _
  have h1 := Nat.and_le_left (n := x) (m := s.great)
  have h2 := Nat.div_le_self (x &&& s.great) (2 ^ tzN s.great)
  omega
end Go.Proofs.YtogokbefpgaciaaDoor
