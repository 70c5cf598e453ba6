/-
  No cell of these rows narrows 'for every input' (looked for: loops, veiled, ifaces, maps, wideKeys, modest, calm, conditions, laid).
  DERIVED. THE GIVEN ROWS OF THIS SEAT. 4 by the template 'for every input the law returns true; each argument reads behind the call as it read before'; 0 by the template 'total and deterministic' (their statements: YtgdflobcbhnimaaGreatTotals.lean).
  GIVEN WITH THE SEED: the statements are not yours to turn. If you find one false, say at which input.
  Laid BY PROGRAM, IN A SANDBOX (cutbox-rows.mjs): the forced cells as the released guide's own fill.sh prints them over the translation ddb09a0803b695d8… (all of the seat's roots in one cut). By AI agents, Wed Nov 11 2026. No macro, syntax, notation, axiom, sorry.
-/
import Derived.Test.YtgdflobcbhnimaaGreatChecked
import GoSem.Claim
import GoSem.ClaimJoined
import GoSem.ClaimMapViews
import Derived.JoinedTies
import Derived.KernelRfl
namespace Go.Proofs.YtgdflobcbhnimaaGreat
/- THE CELL 'sum', in the pinned program and in every row, IS THE sha256 OF THE DUMP (.gsa) THAT YtgdflobcbhnimaaGreatProg.lean LOADS. Nothing in Lean hashes anything: it is a label: what it is worth is what the hold of that sum in a sandbox is worth. -/
noncomputable def Tryz.pinned : Pinned := { name := "ytgdflobcbhnimaagreat", sum := "ddb09a0803b695d8c7d542329011977cf6568a2fcdd3e4430f78c0f6f6fb03f5", checked := Tryz.checked }
namespace Rows
def none {H : Type} : Left H := { results := [], args := [] }

/-- 'ferrylaw16.PackDoes': WHATEVER THE INPUT: true; the input reads as it did. -/
def packDoesSpec : ChangeSpec := { name := "packDoes", fn := fun _ => fun
  | [d] => { results := [.lit (.bool true)], args := [d] }
  | _ => none }
def packDoesRow : OpenClaim := { program := "ytgdflobcbhnimaagreat", sum := "ddb09a0803b695d8c7d542329011977cf6568a2fcdd3e4430f78c0f6f6fb03f5", func := "ferry/ferrylaw16.PackDoes", spec := "packDoes", inPlace := ["internal/bytealg.IndexByteString", "internal/bytealg.IndexString", "internal/abi.NoEscape", "internal/bytealg.MakeNoZero"], unfollowed := true, recurses := true, named := ["internal/bytealg.MaxLen"], apart := false }
def PackDoesSaid : Prop := packDoesRow.holds Tryz.pinned (OpenSpec.ofChange packDoesSpec)

/-- ITS FALSE NEIGHBOUR: 'it returns false'. Refute it at one input. -/
def packDoesWrong : ChangeSpec := { name := "packDoes", fn := fun _ => fun
  | [d] => { results := [.lit (.bool false)], args := [d] }
  | _ => none }
def PackDoesWrongFalsely : Prop := packDoesRow.holds Tryz.pinned (OpenSpec.ofChange packDoesWrong)

/-- 'ferrylaw16.PackHolds': WHATEVER THE INPUT: true; the input reads as it did. -/
def packHoldsSpec : ChangeSpec := { name := "packHolds", fn := fun _ => fun
  | [d] => { results := [.lit (.bool true)], args := [d] }
  | _ => none }
def packHoldsRow : OpenClaim := { program := "ytgdflobcbhnimaagreat", sum := "ddb09a0803b695d8c7d542329011977cf6568a2fcdd3e4430f78c0f6f6fb03f5", func := "ferry/ferrylaw16.PackHolds", spec := "packHolds", inPlace := ["internal/bytealg.IndexByteString", "internal/bytealg.IndexString", "internal/abi.NoEscape", "internal/bytealg.MakeNoZero"], unfollowed := true, recurses := true, named := ["internal/bytealg.MaxLen"], apart := false }
def PackHoldsSaid : Prop := packHoldsRow.holds Tryz.pinned (OpenSpec.ofChange packHoldsSpec)

/-- ITS FALSE NEIGHBOUR: 'it returns false'. Refute it at one input. -/
def packHoldsWrong : ChangeSpec := { name := "packHolds", fn := fun _ => fun
  | [d] => { results := [.lit (.bool false)], args := [d] }
  | _ => none }
def PackHoldsWrongFalsely : Prop := packHoldsRow.holds Tryz.pinned (OpenSpec.ofChange packHoldsWrong)

/-- 'ferrylaw16.PackSegs': WHATEVER THE INPUT: true; the input reads as it did. -/
def packSegsSpec : ChangeSpec := { name := "packSegs", fn := fun _ => fun
  | [d] => { results := [.lit (.bool true)], args := [d] }
  | _ => none }
def packSegsRow : OpenClaim := { program := "ytgdflobcbhnimaagreat", sum := "ddb09a0803b695d8c7d542329011977cf6568a2fcdd3e4430f78c0f6f6fb03f5", func := "ferry/ferrylaw16.PackSegs", spec := "packSegs", inPlace := ["internal/bytealg.IndexByteString", "internal/bytealg.IndexString", "internal/abi.NoEscape", "internal/bytealg.MakeNoZero"], unfollowed := true, recurses := true, named := ["internal/bytealg.MaxLen"], apart := false }
def PackSegsSaid : Prop := packSegsRow.holds Tryz.pinned (OpenSpec.ofChange packSegsSpec)

/-- ITS FALSE NEIGHBOUR: 'it returns false'. Refute it at one input. -/
def packSegsWrong : ChangeSpec := { name := "packSegs", fn := fun _ => fun
  | [d] => { results := [.lit (.bool false)], args := [d] }
  | _ => none }
def PackSegsWrongFalsely : Prop := packSegsRow.holds Tryz.pinned (OpenSpec.ofChange packSegsWrong)

/-- 'ferrylaw16.PackPlaces': WHATEVER THE INPUT: true; the input reads as it did. -/
def packPlacesSpec : ChangeSpec := { name := "packPlaces", fn := fun _ => fun
  | [d] => { results := [.lit (.bool true)], args := [d] }
  | _ => none }
def packPlacesRow : OpenClaim := { program := "ytgdflobcbhnimaagreat", sum := "ddb09a0803b695d8c7d542329011977cf6568a2fcdd3e4430f78c0f6f6fb03f5", func := "ferry/ferrylaw16.PackPlaces", spec := "packPlaces", inPlace := ["internal/bytealg.IndexByteString", "internal/bytealg.IndexString", "internal/abi.NoEscape", "internal/bytealg.MakeNoZero"], unfollowed := true, recurses := true, named := ["internal/bytealg.MaxLen"], apart := false }
def PackPlacesSaid : Prop := packPlacesRow.holds Tryz.pinned (OpenSpec.ofChange packPlacesSpec)

/-- ITS FALSE NEIGHBOUR: 'it returns false'. Refute it at one input. -/
def packPlacesWrong : ChangeSpec := { name := "packPlaces", fn := fun _ => fun
  | [d] => { results := [.lit (.bool false)], args := [d] }
  | _ => none }
def PackPlacesWrongFalsely : Prop := packPlacesRow.holds Tryz.pinned (OpenSpec.ofChange packPlacesWrong)

/- THE SECOND FORM. 'bulk': how many values and letters a reading holds, each counted each time it is reached (what is shared counts as often as it is met; a slice's spare places count too). A statement '..UptoSaid' is the law's where the arguments, and the package variables that the reading takes, are together of bulk at most 1048576: NARROWER than '..Said'. Prove '..Said' where nothing that the law and all that it calls make is longer than what came in: it says more and counts as full. Else prove '..UptoSaid'. A law counts once. -/
mutual
def uptoBulk {H : Type} : DataW H → Nat
  | .lit (.string bytes) => bytes.length + 1
  | .lit _ => 1
  | .nil => 1
  | .ptr d => uptoBulk d + 1
  | .slice elems spare => uptoBulkAll elems + uptoBulkAll spare + 1
  | .agg parts => uptoBulkAll parts + 1
  | .iface _ d => uptoBulk d + 1
  | .map entries => uptoBulkEntries entries + 1
  | .held _ => 1
def uptoBulkAll {H : Type} : List (DataW H) → Nat
  | [] => 0
  | d :: r => uptoBulk d + uptoBulkAll r
def uptoBulkEntries {H : Type} : List (Lit × DataW H) → Nat
  | [] => 0
  | x :: r => uptoBulkEntry x + uptoBulkEntries r
def uptoBulkEntry {H : Type} : Lit × DataW H → Nat
  | (.string bytes, d) => bytes.length + uptoBulk d + 1
  | (_, d) => uptoBulk d + 1
 end
def uptoSmall : (H : Type) → List (DataW H) → Bool := fun _ ds => decide (uptoBulkAll ds ≤ 1048576)
def OpenSpec.upto (s : _root_.Go.ChangeSpec) : _root_.Go.OpenSpec := { _root_.Go.OpenSpec.ofChange s with cond := some uptoSmall }

/-- 'ferrylaw16.PackDoes', WHERE WHAT IT READS IS OF BULK AT MOST 1048576: true; the input reads as it did. -/
def packDoesUptoRow : OpenClaim := { program := "ytgdflobcbhnimaagreat", sum := "ddb09a0803b695d8c7d542329011977cf6568a2fcdd3e4430f78c0f6f6fb03f5", func := "ferry/ferrylaw16.PackDoes", spec := "packDoes", inPlace := ["internal/bytealg.IndexByteString", "internal/bytealg.IndexString", "internal/abi.NoEscape", "internal/bytealg.MakeNoZero"], unfollowed := true, recurses := true, named := ["internal/bytealg.MaxLen"], apart := false, narrowed := true }
def PackDoesUptoSaid : Prop := packDoesUptoRow.holds Tryz.pinned (OpenSpec.upto packDoesSpec)

/-- 'ferrylaw16.PackHolds', WHERE WHAT IT READS IS OF BULK AT MOST 1048576: true; the input reads as it did. -/
def packHoldsUptoRow : OpenClaim := { program := "ytgdflobcbhnimaagreat", sum := "ddb09a0803b695d8c7d542329011977cf6568a2fcdd3e4430f78c0f6f6fb03f5", func := "ferry/ferrylaw16.PackHolds", spec := "packHolds", inPlace := ["internal/bytealg.IndexByteString", "internal/bytealg.IndexString", "internal/abi.NoEscape", "internal/bytealg.MakeNoZero"], unfollowed := true, recurses := true, named := ["internal/bytealg.MaxLen"], apart := false, narrowed := true }
def PackHoldsUptoSaid : Prop := packHoldsUptoRow.holds Tryz.pinned (OpenSpec.upto packHoldsSpec)

/-- 'ferrylaw16.PackSegs', WHERE WHAT IT READS IS OF BULK AT MOST 1048576: true; the input reads as it did. -/
def packSegsUptoRow : OpenClaim := { program := "ytgdflobcbhnimaagreat", sum := "ddb09a0803b695d8c7d542329011977cf6568a2fcdd3e4430f78c0f6f6fb03f5", func := "ferry/ferrylaw16.PackSegs", spec := "packSegs", inPlace := ["internal/bytealg.IndexByteString", "internal/bytealg.IndexString", "internal/abi.NoEscape", "internal/bytealg.MakeNoZero"], unfollowed := true, recurses := true, named := ["internal/bytealg.MaxLen"], apart := false, narrowed := true }
def PackSegsUptoSaid : Prop := packSegsUptoRow.holds Tryz.pinned (OpenSpec.upto packSegsSpec)

/-- 'ferrylaw16.PackPlaces', WHERE WHAT IT READS IS OF BULK AT MOST 1048576: true; the input reads as it did. -/
def packPlacesUptoRow : OpenClaim := { program := "ytgdflobcbhnimaagreat", sum := "ddb09a0803b695d8c7d542329011977cf6568a2fcdd3e4430f78c0f6f6fb03f5", func := "ferry/ferrylaw16.PackPlaces", spec := "packPlaces", inPlace := ["internal/bytealg.IndexByteString", "internal/bytealg.IndexString", "internal/abi.NoEscape", "internal/bytealg.MakeNoZero"], unfollowed := true, recurses := true, named := ["internal/bytealg.MaxLen"], apart := false, narrowed := true }
def PackPlacesUptoSaid : Prop := packPlacesUptoRow.holds Tryz.pinned (OpenSpec.upto packPlacesSpec)

end Rows
end Go.Proofs.YtgdflobcbhnimaaGreat
