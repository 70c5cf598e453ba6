/-
  No cell of these rows narrows 'for every input' (looked for: loops, veiled, ifaces, maps, wideKeys, modest, calm, conditions, laid).
  DERIVED. THE GIVEN ROWS OF THIS SEAT. 4 by the template 'for every input the law returns true; each argument reads behind the call as it read before'; 0 by the template 'total and deterministic' (their statements: YtkpmkgkfpikpfaaGreatTotals.lean).
  GIVEN WITH THE SEED: the statements are not yours to turn. If you find one false, say at which input.
  Laid BY PROGRAM, IN A SANDBOX (cutbox-rows.mjs): the forced cells as the released guide's own fill.sh prints them over the translation 4f45dbdd77ab3412… (all of the seat's roots in one cut). By AI agents, Wed Nov 11 2026. No macro, syntax, notation, axiom, sorry.
-/
import Derived.Test.YtkpmkgkfpikpfaaGreatChecked
import GoSem.Claim
import GoSem.ClaimJoined
import GoSem.ClaimMapViews
import Derived.JoinedTies
import Derived.KernelRfl
namespace Go.Proofs.YtkpmkgkfpikpfaaGreat
/- THE CELL 'sum', in the pinned program and in every row, IS THE sha256 OF THE DUMP (.gsa) THAT YtkpmkgkfpikpfaaGreatProg.lean LOADS. Nothing in Lean hashes anything: it is a label: what it is worth is what the hold of that sum in a sandbox is worth. -/
noncomputable def Tryz.pinned : Pinned := { name := "ytkpmkgkfpikpfaagreat", sum := "4f45dbdd77ab3412d52cf612d4f314439627df856d30f36b8764139aa0c7d292", checked := Tryz.checked }
namespace Rows
def none {H : Type} : Left H := { results := [], args := [] }

/-- 'ferrylaw06.GmapDoes': WHATEVER THE INPUT: true; the input reads as it did. -/
def gmapDoesSpec : ChangeSpec := { name := "gmapDoes", fn := fun _ => fun
  | [d1, d2, d3, d4, d5] => { results := [.lit (.bool true)], args := [d1, d2, d3, d4, d5] }
  | _ => none }
def gmapDoesRow : OpenClaim := { program := "ytkpmkgkfpikpfaagreat", sum := "4f45dbdd77ab3412d52cf612d4f314439627df856d30f36b8764139aa0c7d292", func := "ferry/ferrylaw06.GmapDoes", spec := "gmapDoes", unfollowed := true, recurses := true, apart := false }
def GmapDoesSaid : Prop := gmapDoesRow.holds Tryz.pinned (OpenSpec.ofChange gmapDoesSpec)

/-- ITS FALSE NEIGHBOUR: 'it returns false'. Refute it at one input. -/
def gmapDoesWrong : ChangeSpec := { name := "gmapDoes", fn := fun _ => fun
  | [d1, d2, d3, d4, d5] => { results := [.lit (.bool false)], args := [d1, d2, d3, d4, d5] }
  | _ => none }
def GmapDoesWrongFalsely : Prop := gmapDoesRow.holds Tryz.pinned (OpenSpec.ofChange gmapDoesWrong)

/-- 'ferrylaw06.GmapFresh': WHATEVER THE INPUT: true; the input reads as it did. -/
def gmapFreshSpec : ChangeSpec := { name := "gmapFresh", fn := fun _ => fun
  | [d1, d2, d3, d4] => { results := [.lit (.bool true)], args := [d1, d2, d3, d4] }
  | _ => none }
def gmapFreshRow : OpenClaim := { program := "ytkpmkgkfpikpfaagreat", sum := "4f45dbdd77ab3412d52cf612d4f314439627df856d30f36b8764139aa0c7d292", func := "ferry/ferrylaw06.GmapFresh", spec := "gmapFresh", unfollowed := true, recurses := true, apart := false }
def GmapFreshSaid : Prop := gmapFreshRow.holds Tryz.pinned (OpenSpec.ofChange gmapFreshSpec)

/-- ITS FALSE NEIGHBOUR: 'it returns false'. Refute it at one input. -/
def gmapFreshWrong : ChangeSpec := { name := "gmapFresh", fn := fun _ => fun
  | [d1, d2, d3, d4] => { results := [.lit (.bool false)], args := [d1, d2, d3, d4] }
  | _ => none }
def GmapFreshWrongFalsely : Prop := gmapFreshRow.holds Tryz.pinned (OpenSpec.ofChange gmapFreshWrong)

/-- 'ferrylaw06.GmapBack': WHATEVER THE INPUT: true; the input reads as it did. -/
def gmapBackSpec : ChangeSpec := { name := "gmapBack", fn := fun _ => fun
  | [d1, d2, d3, d4] => { results := [.lit (.bool true)], args := [d1, d2, d3, d4] }
  | _ => none }
def gmapBackRow : OpenClaim := { program := "ytkpmkgkfpikpfaagreat", sum := "4f45dbdd77ab3412d52cf612d4f314439627df856d30f36b8764139aa0c7d292", func := "ferry/ferrylaw06.GmapBack", spec := "gmapBack", unfollowed := true, recurses := true, apart := false }
def GmapBackSaid : Prop := gmapBackRow.holds Tryz.pinned (OpenSpec.ofChange gmapBackSpec)

/-- ITS FALSE NEIGHBOUR: 'it returns false'. Refute it at one input. -/
def gmapBackWrong : ChangeSpec := { name := "gmapBack", fn := fun _ => fun
  | [d1, d2, d3, d4] => { results := [.lit (.bool false)], args := [d1, d2, d3, d4] }
  | _ => none }
def GmapBackWrongFalsely : Prop := gmapBackRow.holds Tryz.pinned (OpenSpec.ofChange gmapBackWrong)

/-- 'ferrylaw06.GmapRights': WHATEVER THE INPUT: true; the input reads as it did. -/
def gmapRightsSpec : ChangeSpec := { name := "gmapRights", fn := fun _ => fun
  | [d1, d2, d3, d4] => { results := [.lit (.bool true)], args := [d1, d2, d3, d4] }
  | _ => none }
def gmapRightsRow : OpenClaim := { program := "ytkpmkgkfpikpfaagreat", sum := "4f45dbdd77ab3412d52cf612d4f314439627df856d30f36b8764139aa0c7d292", func := "ferry/ferrylaw06.GmapRights", spec := "gmapRights", unfollowed := true, recurses := true, apart := false }
def GmapRightsSaid : Prop := gmapRightsRow.holds Tryz.pinned (OpenSpec.ofChange gmapRightsSpec)

/-- ITS FALSE NEIGHBOUR: 'it returns false'. Refute it at one input. -/
def gmapRightsWrong : ChangeSpec := { name := "gmapRights", fn := fun _ => fun
  | [d1, d2, d3, d4] => { results := [.lit (.bool false)], args := [d1, d2, d3, d4] }
  | _ => none }
def GmapRightsWrongFalsely : Prop := gmapRightsRow.holds Tryz.pinned (OpenSpec.ofChange gmapRightsWrong)

/- THE SECOND FORM. 'bulk': how many values and letters a reading holds, each counted each time it is reached (what is shared counts as often as it is met; a slice's spare places count too). A statement '..UptoSaid' is the law's where the arguments, and the package variables that the reading takes, are together of bulk at most 1048576: NARROWER than '..Said'. Prove '..Said' where nothing that the law and all that it calls make is longer than what came in: it says more and counts as full. Else prove '..UptoSaid'. A law counts once. -/
mutual
def uptoBulk {H : Type} : DataW H → Nat
  | .lit (.string bytes) => bytes.length + 1
  | .lit _ => 1
  | .nil => 1
  | .ptr d => uptoBulk d + 1
  | .slice elems spare => uptoBulkAll elems + uptoBulkAll spare + 1
  | .agg parts => uptoBulkAll parts + 1
  | .iface _ d => uptoBulk d + 1
  | .map entries => uptoBulkEntries entries + 1
  | .held _ => 1
def uptoBulkAll {H : Type} : List (DataW H) → Nat
  | [] => 0
  | d :: r => uptoBulk d + uptoBulkAll r
def uptoBulkEntries {H : Type} : List (Lit × DataW H) → Nat
  | [] => 0
  | x :: r => uptoBulkEntry x + uptoBulkEntries r
def uptoBulkEntry {H : Type} : Lit × DataW H → Nat
  | (.string bytes, d) => bytes.length + uptoBulk d + 1
  | (_, d) => uptoBulk d + 1
 end
def uptoSmall : (H : Type) → List (DataW H) → Bool := fun _ ds => decide (uptoBulkAll ds ≤ 1048576)
def OpenSpec.upto (s : _root_.Go.ChangeSpec) : _root_.Go.OpenSpec := { _root_.Go.OpenSpec.ofChange s with cond := some uptoSmall }

/-- 'ferrylaw06.GmapDoes', WHERE WHAT IT READS IS OF BULK AT MOST 1048576: true; the input reads as it did. -/
def gmapDoesUptoRow : OpenClaim := { program := "ytkpmkgkfpikpfaagreat", sum := "4f45dbdd77ab3412d52cf612d4f314439627df856d30f36b8764139aa0c7d292", func := "ferry/ferrylaw06.GmapDoes", spec := "gmapDoes", unfollowed := true, recurses := true, apart := false, narrowed := true }
def GmapDoesUptoSaid : Prop := gmapDoesUptoRow.holds Tryz.pinned (OpenSpec.upto gmapDoesSpec)

/-- 'ferrylaw06.GmapFresh', WHERE WHAT IT READS IS OF BULK AT MOST 1048576: true; the input reads as it did. -/
def gmapFreshUptoRow : OpenClaim := { program := "ytkpmkgkfpikpfaagreat", sum := "4f45dbdd77ab3412d52cf612d4f314439627df856d30f36b8764139aa0c7d292", func := "ferry/ferrylaw06.GmapFresh", spec := "gmapFresh", unfollowed := true, recurses := true, apart := false, narrowed := true }
def GmapFreshUptoSaid : Prop := gmapFreshUptoRow.holds Tryz.pinned (OpenSpec.upto gmapFreshSpec)

/-- 'ferrylaw06.GmapBack', WHERE WHAT IT READS IS OF BULK AT MOST 1048576: true; the input reads as it did. -/
def gmapBackUptoRow : OpenClaim := { program := "ytkpmkgkfpikpfaagreat", sum := "4f45dbdd77ab3412d52cf612d4f314439627df856d30f36b8764139aa0c7d292", func := "ferry/ferrylaw06.GmapBack", spec := "gmapBack", unfollowed := true, recurses := true, apart := false, narrowed := true }
def GmapBackUptoSaid : Prop := gmapBackUptoRow.holds Tryz.pinned (OpenSpec.upto gmapBackSpec)

/-- 'ferrylaw06.GmapRights', WHERE WHAT IT READS IS OF BULK AT MOST 1048576: true; the input reads as it did. -/
def gmapRightsUptoRow : OpenClaim := { program := "ytkpmkgkfpikpfaagreat", sum := "4f45dbdd77ab3412d52cf612d4f314439627df856d30f36b8764139aa0c7d292", func := "ferry/ferrylaw06.GmapRights", spec := "gmapRights", unfollowed := true, recurses := true, apart := false, narrowed := true }
def GmapRightsUptoSaid : Prop := gmapRightsUptoRow.holds Tryz.pinned (OpenSpec.upto gmapRightsSpec)

end Rows
end Go.Proofs.YtkpmkgkfpikpfaaGreat
