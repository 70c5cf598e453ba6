/- What is proved here: where the parts of a list that rises begin and end. -/
import Derived.Test.YtolmcbnammhjjaaSorted
namespace Go.Proofs.Ytolmcbnammhjjaa
open Go.RowKit
set_option linter.unusedVariables false
theorem parts_take (xs : List (Nat × Int)) (h : Srt xs) (a b : Nat) (hab : a ≤ b) : xs.take (lo xs a).length = lo xs a := by
  have e := congrArg (List.take (lo xs a).length) (parts xs h a b hab)
  rw [List.append_assoc, List.take_left] at e
  exact e
theorem parts_drop (xs : List (Nat × Int)) (h : Srt xs) (a b : Nat) (hab : a ≤ b) : xs.drop ((lo xs a).length + (mid xs a b).length) = hi xs b := by
  have e := congrArg (List.drop ((lo xs a).length + (mid xs a b).length)) (parts xs h a b hab)
  rw [← List.length_append, List.drop_left] at e
  rw [← List.length_append]
  exact e
theorem parts_len (xs : List (Nat × Int)) (h : Srt xs) (a b : Nat) (hab : a ≤ b) : xs.length = (lo xs a).length + (mid xs a b).length + (hi xs b).length := by
  have e := congrArg List.length (parts xs h a b hab)
  rw [List.length_append, List.length_append] at e
  exact e
end Go.Proofs.Ytolmcbnammhjjaa
