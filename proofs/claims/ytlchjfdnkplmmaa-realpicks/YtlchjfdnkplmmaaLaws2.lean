/- What is proved here: plain facts that the law of whole numbers asks. -/
import Derived.Test.YtlchjfdnkplmmaaLaws
namespace Go.Proofs.Ytlchjfdnkplmmaa
open Go.RowKit

theorem whole_fin (a : Nat) (way : Int) (hA : a < 18446744073709551616) (h : rung a < infR) : rung (wholeN a way) < infR ∧ wholeN a way < 18446744073709551616 := by
  unfold wholeN
  split
  · exact roundW_fin _ a hA h
  · exact ⟨h, hA⟩
theorem whole_twice (a : Nat) (way : Int) (hA : a < 18446744073709551616) (h : rung a < infR) : wholeN (wholeN a way) way = wholeN a way := by
  unfold wholeN
  cases wayOf way with
  | none => rfl
  | some t => exact roundW_twice t a hA h
theorem round_lt (a : Nat) (way : Int) (hA : a < 18446744073709551616) : roundN a way < 18446744073709551616 := by
  unfold roundN
  split
  · decide
  · split
    · rename_i h; exact (whole_fin a way hA h).2
    · exact hA
theorem round_twice (a : Nat) (way : Int) (hA : a < 18446744073709551616) : roundN (roundN a way) way = roundN a way := by
  by_cases h1 : isNone a
  · have e : roundN a way = quietN := by unfold roundN; rw [if_pos h1]
    rw [e]; unfold roundN; rw [if_pos (show isNone quietN by decide +kernel)]
  by_cases h2 : rung a < 9218868437227405312
  · have e : roundN a way = wholeN a way := by unfold roundN; rw [if_neg h1, if_pos h2]
    have hw := whole_fin a way hA h2
    have hn : ¬ isNone (wholeN a way) := by unfold isNone; omega
    rw [e]
    unfold roundN
    rw [if_neg hn, if_pos hw.1, whole_twice a way hA h2]
  · have e : roundN a way = a := by unfold roundN; rw [if_neg h1, if_neg h2]
    rw [e, e]
theorem int_back (n : Int) (h1 : -2147483648 ≤ n) (h2 : n ≤ 2147483647) : intV (ofN n) = n ∧ decide (¬ outOf (cutN (ofN n))) = true := by
  have hb := ofN_back n h1 h2
  have hf := (ofN_fin n h1 h2).1
  have e : cutN (ofN n) = roundW .zero (ofN n) := by unfold cutN; rw [if_pos hf]
  unfold intV
  rw [e, if_neg hb.1]
  exact ⟨hb.2, by simp [hb.1]⟩
end Go.Proofs.Ytlchjfdnkplmmaa
