/- What is proved here: whole numbers of 32 bits, plainly: which numbers are some, and that one comes back. -/
import Derived.Test.YtlchjfdnkplmmaaFl4
import Derived.Laws.FloatArith
namespace Go.Proofs.Ytlchjfdnkplmmaa
open Ieee

theorem rungOf_31 : rungOf 2147483648 = 4746794007248502784 := by decide +kernel
theorem rungOf_31m : rungOf 2147483647 = 4746794007244308480 := by decide +kernel
theorem rank_word (s : Bool) (g : Nat) (h : g < 9223372036854775808) : rank (double.word s g) = if s then -(g : Int) else g := by
  unfold rank; rw [(rung_word s g h).1, (rung_word s g h).2]
theorem rank_const_m : rank 13970166044103278592 = -4746794007248502784 := by decide +kernel
theorem rank_const_31m : rank 4746794007244308480 = 4746794007244308480 := by decide +kernel
theorem rank_const_31 : rank 4746794007248502784 = 4746794007248502784 := by decide +kernel
/-- Out of 32 bits. -/
def outOf (x : Nat) : Prop := rank x < -4746794007248502784 ∨ 4746794007244308480 < rank x
instance (x : Nat) : Decidable (outOf x) := inferInstanceAs (Decidable (_ ∨ _))
def toIntV (x : Nat) : Int := ((double.read x).toInt .zero).getD 0
theorem toInt_word (s : Bool) (c : Nat) (h : c < 9007199254740992) : (double.read (double.word s (rungOf c))).toInt .zero = some (if s then -(c : Int) else c) := by
  unfold Datum.toInt
  rw [integral_whole .zero s c h]
  simp only [signed_zero]
theorem out_word (s : Bool) (c : Nat) (h : c < 9007199254740992) : outOf (double.word s (rungOf c)) ↔ ¬ (-2147483648 ≤ (if s then -(c : Int) else c) ∧ (if s then -(c : Int) else c) ≤ 2147483647) := by
  have hr := rungOf_lt_inf c h
  unfold infR at hr
  unfold outOf
  rw [rank_word s _ (by omega)]
  have h1 := rungOf_lt 2147483648 c (by decide) h
  have h2 := rungOf_lt 2147483647 c (by decide) h
  rw [rungOf_31] at h1
  rw [rungOf_31m] at h2
  cases s <;> simp only [if_true, Bool.false_eq_true, if_false] <;> omega
theorem out_big (a : Nat) (h : 4841369599423283200 ≤ rung a) : outOf a := by
  unfold outOf rank; split <;> omega
/-- A number made whole that is not out of 32 bits is turned to a whole one. -/
theorem toInt_in (a : Nat) (h : a < 18446744073709551616) (hf : rung a < infR) (hi : ¬ outOf (roundW .zero a)) : floatToIntVal .f64 (roundW .zero a) .i32 = some (toIntV (roundW .zero a)) := by
  rcases roundW_cases .zero a h hf with ⟨g, e⟩ | ⟨c, hc, e⟩
  · rw [e] at hi; exact absurd (out_big a g) hi
  · rw [e] at hi ⊢
    have ht := toInt_word (sgn a) c hc
    rw [out_word (sgn a) c hc] at hi
    have hi' := Decidable.not_not.1 hi
    unfold floatToIntVal toIntV
    rw [ht]
    change (match (double.read _).toInt .zero with | some n => _ | none => _) = _
    rw [ht]
    have hlo : IntKind.min .i32 = -2147483648 := by decide
    have hhi : IntKind.max .i32 = 2147483647 := by decide
    simp only [hlo, hhi, Option.getD]
    rw [if_pos hi']
/-- The document asks by other bounds. -/
theorem out_ref (a : Nat) (h : a < 18446744073709551616) (hf : rung a < infR) : outOf (roundW .zero a) ↔ (4746794007248502784 ≤ rank (roundW .zero a) ∨ rank (roundW .zero a) < -4746794007248502784) := by
  rcases roundW_cases .zero a h hf with ⟨g, e⟩ | ⟨c, hc, e⟩
  · rw [e]
    refine ⟨fun _ => ?_, fun _ => out_big a g⟩
    unfold rank; split <;> omega
  · rw [e, out_word (sgn a) c hc]
    have hr := rungOf_lt_inf c hc
    unfold infR at hr
    rw [rank_word (sgn a) _ (by omega)]
    have h1 := rungOf_lt 2147483648 c (by decide) hc
    have h2 := rungOf_lt c 2147483648 hc (by decide)
    rw [rungOf_31] at h1 h2
    cases sgn a <;> simp only [if_true, Bool.false_eq_true, if_false] <;> omega
/-- The number of a whole one. -/
def ofN (n : Int) : Nat := double.nearest (decide (n < 0)) n.natAbs 0
theorem ofN_word (n : Int) (h1 : -2147483648 ≤ n) (h2 : n ≤ 2147483647) : ofN n = double.word (decide (n < 0)) (rungOf n.natAbs) := nearest_whole _ _ (by omega)
theorem ofN_fin (n : Int) (h1 : -2147483648 ≤ n) (h2 : n ≤ 2147483647) : rung (ofN n) < infR ∧ ofN n < 18446744073709551616 := by
  rw [ofN_word n h1 h2]
  have hr := rungOf_lt_inf n.natAbs (by omega)
  refine ⟨by rw [(rung_word _ _ (by unfold infR at hr; omega)).1]; exact hr, ?_⟩
  unfold infR at hr
  rw [word_def]; split <;> omega
/-- A whole number comes back. -/
theorem ofN_back (n : Int) (h1 : -2147483648 ≤ n) (h2 : n ≤ 2147483647) : ¬ outOf (roundW .zero (ofN n)) ∧ toIntV (roundW .zero (ofN n)) = n := by
  have hc : n.natAbs < 9007199254740992 := by omega
  have e : roundW .zero (ofN n) = double.word (decide (n < 0)) (rungOf n.natAbs) := by
    unfold roundW
    rw [ofN_word n h1 h2, integral_whole .zero _ _ hc]
    exact nearest_whole _ _ hc
  have hv : (if decide (n < 0) = true then -(n.natAbs : Int) else n.natAbs) = n := by
    by_cases g : n < 0 <;> simp [g] <;> omega
  rw [e, out_word _ _ hc]
  unfold toIntV
  rw [toInt_word _ _ hc, hv]
  exact ⟨fun h => h ⟨h1, h2⟩, rfl⟩
end Go.Proofs.Ytlchjfdnkplmmaa
