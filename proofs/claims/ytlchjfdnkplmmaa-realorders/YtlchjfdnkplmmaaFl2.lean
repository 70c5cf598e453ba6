/- What is proved here: numbers written back: exact ones as they are; made whole by a way. -/
import Derived.Test.YtlchjfdnkplmmaaFl
namespace Go.Proofs.Ytlchjfdnkplmmaa
open Ieee

theorem cut_eq (way : Toward) (neg : Bool) (n drop : Nat) : way.cut neg n drop =
    n / 2 ^ drop + (match way with
    | .even => 2 ^ drop < 2 * (n % 2 ^ drop) || (2 ^ drop == 2 * (n % 2 ^ drop) && n / 2 ^ drop % 2 == 1)
    | .down => neg && n % 2 ^ drop != 0
    | .up => !neg && n % 2 ^ drop != 0
    | .zero => false : Bool).toNat := by
  unfold Toward.cut
  simp only [Nat.shiftLeft_eq, Nat.one_mul]
  rcases Nat.le_total drop (n.log2 + 2) with h | h
  · rw [Nat.min_eq_left h]; rfl
  · rw [Nat.min_eq_right h]
    have h1 : n < 2 ^ (n.log2 + 1) := Nat.lt_log2_self
    have h2 : 2 ^ (n.log2 + 2) = 2 * 2 ^ (n.log2 + 1) := by rw [Nat.pow_succ 2 (n.log2 + 1), Nat.mul_comm]
    have h3 : 2 ^ (n.log2 + 2) ≤ 2 ^ drop := Nat.pow_le_pow_right (by decide) h
    rw [Nat.div_eq_of_lt (by omega), Nat.mod_eq_of_lt (show n < 2 ^ (n.log2 + 2) by omega), Nat.div_eq_of_lt (show n < 2 ^ drop by omega), Nat.mod_eq_of_lt (show n < 2 ^ drop by omega)]
    cases way <;> simp
    have g1 : ¬ 2 ^ (n.log2 + 2) < 2 * n := by omega
    have g2 : ¬ 2 ^ drop < 2 * n := by omega
    simp [g1, g2]
theorem cut_exact (way : Toward) (neg : Bool) (m k : Nat) : way.cut neg (m * 2 ^ k) k = m := by
  have hp := Nat.two_pow_pos k
  rw [cut_eq, Nat.mul_div_cancel _ hp, Nat.mul_mod_left]
  cases way <;> simp
theorem cut_zero (way : Toward) (neg : Bool) (m : Nat) : way.cut neg m 0 = m := by
  have := cut_exact way neg m 0; simpa using this

theorem log2_shift (m k : Nat) (h0 : m ≠ 0) : (m * 2 ^ k).log2 = m.log2 + k := by
  have hp := Nat.two_pow_pos k
  have hne : m * 2 ^ k ≠ 0 := Nat.mul_ne_zero h0 (by omega)
  refine (Nat.log2_eq_iff hne).2 ⟨?_, ?_⟩
  · rw [Nat.pow_add]; exact Nat.mul_le_mul_right _ (Nat.log2_self_le h0)
  · rw [show m.log2 + k + 1 = m.log2 + 1 + k by omega, Nat.pow_add]; exact Nat.mul_lt_mul_of_pos_right Nat.lt_log2_self hp
/-- The place of the last digit that is kept, of a rung's own number. -/
theorem last_place (r : Nat) (h0 : mant r ≠ 0) : max (-1074 + (expo r : Int) + ((mant r).log2 : Int) - 52) (-1074) = -1074 + expo r := by
  rcases Nat.lt_or_ge r 4503599627370496 with h | h
  · have he := expo_zero r h
    have hm : mant r = r := by unfold mant; simp [h]
    have hl : (mant r).log2 < 52 := (Nat.log2_lt h0).2 (by omega)
    omega
  · have h1 := mant_ge r h
    have h2 := mant_lt r
    have h3 : (mant r).log2 < 53 := (Nat.log2_lt h0).2 (by omega)
    have h4 : 52 ≤ (mant r).log2 := (Nat.le_log2 h0).2 (by omega)
    omega
theorem fb : double.fractionBits = 52 := rfl
theorem word_def (s : Bool) (r : Nat) : double.word s r = if s then 9223372036854775808 + r else r := by
  unfold Format.word; rw [sw]
theorem mant_zero (r : Nat) : mant r = 0 ↔ r = 0 := by unfold mant; split <;> omega
theorem nearest_exact (s : Bool) (r k : Nat) (h : r < infR) : double.nearest s (mant r * 2 ^ k) (-1074 + expo r - k) = double.word s r := by
  unfold Format.nearest
  by_cases h0 : mant r = 0
  · have := (mant_zero r).1 h0
    subst this; simp [h0]
  · have hp := Nat.two_pow_pos k
    have hne : mant r * 2 ^ k ≠ 0 := Nat.mul_ne_zero h0 (by omega)
    rw [if_neg hne]
    have hl : (mant r * 2 ^ k).log2 = (mant r).log2 + k := log2_shift _ _ h0
    have hlast : max (-1074 + (expo r : Int) - k + ((mant r * 2 ^ k).log2 : Nat) - (double.fractionBits : Nat)) double.leastPlace = -1074 + expo r := by
      have := last_place r h0
      rw [hl, lp, fb]; omega
    dsimp only
    rw [hlast, lp]
    have e1 : (-1074 + (expo r : Int) - k - (-1074 + expo r)).toNat = 0 := by omega
    have e2 : (-1074 + (expo r : Int) - (-1074 + expo r - k)).toNat = k := by omega
    have e3 : (-1074 + (expo r : Int) - -1074).toNat = expo r := by omega
    rw [e1, e2, e3, Nat.shiftLeft_zero, cut_exact, bn, ir, rung_eq, Nat.min_eq_left (Nat.le_of_lt h)]

/-! ### Whole numbers -/
/-- The rung of a whole number below 2^53. -/
def rungOf (c : Nat) : Nat := if c = 0 then 0 else (c.log2 + 1022) * 4503599627370496 + c * 2 ^ (52 - c.log2)
theorem rungOf_parts (c : Nat) (h0 : c ≠ 0) (h : c < 9007199254740992) : c.log2 ≤ 52 ∧ 4503599627370496 ≤ c * 2 ^ (52 - c.log2) ∧ c * 2 ^ (52 - c.log2) < 9007199254740992 := by
  have h1 : c.log2 < 53 := (Nat.log2_lt h0).2 h
  have h2 : 2 ^ c.log2 ≤ c := Nat.log2_self_le h0
  have h3 : c < 2 ^ (c.log2 + 1) := Nat.lt_log2_self
  have e1 : 2 ^ c.log2 * 2 ^ (52 - c.log2) = 4503599627370496 := by
    rw [← Nat.pow_add, show c.log2 + (52 - c.log2) = 52 by omega]
  have e2 : 2 ^ (c.log2 + 1) * 2 ^ (52 - c.log2) = 9007199254740992 := by
    rw [← Nat.pow_add, show c.log2 + 1 + (52 - c.log2) = 53 by omega]
  refine ⟨by omega, ?_, ?_⟩
  · rw [← e1]; exact Nat.mul_le_mul_right _ h2
  · rw [← e2]; exact Nat.mul_lt_mul_of_pos_right h3 (Nat.two_pow_pos _)
theorem rungOf_mant (c : Nat) (h0 : c ≠ 0) (h : c < 9007199254740992) : mant (rungOf c) = c * 2 ^ (52 - c.log2) ∧ expo (rungOf c) = c.log2 + 1022 ∧ rungOf c < infR := by
  obtain ⟨h1, h2, h3⟩ := rungOf_parts c h0 h
  unfold rungOf mant expo infR
  rw [if_neg h0]
  generalize c * 2 ^ (52 - c.log2) = M at *
  generalize c.log2 = L at *
  refine ⟨?_, ?_, ?_⟩
  · rw [if_neg (by omega)]; omega
  · omega
  · omega
theorem rungOf_lt_inf (c : Nat) (h : c < 9007199254740992) : rungOf c < infR := by
  by_cases h0 : c = 0
  · subst h0; decide
  · exact (rungOf_mant c h0 h).2.2
theorem rungOf_val (c u : Nat) (hu : u = 1074) (h : c < 9007199254740992) : val (rungOf c) = c * 2 ^ u := by
  by_cases h0 : c = 0
  · subst h0; simp [rungOf, val, mant]
  · obtain ⟨h1, h2, -⟩ := rungOf_mant c h0 h
    have h3 := (rungOf_parts c h0 h).1
    unfold val
    rw [h1, h2, Nat.mul_assoc, ← Nat.pow_add, show 52 - c.log2 + (c.log2 + 1022) = u by omega]
theorem rungOf_lt (c d : Nat) (hc : c < 9007199254740992) (hd : d < 9007199254740992) : rungOf c < rungOf d ↔ c < d := by
  obtain ⟨u, hu⟩ : ∃ u, u = 1074 := ⟨_, rfl⟩
  rw [← val_lt_iff, rungOf_val c u hu hc, rungOf_val d u hu hd]
  exact Nat.mul_lt_mul_right (Nat.two_pow_pos _)
theorem nearest_whole (s : Bool) (c : Nat) (h : c < 9007199254740992) : double.nearest s c 0 = double.word s (rungOf c) := by
  unfold Format.nearest
  by_cases h0 : c = 0
  · subst h0; simp [rungOf]
  · rw [if_neg h0]
    obtain ⟨h1, h2, h3⟩ := rungOf_parts c h0 h
    have hr := (rungOf_mant c h0 h).2.2
    dsimp only
    rw [lp, fb]
    have hlast : max ((0 : Int) + (c.log2 : Nat) - (52 : Nat)) (-1074) = (c.log2 : Int) - 52 := by omega
    rw [hlast]
    have e1 : (0 - ((c.log2 : Int) - 52)).toNat = 52 - c.log2 := by omega
    have e2 : ((c.log2 : Int) - 52 - 0).toNat = 0 := by omega
    have e3 : ((c.log2 : Int) - 52 - -1074).toNat = c.log2 + 1022 := by omega
    rw [e1, e2, e3, cut_zero, Nat.shiftLeft_eq, bn, ir]
    unfold rungOf at hr ⊢
    rw [if_neg h0] at hr ⊢
    rw [Nat.min_eq_left (Nat.le_of_lt hr)]
theorem rung_word (s : Bool) (r : Nat) (h : r < 9223372036854775808) : rung (double.word s r) = r ∧ sgn (double.word s r) = s := by
  rw [word_def]; unfold rung sgn; cases s <;> simp <;> omega
theorem word_self (x : Nat) (h : x < 18446744073709551616) : double.word (sgn x) (rung x) = x := by
  rw [word_def]; unfold rung sgn
  by_cases g : x / 9223372036854775808 % 2 = 1 <;> simp [g] <;> omega
/-- A whole number, read, is made whole as it is. -/
theorem integral_whole (way : Toward) (s : Bool) (c : Nat) (h : c < 9007199254740992) : (double.read (double.word s (rungOf c))).integral way = .number s c 0 := by
  have hr := rungOf_lt_inf c h
  have hw := rung_word s (rungOf c) (by unfold infR at hr; omega)
  rw [read_num _ (by rw [hw.1]; exact hr), hw.1, hw.2]
  unfold Datum.integral
  by_cases h0 : c = 0
  · subst h0
    have : mant (rungOf 0) = 0 := by decide
    rw [this, show expo (rungOf 0) = 0 by decide]
    have := cut_exact way s 0 1074
    simp only [Nat.zero_mul, Nat.zero_shiftLeft] at this ⊢
    congr 1
  · obtain ⟨h1, h2, -⟩ := rungOf_mant c h0 h
    have h3 := (rungOf_parts c h0 h).1
    rw [h1, h2]
    have e1 : (-1074 + ((c.log2 + 1022 : Nat) : Int)).toNat = 0 := by omega
    have e2 : (-(-1074 + ((c.log2 + 1022 : Nat) : Int))).toNat = 52 - c.log2 := by omega
    dsimp only
    rw [e1, e2, Nat.shiftLeft_zero, cut_exact]
end Go.Proofs.Ytlchjfdnkplmmaa
