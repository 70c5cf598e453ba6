/- What is proved here: numbers made whole, plainly: by bits as the document does it; made whole twice as once. -/
import Derived.Test.YtlchjfdnkplmmaaFl3
namespace Go.Proofs.Ytlchjfdnkplmmaa
open Ieee

def roundW (way : Toward) (a : Nat) : Nat := double.write ((double.read a).integral way)
def upOf (way : Toward) (s mid : Bool) : Bool := match way with
  | .even => mid
  | .down => s
  | .up => !s
  | .zero => false
theorem cut_up (way : Toward) (s : Bool) (n d : Nat) : way.cut s n d = n / 2 ^ d + (upOf way s (decide (2 ^ d < 2 * (n % 2 ^ d)) || (decide (2 ^ d = 2 * (n % 2 ^ d)) && decide (n / 2 ^ d % 2 = 1))) && decide (0 < n % 2 ^ d)).toNat := by
  rw [cut_eq]
  have hp := Nat.two_pow_pos d
  congr 2
  generalize n % 2 ^ d = r at *
  generalize n / 2 ^ d = q at *
  generalize 2 ^ d = p at *
  cases way <;> simp only [upOf]
  · rw [Bool.eq_iff_iff]; simp; omega
  · rw [Bool.eq_iff_iff]; simp; omega
  · rw [Bool.eq_iff_iff]; simp; omega
  · rfl
/-- The rung of a number made whole, by its bits. -/
def refR (way : Toward) (s : Bool) (r : Nat) : Nat :=
  if 4841369599423283200 ≤ r then r
  else if r < 4607182418800017408 then (if (upOf way s (decide (4602678819172646912 < r)) && decide (0 < r)) = true then 4607182418800017408 else 0)
  else if (upOf way s (decide (2 ^ (1075 - r / 4503599627370496) / 2 < r % 2 ^ (1075 - r / 4503599627370496)) || (decide (r % 2 ^ (1075 - r / 4503599627370496) = 2 ^ (1075 - r / 4503599627370496) / 2) && (decide (r / 4503599627370496 = 1023) || decide ((r - r % 2 ^ (1075 - r / 4503599627370496)) / 2 ^ (1075 - r / 4503599627370496) % 2 = 1)))) && decide (0 < r % 2 ^ (1075 - r / 4503599627370496))) = true
    then r - r % 2 ^ (1075 - r / 4503599627370496) + 2 ^ (1075 - r / 4503599627370496)
    else r - r % 2 ^ (1075 - r / 4503599627370496)
theorem roundW_inf (way : Toward) (a : Nat) (h : a < 18446744073709551616) (g : rung a = infR) : roundW way a = a := by
  unfold roundW
  rw [read_inf a g]
  change double.word (sgn a) double.infRung = a
  rw [ir]; have := word_self a h; rw [g] at this; exact this
theorem roundW_big (way : Toward) (a : Nat) (h : a < 18446744073709551616) (hf : rung a < infR) (hb : 4841369599423283200 ≤ rung a) : roundW way a = a := by
  unfold roundW
  rw [read_num a hf]
  unfold Datum.integral
  dsimp only
  have he : 1074 ≤ expo (rung a) := by unfold expo; omega
  rw [show (-(-1074 + (expo (rung a) : Int))).toNat = 0 by omega, cut_zero, Nat.shiftLeft_eq]
  have := nearest_exact (sgn a) (rung a) (expo (rung a) - 1074) hf
  rw [word_self a h] at this
  have ep : -1074 + (expo (rung a) : Int) - ((expo (rung a) - 1074 : Nat) : Int) = 0 := by omega
  rw [ep] at this
  rw [show (-1074 + (expo (rung a) : Int)).toNat = expo (rung a) - 1074 by omega]
  exact this
theorem roundW_low (way : Toward) (a : Nat) (hf : rung a < 4841369599423283200) : roundW way a = double.word (sgn a) (rungOf (way.cut (sgn a) (mant (rung a)) (1074 - expo (rung a)))) ∧ way.cut (sgn a) (mant (rung a)) (1074 - expo (rung a)) < 9007199254740992 := by
  have hf' : rung a < infR := by unfold infR; omega
  have he : expo (rung a) < 1074 := by unfold expo; omega
  have hc : way.cut (sgn a) (mant (rung a)) (1074 - expo (rung a)) < 9007199254740992 := by
    rw [cut_up]
    have hm := mant_lt (rung a)
    have h2 : 2 ≤ 2 ^ (1074 - expo (rung a)) := by
      have := Nat.pow_le_pow_right (show 0 < 2 by decide) (show 1 ≤ 1074 - expo (rung a) by omega)
      simpa using this
    have hd : mant (rung a) / 2 ^ (1074 - expo (rung a)) ≤ mant (rung a) / 2 := Nat.div_le_div_left h2 (by decide)
    have ht : ∀ b : Bool, b.toNat ≤ 1 := fun b => by cases b <;> decide
    have := ht (upOf way (sgn a) (decide (2 ^ (1074 - expo (rung a)) < 2 * (mant (rung a) % 2 ^ (1074 - expo (rung a)))) || (decide (2 ^ (1074 - expo (rung a)) = 2 * (mant (rung a) % 2 ^ (1074 - expo (rung a)))) && decide (mant (rung a) / 2 ^ (1074 - expo (rung a)) % 2 = 1))) && decide (0 < mant (rung a) % 2 ^ (1074 - expo (rung a))))
    omega
  refine ⟨?_, hc⟩
  unfold roundW
  rw [read_num a hf']
  unfold Datum.integral
  dsimp only
  rw [show (-1074 + (expo (rung a) : Int)).toNat = 0 by omega, show (-(-1074 + (expo (rung a) : Int))).toNat = 1074 - expo (rung a) by omega, Nat.shiftLeft_zero]
  exact nearest_whole _ _ hc
theorem roundW_cases (way : Toward) (a : Nat) (h : a < 18446744073709551616) (hf : rung a < infR) : (4841369599423283200 ≤ rung a ∧ roundW way a = a) ∨ ∃ c, c < 9007199254740992 ∧ roundW way a = double.word (sgn a) (rungOf c) := by
  rcases Nat.lt_or_ge (rung a) 4841369599423283200 with g | g
  · right; exact ⟨_, (roundW_low way a g).2, (roundW_low way a g).1⟩
  · left; exact ⟨g, roundW_big way a h hf g⟩
/-- The rung of a whole number with so many digits behind the point that are 0. -/
theorem rungOf_shift (c k : Nat) (h1 : 4503599627370496 ≤ c * 2 ^ k) (h2 : c * 2 ^ k ≤ 9007199254740992) (hk1 : 1 ≤ k) (hk : k ≤ 52) : rungOf c = (1074 - k) * 4503599627370496 + c * 2 ^ k := by
  have h0 : c ≠ 0 := by rintro rfl; simp at h1
  unfold rungOf
  rw [if_neg h0]
  have hp := Nat.two_pow_pos k
  rcases Nat.lt_or_ge (c * 2 ^ k) 9007199254740992 with g | g
  · have hl : c.log2 + k = 52 := by
      have e := log2_shift c k h0
      have hne : c * 2 ^ k ≠ 0 := by omega
      have e2 : (c * 2 ^ k).log2 = 52 := (Nat.log2_eq_iff hne).2 ⟨by omega, by omega⟩
      omega
    rw [show 52 - c.log2 = k by omega, show c.log2 + 1022 = 1074 - k by omega]
  · have g' : c * 2 ^ k = 9007199254740992 := by omega
    have hl : c.log2 + k = 53 := by
      have e := log2_shift c k h0
      have hne : c * 2 ^ k ≠ 0 := by omega
      have e2 : (c * 2 ^ k).log2 = 53 := (Nat.log2_eq_iff hne).2 ⟨by omega, by omega⟩
      omega
    have e3 : c * 2 ^ (52 - c.log2) = 4503599627370496 := by
      obtain ⟨k', rfl⟩ : ∃ k', k = k' + 1 := ⟨k - 1, by omega⟩
      rw [show 52 - c.log2 = k' by omega]
      rw [Nat.pow_succ, ← Nat.mul_assoc] at g'
      omega
    rw [e3, g']; omega
theorem roundW_ref (way : Toward) (a : Nat) (h : a < 18446744073709551616) (hf : rung a < infR) : roundW way a = double.word (sgn a) (refR way (sgn a) (rung a)) := by
  rcases Nat.lt_or_ge (rung a) 4841369599423283200 with g | g
  rotate_left
  · unfold refR; rw [if_pos g, word_self a h]; exact roundW_big way a h hf g
  rw [(roundW_low way a g).1]
  congr 1
  rw [cut_up]
  unfold refR
  rw [if_neg (by omega)]
  generalize sgn a = s
  generalize rung a = r at *
  have hq := rung_eq r
  rcases Nat.lt_or_ge r 4607182418800017408 with g2 | g2
  · rw [if_pos g2]
    have hk : 53 ≤ 1074 - expo r := by unfold expo; omega
    have hm := mant_lt r
    have hlt : mant r < 2 ^ (1074 - expo r) := Nat.lt_of_lt_of_le hm (Nat.pow_le_pow_right (show 0 < 2 by decide) hk)
    rw [Nat.div_eq_of_lt hlt, Nat.mod_eq_of_lt hlt, Nat.zero_add]
    have hmid : (decide (2 ^ (1074 - expo r) < 2 * mant r) || (decide (2 ^ (1074 - expo r) = 2 * mant r) && decide (0 % 2 = 1))) = decide (4602678819172646912 < r) := by
      rw [Bool.eq_iff_iff]
      simp only [Bool.or_eq_true, decide_eq_true_eq, Bool.and_eq_true]
      rcases Nat.lt_or_ge r 4602678819172646912 with g3 | g3
      · have hk2 : 54 ≤ 1074 - expo r := by unfold expo; omega
        have := Nat.pow_le_pow_right (show 0 < 2 by decide) hk2
        constructor
        · rintro (x | ⟨-, x⟩) <;> omega
        · intro x; omega
      · have hk2 : 1074 - expo r = 53 := by unfold expo; omega
        have he2 : expo r = 1021 := by omega
        rw [hk2]
        constructor
        · rintro (x | ⟨-, x⟩) <;> omega
        · intro x; left; omega
    have hz : decide (0 < mant r) = decide (0 < r) := by
      have := mant_zero r
      rw [Bool.eq_iff_iff]; simp only [decide_eq_true_eq]; omega
    rw [hmid, hz]
    cases hu : (upOf way s (decide (4602678819172646912 < r)) && decide (0 < r))
    · simp [rungOf]
    · simp only [Bool.toNat_true, if_true]; decide +kernel
  · rw [if_neg (by omega)]
    have hx : expo r = r / 4503599627370496 - 1 := rfl
    have hk : 1074 - expo r = 1075 - r / 4503599627370496 := by omega
    rw [hk]
    generalize hkk : 1075 - r / 4503599627370496 = k at *
    have hk1 : 1 ≤ k := by omega
    have hk52 : k ≤ 52 := by omega
    have hp := Nat.two_pow_pos k
    have hM : 4503599627370496 = 2 ^ (52 - k) * 2 ^ k := by rw [← Nat.pow_add, show 52 - k + k = 52 by omega]
    have hmr : mant r % 2 ^ k = r % 2 ^ k := by
      have e1 : r % 2 ^ k = (expo r * 4503599627370496 + mant r) % 2 ^ k := by rw [hq]
      have e2 : expo r * 4503599627370496 = expo r * 2 ^ (52 - k) * 2 ^ k := by rw [Nat.mul_assoc, ← hM]
      rw [e1, e2, Nat.add_comm, Nat.add_mul_mod_self_right]
    have hm1 := mant_lt r
    have hm2 := mant_ge r (by omega)
    have hdiv := Nat.div_add_mod (mant r) (2 ^ k)
    have hml := Nat.mod_lt (mant r) hp
    -- the whole number below, as a rung
    have hdn : r - r % 2 ^ k = (1074 - k) * 4503599627370496 + mant r / 2 ^ k * 2 ^ k := by
      rw [← hmr, Nat.mul_comm (mant r / 2 ^ k)]; omega
    have hge : 4503599627370496 ≤ mant r / 2 ^ k * 2 ^ k := by
      have : 2 ^ (52 - k) ≤ mant r / 2 ^ k := (Nat.le_div_iff_mul_le hp).2 (by omega)
      have := Nat.mul_le_mul_right (2 ^ k) this
      omega
    have hle : mant r / 2 ^ k * 2 ^ k ≤ mant r := Nat.div_mul_le_self _ _
    have hodd : (decide (r / 4503599627370496 = 1023) || decide ((r - r % 2 ^ k) / 2 ^ k % 2 = 1)) = decide (mant r / 2 ^ k % 2 = 1) := by
      have e1 : (r - r % 2 ^ k) / 2 ^ k = (1074 - k) * 2 ^ (52 - k) + mant r / 2 ^ k := by
        rw [hdn, hM, ← Nat.mul_assoc, ← Nat.add_mul, Nat.mul_div_cancel _ hp]
      rw [e1, Bool.eq_iff_iff]
      simp only [Bool.or_eq_true, decide_eq_true_eq]
      rcases Nat.lt_or_ge k 52 with g4 | g4
      · obtain ⟨j, hj⟩ : ∃ j, 2 ^ (52 - k) = 2 * j := ⟨2 ^ (51 - k), by rw [show 52 - k = 51 - k + 1 by omega, Nat.pow_succ, Nat.mul_comm]⟩
        rw [hj, Nat.mul_left_comm]
        omega
      · have : k = 52 := by omega
        subst this
        have h1 : mant r / 2 ^ 52 = 1 := by omega
        rw [h1]; omega
    have hmid : (decide (2 ^ k < 2 * (r % 2 ^ k)) || (decide (2 ^ k = 2 * (r % 2 ^ k)) && decide (mant r / 2 ^ k % 2 = 1))) = (decide (2 ^ k / 2 < r % 2 ^ k) || (decide (r % 2 ^ k = 2 ^ k / 2) && decide (mant r / 2 ^ k % 2 = 1))) := by
      obtain ⟨j, hj⟩ : ∃ j, 2 ^ k = 2 * j := ⟨2 ^ (k - 1), by rw [show k = k - 1 + 1 by omega, Nat.pow_succ, Nat.mul_comm]; simp⟩
      rw [hj, Bool.eq_iff_iff]
      simp only [Bool.or_eq_true, decide_eq_true_eq, Bool.and_eq_true]
      omega
    rw [hmr, hodd, hmid]
    cases hu : (upOf way s (decide (2 ^ k / 2 < r % 2 ^ k) || (decide (r % 2 ^ k = 2 ^ k / 2) && decide (mant r / 2 ^ k % 2 = 1))) && decide (0 < r % 2 ^ k))
    · simp only [Bool.toNat_false, Nat.add_zero, Bool.false_eq_true, if_false]
      rw [hdn]; exact rungOf_shift _ k hge (by omega) hk1 hk52
    · simp only [Bool.toNat_true, if_true]
      rw [hdn, rungOf_shift _ k (by rw [Nat.add_mul]; omega) ?_ hk1 hk52, Nat.add_mul]
      · rw [Nat.one_mul, Nat.add_assoc]
      · rw [Nat.add_mul]
        have e : (9007199254740992 : Nat) = 2 ^ (53 - k) * 2 ^ k := by rw [← Nat.pow_add, show 53 - k + k = 53 by omega]
        have e4 : mant r / 2 ^ k + 1 ≤ 2 ^ (53 - k) := (Nat.div_lt_iff_lt_mul hp).2 (by omega)
        have e5 := Nat.mul_le_mul_right (2 ^ k) e4
        rw [Nat.add_mul, ← e] at e5
        exact e5
/-- Made whole twice is made whole once. -/
theorem roundW_twice (way : Toward) (a : Nat) (h : a < 18446744073709551616) (hf : rung a < infR) : roundW way (roundW way a) = roundW way a := by
  rcases roundW_cases way a h hf with ⟨-, e⟩ | ⟨c, hc, e⟩
  · rw [e, e]
  · rw [e]
    unfold roundW
    rw [integral_whole way (sgn a) c hc]
    exact nearest_whole _ _ hc
theorem roundW_fin (way : Toward) (a : Nat) (h : a < 18446744073709551616) (hf : rung a < infR) : rung (roundW way a) < infR ∧ roundW way a < 18446744073709551616 := by
  rcases roundW_cases way a h hf with ⟨-, e⟩ | ⟨c, hc, e⟩
  · rw [e]; exact ⟨hf, h⟩
  · have := rungOf_lt_inf c hc
    rw [e]
    refine ⟨by rw [(rung_word _ _ (by unfold infR at this; omega)).1]; exact this, ?_⟩
    unfold infR at this
    rw [word_def]; split <;> omega
end Go.Proofs.Ytlchjfdnkplmmaa
