/- What is proved here: plain facts for the law SwapTurns: turning there and on, a sign that stays, the next multiple. -/
import Derived.Test.YtajlhnojhpomdaaBits
namespace Go.Proofs.Ytajlhnojhpomdaa
open Go.RowKit

theorem rot_rot (v k : Nat) (hv : v < 4294967296) (hk : k ≤ 32) : rotS (rotS v k) (32 - k) = v := by
  have h1 := div_lt_pow v k hv hk
  have h2 := Nat.mod_lt v (pow_pos2 k)
  have h3 := Nat.div_add_mod v (2 ^ k)
  have hp := pow_pos2 (32 - k)
  have e : 32 - (32 - k) = k := by omega
  unfold rotS
  rw [e, Nat.add_mul_div_right _ _ hp, Nat.add_mul_mod_self_right, Nat.div_eq_of_lt h1, Nat.mod_eq_of_lt h1, Nat.zero_add, Nat.mul_comm]
  omega
theorem rotI_rotI (v k : Nat) (hv : v < 4294967296) (hk : k ≤ 32) : rotI (rotI v (k : Int)) (32 - (k : Int)) = v := by
  have e32 : rotS v 32 = v := by
    have h := Nat.div_eq_of_lt hv
    have h2 := Nat.mod_eq_of_lt hv
    unfold rotS
    rw [show (2 : Nat) ^ 32 = 4294967296 from rfl, h, h2]; simp
  unfold rotI
  by_cases h0 : k = 0
  · subst h0
    show rotS (rotS v 0) 0 = v
    rw [rot_zero, rot_zero]
  · by_cases h1 : k = 32
    · subst h1
      show rotS (rotS v 0) 0 = v
      rw [rot_zero, rot_zero]
    · rw [show ((k : Int) % 32).toNat = k from by omega, show ((32 - (k : Int)) % 32).toNat = 32 - k from by omega]
      exact rot_rot v k hv hk
theorem sext_mod (v b : Nat) (h2 : b ≤ 32) : sextS v b % 2 ^ b = v % 2 ^ b := by
  have hs := pow_split b h2
  have hp := pow_pos2 (32 - b)
  unfold sextS
  split
  · have e : v % 2 ^ b + 4294967296 - 2 ^ b = v % 2 ^ b + 2 ^ b * (2 ^ (32 - b) - 1) := by
      rw [Nat.mul_sub, hs, Nat.mul_one]
      have := pow_le32 b h2
      omega
    rw [e, Nat.add_mul_mod_self_left, Nat.mod_mod]
  · rw [Nat.mod_mod]
theorem sext_sext (v b : Nat) (h2 : b ≤ 32) : sextS (sextS v b) b = sextS v b := by
  have h := sext_mod v b h2
  rw [sextS, h]
  rfl
theorem sextI_in (v b : Nat) (h1 : 1 ≤ b) (h2 : b ≤ 32) : sextI v (b : Int) = sextS v b := by
  unfold sextI
  rw [if_pos (by omega), Int.toNat_natCast]
theorem xor_mod (x y q : Nat) (h : x % 2 ^ q = y % 2 ^ q) : (x ^^^ y) % 2 ^ q = 0 := by
  rw [Nat.xor_mod_two_pow, h, Nat.xor_self]
theorem sext_keeps (v b : Nat) (hv : v < 4294967296) (h2 : b ≤ 31) : bits .and .u32 (bits .xor .u32 ((sextS v b : Nat) : Int) (v : Int)) ((2 ^ b - 1) % 4294967296) = 0 := by
  have hx := sext_lt v b (by omega)
  rw [u32_xor_nat _ _ hx hv, and_mask _ b (Nat.xor_lt_two_pow (n := 32) hx hv) h2, xor_mod _ _ _ (sext_mod v b (by omega))]
  rfl

theorem up_good (v b : Nat) (hb : 0 < b) : v ≤ upS v b ∧ upS v b - v < b ∧ upS v b % b = 0 := by
  refine ⟨?_, ?_, Nat.mul_mod_left _ _⟩
  · by_cases h : v % b = 0
    · rw [up_zero v b hb h]; omega
    · rw [up_some v b hb h]; omega
  · by_cases h : v % b = 0
    · rw [up_zero v b hb h]; omega
    · rw [up_some v b hb h]; omega
theorem up_bad (v b : Nat) (hb : 0 < b) (hv : v < 4294967296) (h : ¬ upS v b < 4294967296) : 4294967295 - (b - 1) < v := by
  by_cases h0 : v % b = 0
  · rw [up_zero v b hb h0] at h; omega
  · have := Nat.mod_le v b
    rw [up_some v b hb h0] at h; omega
end Go.Proofs.Ytajlhnojhpomdaa
