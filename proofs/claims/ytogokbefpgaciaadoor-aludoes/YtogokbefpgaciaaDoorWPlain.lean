/- What is proved here: plain facts on numbers of 32 bits: signs extended, turns, multiples. -/
import Derived.WalkKit
namespace Go.Proofs.YtogokbefpgaciaaDoor.Sw
open Go.RowKit

/-! ### Signs -/
def sextS (v b : Nat) : Nat := if 2 ^ (b - 1) ≤ v % 2 ^ b then v % 2 ^ b + 4294967296 - 2 ^ b else v % 2 ^ b
def sextI (v : Nat) (b : Int) : Nat := if 1 ≤ b ∧ b ≤ 32 then sextS v b.toNat else v
theorem pow_split (b : Nat) (h : b ≤ 32) : 2 ^ b * 2 ^ (32 - b) = 4294967296 := by
  rw [← Nat.pow_add, show b + (32 - b) = 32 from by omega]
theorem pow_pos2 (b : Nat) : 0 < 2 ^ b := Nat.pow_pos (by decide)
theorem pow_le32 (b : Nat) (h : b ≤ 32) : 2 ^ b ≤ 4294967296 := by
  have := Nat.pow_le_pow_right (show 1 ≤ 2 by decide) h
  exact this
theorem pow_half (b : Nat) (h : 1 ≤ b) : 2 ^ b = 2 * 2 ^ (b - 1) := by
  obtain ⟨c, rfl⟩ : ∃ c, b = c + 1 := ⟨b - 1, by omega⟩
  rw [Nat.pow_succ, Nat.add_sub_cancel, Nat.mul_comm]
theorem sext_lt (v b : Nat) (h : b ≤ 32) : sextS v b < 4294967296 := by
  have h1 := Nat.mod_lt v (pow_pos2 b)
  have h2 := pow_le32 b h
  have h3 := pow_pos2 b
  unfold sextS
  split <;> omega
theorem sext_key (v b : Nat) (h1 : 1 ≤ b) (h2 : b ≤ 32) : wrap32 ((v : Int) * 2 ^ (32 - b) % 4294967296) / 2 ^ (32 - b) % 4294967296 = ((sextS v b : Nat) : Int) := by
  have hs := pow_split b h2
  have hr := pow_pos2 (32 - b)
  have hh := pow_half b h1
  have hlt := Nat.mod_lt v (pow_pos2 b)
  have hq := pow_le32 b h2
  have hq0 := pow_pos2 b
  have e1 : (v : Int) * 2 ^ (32 - b) % 4294967296 = ((v % 2 ^ b * 2 ^ (32 - b) : Nat) : Int) := by
    rw [← Nat.mul_mod_mul_right, hs]
    simp
  rw [e1]
  have e2 : ((2 : Int) ^ (32 - b)) = ((2 ^ (32 - b) : Nat) : Int) := by simp
  rw [e2]
  unfold sextS
  generalize hrr : 2 ^ (32 - b) = r at *
  generalize hll : v % 2 ^ b = l at *
  generalize hqq : 2 ^ b = q at *
  generalize hpp : 2 ^ (b - 1) = p at *
  have hpr : p * r * 2 = 4294967296 := by rw [← hs, hh, Nat.mul_right_comm, Nat.mul_comm p 2]
  by_cases hc : p ≤ l
  · rw [if_pos hc]
    have k1 : p * r ≤ l * r := Nat.mul_le_mul_right _ hc
    have k2 : l * r < q * r := Nat.mul_lt_mul_of_pos_right hlt hr
    have e3 : wrap32 ((l * r : Nat) : Int) = ((l : Int) - q) * r := by
      rw [Int.sub_mul, ← Int.natCast_mul, ← Int.natCast_mul, hs]
      unfold wrap32
      omega
    rw [e3, Int.mul_ediv_cancel _ (by omega)]
    omega
  · rw [if_neg hc]
    have k1 : l * r < p * r := Nat.mul_lt_mul_of_pos_right (by omega) hr
    have e3 : wrap32 ((l * r : Nat) : Int) = (l : Int) * r := by
      rw [← Int.natCast_mul]
      unfold wrap32
      omega
    rw [e3, Int.mul_ediv_cancel _ (by omega)]
    omega
theorem and_mask (v b : Nat) (hv : v < 4294967296) (h2 : b ≤ 31) : bits .and .u32 (v : Int) ((2 ^ b - 1) % 4294967296) = ((v % 2 ^ b : Nat) : Int) := by
  have hq : 2 ^ b ≤ 2147483648 := Nat.pow_le_pow_right (show 1 ≤ 2 by decide) h2
  have hq0 := pow_pos2 b
  have e : ((2 : Int) ^ b - 1) % 4294967296 = ((2 ^ b - 1 : Nat) : Int) := by
    have e2 : ((2 : Int) ^ b) = ((2 ^ b : Nat) : Int) := by simp
    rw [e2]; omega
  rw [e, u32_and_nat _ _ hv (by omega), Nat.and_two_pow_sub_one_eq_mod]
theorem or_high (v b : Nat) (h2 : b ≤ 31) : bits .or .u32 ((v % 2 ^ b : Nat) : Int) (4294967295 - (2 ^ b - 1) % 4294967296) = ((v % 2 ^ b + 4294967296 - 2 ^ b : Nat) : Int) := by
  have hq : 2 ^ b ≤ 2147483648 := Nat.pow_le_pow_right (show 1 ≤ 2 by decide) h2
  have hq0 := pow_pos2 b
  have hlt := Nat.mod_lt v hq0
  have hs := pow_split b (by omega)
  have e : 4294967295 - ((2 : Int) ^ b - 1) % 4294967296 = ((4294967296 - 2 ^ b : Nat) : Int) := by
    have e2 : ((2 : Int) ^ b) = ((2 ^ b : Nat) : Int) := by simp
    rw [e2]; omega
  rw [e, u32_or_nat _ _ (by omega) (by omega), Nat.or_comm, nat_join b _ _ ?_ hlt]
  · omega
  · have e3 : 4294967296 - 2 ^ b = 2 ^ b * (2 ^ (32 - b) - 1) := by rw [Nat.mul_sub, hs, Nat.mul_one]
    rw [e3, Nat.mul_mod_right]
theorem test_high (v b : Nat) (h1 : 1 ≤ b) : (((v % 2 ^ b : Nat) : Int) / 2 ^ (b - 1) == 1) = decide (2 ^ (b - 1) ≤ v % 2 ^ b) := by
  have hh := pow_half b h1
  have hlt := Nat.mod_lt v (pow_pos2 b)
  have hp := pow_pos2 (b - 1)
  have e2 : ((2 : Int) ^ (b - 1)) = ((2 ^ (b - 1) : Nat) : Int) := by simp
  rw [e2, ← Int.natCast_ediv]
  generalize 2 ^ (b - 1) = p at *
  generalize v % 2 ^ b = l at *
  rw [Bool.eq_iff_iff]
  simp only [beq_iff_eq, decide_eq_true_eq]
  constructor
  · intro h
    have h' : l / p = 1 := by omega
    have := Nat.div_mul_le_self l p
    rw [h'] at this; omega
  · intro h
    have h' : l / p = 1 := by
      rw [Nat.div_eq_iff hp]; omega
    rw [h']; rfl

/-! ### Turns -/
def rotS (v d : Nat) : Nat := v / 2 ^ d + v % 2 ^ d * 2 ^ (32 - d)
theorem and_31 (n : Int) : bits .and .i64 n 31 = n % 32 := by
  have h31 : (BitVec.ofInt 64 31).toNat = 2 ^ 5 - 1 := by decide
  have key : (BitVec.ofInt 64 n &&& BitVec.ofInt 64 31).toNat = (n % ((2 ^ 64 : Nat) : Int)).toNat % 2 ^ 5 := by
    rw [BitVec.toNat_and, h31, Nat.and_two_pow_sub_one_eq_mod, BitVec.toNat_ofInt]
  show IntKind.i64.wrap ((BitVec.ofInt 64 n &&& BitVec.ofInt 64 31).toNat : Nat) = n % 32
  rw [key, IntKind.wrap_i64]
  omega
theorem div_lt_pow (v d : Nat) (hv : v < 4294967296) (hd : d ≤ 32) : v / 2 ^ d < 2 ^ (32 - d) := by
  rw [Nat.div_lt_iff_lt_mul (pow_pos2 d), Nat.mul_comm, pow_split d hd]; exact hv
theorem rot_lt (v d : Nat) (hv : v < 4294967296) (hd : d ≤ 32) : rotS v d < 4294967296 := by
  have h1 := div_lt_pow v d hv hd
  have h2 := Nat.mod_lt v (pow_pos2 d)
  have h3 := pow_split d hd
  have h4 : (v % 2 ^ d + 1) * 2 ^ (32 - d) ≤ 2 ^ d * 2 ^ (32 - d) := Nat.mul_le_mul_right _ h2
  unfold rotS
  rw [Nat.add_mul, Nat.one_mul] at h4
  omega
theorem rot_key (v d : Nat) (hv : v < 4294967296) (hd : d ≤ 32) : bits .or .u32 ((v : Int) / 2 ^ d) ((v : Int) * 2 ^ (32 - d) % 4294967296) = ((rotS v d : Nat) : Int) := by
  have hs := pow_split d hd
  have h1 := div_lt_pow v d hv hd
  have h5 := rot_lt v d hv hd
  have e1 : (v : Int) * 2 ^ (32 - d) % 4294967296 = ((v % 2 ^ d * 2 ^ (32 - d) : Nat) : Int) := by
    rw [← Nat.mul_mod_mul_right, hs]
    simp
  have e2 : (v : Int) / 2 ^ d = ((v / 2 ^ d : Nat) : Int) := by simp
  unfold rotS at h5 ⊢
  rw [e1, e2, u32_or_nat _ _ (by omega) (by omega), Nat.or_comm, nat_join (32 - d) _ _ (Nat.mul_mod_left _ _) h1]
  omega
theorem rot_zero (v : Nat) : rotS v 0 = v := by simp [rotS, Nat.mod_one]

/-! ### Multiples -/
def upS (v by_ : Nat) : Nat := (v + by_ - 1) / by_ * by_
end Go.Proofs.YtogokbefpgaciaaDoor.Sw
