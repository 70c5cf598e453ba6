/- What is proved here: words of 64 bits, bit by bit. -/
import Derived.Test.YtpaanfeleeomnaaSl
namespace Go.Proofs.Ytpaanfeleeomnaa
open Go.RowKit
set_option maxRecDepth 100000
set_option linter.unusedVariables false
theorem and64 (a b : Nat) (ha : a < 18446744073709551616) (hb : b < 18446744073709551616) : bits .and .u64 (a : Int) (b : Int) = ((a &&& b : Nat) : Int) := by
  have e : (a &&& b) < 18446744073709551616 := Nat.lt_of_le_of_lt Nat.and_le_left ha
  have h : (BitVec.ofInt 64 (a : Int) &&& BitVec.ofInt 64 (b : Int)).toNat = a &&& b := by
    rw [BitVec.ofInt_natCast, BitVec.ofInt_natCast, BitVec.toNat_and, BitVec.toNat_ofNat, BitVec.toNat_ofNat, Nat.mod_eq_of_lt ha, Nat.mod_eq_of_lt hb]
  show IntKind.u64.wrap ((BitVec.ofInt 64 (a : Int) &&& BitVec.ofInt 64 (b : Int)).toNat : Int) = _
  rw [h, IntKind.wrap_u64]
  omega
theorem or64 (a b : Nat) (ha : a < 18446744073709551616) (hb : b < 18446744073709551616) : bits .or .u64 (a : Int) (b : Int) = ((a ||| b : Nat) : Int) := by
  have e : (a ||| b) < 2 ^ 64 := Nat.or_lt_two_pow ha hb
  have h : (BitVec.ofInt 64 (a : Int) ||| BitVec.ofInt 64 (b : Int)).toNat = a ||| b := by
    rw [BitVec.ofInt_natCast, BitVec.ofInt_natCast, BitVec.toNat_or, BitVec.toNat_ofNat, BitVec.toNat_ofNat, Nat.mod_eq_of_lt ha, Nat.mod_eq_of_lt hb]
  show IntKind.u64.wrap ((BitVec.ofInt 64 (a : Int) ||| BitVec.ofInt 64 (b : Int)).toNat : Int) = _
  rw [h, IntKind.wrap_u64]
  omega
/-- The bits of one word that another one has not. -/
def clr (a b : Nat) : Nat := a &&& (18446744073709551615 - b)
theorem andNot64 (a b : Nat) (ha : a < 18446744073709551616) (hb : b < 18446744073709551616) : bits .andNot .u64 (a : Int) (b : Int) = ((clr a b : Nat) : Int) := by
  have e : clr a b < 18446744073709551616 := Nat.lt_of_le_of_lt Nat.and_le_left ha
  have h : (BitVec.ofInt 64 (a : Int) &&& ~~~ BitVec.ofInt 64 (b : Int)).toNat = clr a b := by
    rw [BitVec.ofInt_natCast, BitVec.ofInt_natCast, BitVec.toNat_and, BitVec.toNat_not, BitVec.toNat_ofNat, BitVec.toNat_ofNat, Nat.mod_eq_of_lt ha, Nat.mod_eq_of_lt hb]
    rfl
  show IntKind.u64.wrap ((BitVec.ofInt 64 (a : Int) &&& ~~~ BitVec.ofInt 64 (b : Int)).toNat : Int) = _
  rw [h, IntKind.wrap_u64]
  omega
theorem clr_bit (a b j : Nat) (hb : b < 18446744073709551616) : (clr a b).testBit j = (a.testBit j && (decide (j < 64) && !b.testBit j)) := by
  have e : 18446744073709551615 - b = 2 ^ 64 - (b + 1) := by omega
  rw [clr, Nat.testBit_and, e, Nat.testBit_two_pow_sub_succ (by omega)]
theorem ext64 {a b : Nat} (h : ∀ j, a.testBit j = b.testBit j) : a = b := Nat.eq_of_testBit_eq h
/-- The bits of the bytes from one to another of a word. -/
def maskOf (lo hi : Nat) : Nat := (18446744073709551615 * 2 ^ (8 * lo)) % 18446744073709551616 &&& 18446744073709551615 / 2 ^ (8 * (7 - hi))
theorem ones_bit (j : Nat) : (18446744073709551615 : Nat).testBit j = decide (j < 64) := by
  have := Nat.testBit_two_pow_sub_one 64 j
  simpa using this
theorem mask_bit (lo hi j : Nat) (hl : lo ≤ 7) (hh : hi ≤ 7) : (maskOf lo hi).testBit j = decide (8 * lo ≤ j ∧ j < 8 * hi + 8) := by
  have e1 : (18446744073709551615 * 2 ^ (8 * lo)) % 18446744073709551616 = (18446744073709551615 <<< (8 * lo)) % 2 ^ 64 := by rw [Nat.shiftLeft_eq]
  have e2 : 18446744073709551615 / 2 ^ (8 * (7 - hi)) = 18446744073709551615 >>> (8 * (7 - hi)) := by rw [Nat.shiftRight_eq_div_pow]
  rw [maskOf, Nat.testBit_and, e1, e2, Nat.testBit_mod_two_pow, Nat.testBit_shiftLeft, Nat.testBit_shiftRight, ones_bit, ones_bit]
  clear e1 e2
  rw [Bool.eq_iff_iff]
  simp only [Bool.and_eq_true, decide_eq_true_eq]
  omega
theorem mask_lt (lo hi : Nat) : maskOf lo hi < 18446744073709551616 := Nat.lt_of_le_of_lt Nat.and_le_left (Nat.mod_lt _ (by omega))
end Go.Proofs.Ytpaanfeleeomnaa
