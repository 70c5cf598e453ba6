/- What is proved here: the walk of DecWords. -/
import Derived.Test.YtogokbefpgaciaaDoorPl
namespace Go.Proofs.YtogokbefpgaciaaDoor
open Go.RowKit
set_option linter.unusedVariables false
set_option linter.unusedSimpArgs false
set_option maxRecDepth 100000
theorem fld_and (x f k : Nat) : (x &&& f) / 2 ^ k % 32 = (x / 2 ^ k % 32) &&& (f / 2 ^ k % 32) := by
  refine Nat.eq_of_testBit_eq (fun j => ?_)
  rw [show (32 : Nat) = 2 ^ 5 from rfl]
  simp only [Nat.testBit_mod_two_pow, Nat.testBit_and, Nat.testBit_div_two_pow]
  cases decide (j < 5) <;> simp
theorem and_31 (y : Nat) (h : y < 32) : y &&& 31 = y := by
  have := Nat.and_two_pow_sub_one_eq_mod y 5
  rw [show (31 : Nat) = 2 ^ 5 - 1 from rfl, this]; omega
theorem and_0 (y : Nat) : y &&& 0 = 0 := Nat.and_zero y
theorem or_add (a b k : Nat) (h : b < 2 ^ k) : a * 2 ^ k ||| b = a * 2 ^ k + b := by
  rw [Nat.mul_comm]; exact (Nat.two_pow_add_eq_or_of_lt h a).symm
theorem sh_addu : rowsL[21]'(by rw [rows_len]; decide) = ⟨⟨#[97, 100, 100, 117]⟩, 0, 33, ⟨#[100, 115, 116]⟩⟩ := rfl
theorem sh_lw : rowsL[70]'(by rw [rows_len]; decide) = ⟨⟨#[108, 119]⟩, 35, 0, ⟨#[116, 109]⟩⟩ := rfl
theorem fold_addu : foldF (formL ⟨#[100, 115, 116]⟩) = (67106816, 0) := by decide +kernel
theorem fold_lw : foldF (formL ⟨#[116, 109]⟩) = (67043328, 65535) := by decide +kernel
theorem addu_word (a b c : Nat) (ha : a < 32) (hb : b < 32) (hc : c < 32) : isIns ⟨⟨#[97, 100, 100, 117]⟩, b, c, a, 0, 0⟩ = true ∧ encN ⟨⟨#[97, 100, 100, 117]⟩, b, c, a, 0, 0⟩ = b * 2097152 + c * 65536 + a * 2048 + 33 := by
  have hl : 21 < rowsL.length := by rw [rows_len]; decide
  have hs : rowsL[21].shape = ⟨⟨#[97, 100, 100, 117]⟩, 0, 33, ⟨#[100, 115, 116]⟩, 67106816, 0⟩ := by
    rw [sh_addu, Rw.shape]; simp only; rw [fold_addu]
  obtain ⟨X, hX⟩ : ∃ X, X = b * 2097152 + c * 65536 + a * 2048 + 33 := ⟨_, rfl⟩
  have hw : wordN rowsL[21].shape ⟨⟨#[97, 100, 100, 117]⟩, b, c, a, 0, 0⟩ = X := by
    rw [hs]
    have s1 : shN (b : Int) 2097152 = b * 2 ^ 21 := shN_small b 2097152 (by omega) (by omega)
    have s2 : shN (c : Int) 65536 = c * 2 ^ 16 := shN_small c 65536 (by omega) (by omega)
    have s3 : shN (a : Int) 2048 = a * 2 ^ 11 := shN_small a 2048 (by omega) (by omega)
    have s4 : shN 0 64 = 0 := rfl
    have sd : isDsd ⟨⟨#[97, 100, 100, 117]⟩, 0, 33, ⟨#[100, 115, 116]⟩, 67106816, 0⟩ = false := by decide +kernel
    simp only [wordN, bareN, sd, s1, s2, s3, s4]
    simp only [Nat.zero_mul, Nat.zero_mod, Nat.zero_or, Nat.or_zero, Bool.false_eq_true, if_false]
    rw [Nat.or_comm, Nat.or_assoc, Nat.or_assoc, or_add a 33 11 (by omega), or_add c _ 16 (by omega), or_add b _ 21 (by omega), hX]
    omega
  have hi : insN rowsL[21].shape X = ⟨⟨#[97, 100, 100, 117]⟩, b, c, a, 0, 0⟩ := by
    rw [hs]
    have f1 : (X &&& 67106816) / 2097152 % 32 = b := by
      rw [show (2097152 : Nat) = 2 ^ 21 from rfl, fld_and, show 67106816 / 2 ^ 21 % 32 = 31 from rfl, and_31 _ (Nat.mod_lt _ (by decide))]; omega
    have f2 : (X &&& 67106816) / 65536 % 32 = c := by
      rw [show (65536 : Nat) = 2 ^ 16 from rfl, fld_and, show 67106816 / 2 ^ 16 % 32 = 31 from rfl, and_31 _ (Nat.mod_lt _ (by decide))]; omega
    have f3 : (X &&& 67106816) / 2048 % 32 = a := by
      rw [show (2048 : Nat) = 2 ^ 11 from rfl, fld_and, show 67106816 / 2 ^ 11 % 32 = 31 from rfl, and_31 _ (Nat.mod_lt _ (by decide))]; omega
    have f4 : (X &&& 67106816) / 64 % 32 = 0 := by
      rw [show (64 : Nat) = 2 ^ 6 from rfl, fld_and, show 67106816 / 2 ^ 6 % 32 = 0 from rfl, and_0]
    simp only [insN, f1, f2, f3, f4, Nat.and_zero, Nat.zero_div]
    rfl
  have hal : allowsB rowsL[21].shape ⟨⟨#[97, 100, 100, 117]⟩, b, c, a, 0, 0⟩ = true := by
    rw [hs, allowsB, show ((⟨#[100, 115, 116]⟩ : ByteArray).toList == [116, 100]) = false from by decide +kernel, show ((⟨#[97, 100, 100, 117]⟩ : ByteArray).toList == [101, 120, 116]) = false from by decide +kernel, show ((⟨#[97, 100, 100, 117]⟩ : ByteArray).toList == [105, 110, 115]) = false from by decide +kernel]
    rfl
  have := ins_of (i := ⟨⟨#[97, 100, 100, 117]⟩, b, c, a, 0, 0⟩) hl (by rw [sh_addu]) (by rw [belongB, hw, hi, inEq_refl, hal]; simp)
  rw [hw, hX] at this
  exact this
theorem lw_word (a b c : Nat) (ha : a < 32) (hb : b < 32) (hc : c < 32) : isIns ⟨⟨#[108, 119]⟩, b, a, 0, 0, c⟩ = true ∧ encN ⟨⟨#[108, 119]⟩, b, a, 0, 0, c⟩ = 2348810240 + b * 2097152 + a * 65536 + c := by
  have hl : 70 < rowsL.length := by rw [rows_len]; decide
  have hs : rowsL[70].shape = ⟨⟨#[108, 119]⟩, 35, 0, ⟨#[116, 109]⟩, 67043328, 65535⟩ := by
    rw [sh_lw, Rw.shape]; simp only; rw [fold_lw]
  obtain ⟨X, hX⟩ : ∃ X, X = 2348810240 + b * 2097152 + a * 65536 + c := ⟨_, rfl⟩
  have hw : wordN rowsL[70].shape ⟨⟨#[108, 119]⟩, b, a, 0, 0, c⟩ = X := by
    rw [hs]
    have s1 : shN (b : Int) 2097152 = b * 2 ^ 21 := shN_small b 2097152 (by omega) (by omega)
    have s2 : shN (a : Int) 65536 = a * 2 ^ 16 := shN_small a 65536 (by omega) (by omega)
    have s3 : shN 0 2048 = 0 := rfl
    have s4 : shN 0 64 = 0 := rfl
    have sd : isDsd ⟨⟨#[108, 119]⟩, 35, 0, ⟨#[116, 109]⟩, 67043328, 65535⟩ = false := by decide +kernel
    have st : tzN 65535 = 0 := by decide +kernel
    have so : 35 * 67108864 % 4294967296 = 35 * 2 ^ 26 := by decide
    simp only [wordN, bareN, sd, s1, s2, s3, s4, st]
    rw [so]
    simp only [Nat.or_zero, Bool.false_eq_true, if_false, Nat.pow_zero, Nat.mul_one]
    rw [Nat.mod_eq_of_lt (show c < 4294967296 by omega), Nat.or_assoc, Nat.or_assoc, or_add a c 16 (by omega), or_add b _ 21 (by omega), or_add 35 _ 26 (by omega), hX]
    omega
  have hi : insN rowsL[70].shape X = ⟨⟨#[108, 119]⟩, b, a, 0, 0, c⟩ := by
    rw [hs]
    have f1 : (X &&& 67043328) / 2097152 % 32 = b := by
      rw [show (2097152 : Nat) = 2 ^ 21 from rfl, fld_and, show 67043328 / 2 ^ 21 % 32 = 31 from rfl, and_31 _ (Nat.mod_lt _ (by decide))]; omega
    have f2 : (X &&& 67043328) / 65536 % 32 = a := by
      rw [show (65536 : Nat) = 2 ^ 16 from rfl, fld_and, show 67043328 / 2 ^ 16 % 32 = 31 from rfl, and_31 _ (Nat.mod_lt _ (by decide))]; omega
    have f3 : (X &&& 67043328) / 2048 % 32 = 0 := by
      rw [show (2048 : Nat) = 2 ^ 11 from rfl, fld_and, show 67043328 / 2 ^ 11 % 32 = 0 from rfl, and_0]
    have f4 : (X &&& 67043328) / 64 % 32 = 0 := by
      rw [show (64 : Nat) = 2 ^ 6 from rfl, fld_and, show 67043328 / 2 ^ 6 % 32 = 0 from rfl, and_0]
    have f5 : (X &&& 65535) / 2 ^ tzN 65535 = c := by
      rw [show tzN 65535 = 0 from by decide +kernel, Nat.pow_zero, Nat.div_one, show (65535 : Nat) = 2 ^ 16 - 1 from rfl, Nat.and_two_pow_sub_one_eq_mod]; omega
    simp only [insN, f1, f2, f3, f4, f5]
    rfl
  have hal : allowsB rowsL[70].shape ⟨⟨#[108, 119]⟩, b, a, 0, 0, c⟩ = true := by
    rw [hs, allowsB, show ((⟨#[116, 109]⟩ : ByteArray).toList == [116, 100]) = false from by decide +kernel, show ((⟨#[108, 119]⟩ : ByteArray).toList == [101, 120, 116]) = false from by decide +kernel, show ((⟨#[108, 119]⟩ : ByteArray).toList == [105, 110, 115]) = false from by decide +kernel]
    rfl
  have := ins_of (i := ⟨⟨#[108, 119]⟩, b, a, 0, 0, c⟩) hl (by rw [sh_lw]) (by rw [belongB, hw, hi, inEq_refl, hal]; simp)
  rw [hw, hX] at this
  exact this
theorem enc_inj {i j : In} (hi : isIns i = true) (hj : isIns j = true) (h : encN i = encN j) : i = j := by
  rw [← (back2 hi).2, ← (back2 hj).2, h]
end Go.Proofs.YtogokbefpgaciaaDoor
