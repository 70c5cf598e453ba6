/- What is proved here: plain facts that the laws ask: orders turned, signs turned, classes of what is made. -/
import Derived.Test.YtlchjfdnkplmmaaAwake
import Derived.Test.YtlchjfdnkplmmaaRpicks
import Derived.Laws.Bits64
namespace Go.Proofs.Ytlchjfdnkplmmaa
open Go.RowKit

theorem order_turn (a b : Nat) : (orderN a b = 2 ∧ orderN b a = 2) ∨ (orderN a b = -1 ∧ orderN b a = 1) ∨ (orderN a b = 1 ∧ orderN b a = -1) ∨ (orderN a b = 0 ∧ orderN b a = 0) := by
  unfold orderN orderF
  by_cases h : isNone a ∨ isNone b
  · have h' : isNone b ∨ isNone a := h.symm
    rw [if_pos h, if_pos h']; omega
  · have h' : ¬ (isNone b ∨ isNone a) := fun g => h g.symm
    rw [if_neg h, if_neg h']; (repeat' split) <;> omega
theorem order_self (a : Nat) (h : isNone a) : orderN a a = 2 := by unfold orderN; rw [if_pos (Or.inl h)]
theorem op_add_comm (a b : Nat) : opN .add a b = opN .add b a := by
  unfold opN; exact congrArg (fun o => Option.getD o quietN) (add_comm' a b)
theorem op_mul_comm (a b : Nat) : opN .mul a b = opN .mul b a := by
  unfold opN; exact congrArg (fun o => Option.getD o quietN) (mul_comm' a b)
theorem op_none (op : BinOp) (hop : op = .add ∨ op = .mul ∨ op = .quo) (a b : Nat) (h : isNone a ∨ isNone b) : opN op a b = 9221120237041090560 := by
  unfold opN; rw [none_ofBits hop h]; rfl
theorem op_one (a : Nat) (hA : a < 18446744073709551616) (h : ¬ isNone a) : opN .mul a 4607182418800017408 = a ∧ opN .quo a 4607182418800017408 = a := by
  refine ⟨?_, ?_⟩
  · unfold opN; exact congrArg (fun o => Option.getD o quietN) (mul_one' a hA h)
  · unfold opN; exact congrArg (fun o => Option.getD o quietN) (div_one' a hA h)
theorem op_less_fin (a : Nat) (hA : a < 18446744073709551616) (h : rung a < infR) : opN .add a (flip a) = 0 := by
  unfold opN; exact congrArg (fun o => Option.getD o quietN) (add_neg_fin a hA h)
theorem op_less_inf (a : Nat) (hA : a < 18446744073709551616) (h : rung a = infR) : opN .add a (flip a) = 9221120237041090560 := by
  unfold opN; exact congrArg (fun o => Option.getD o quietN) (add_neg_inf a hA h)
theorem op_lt (op : BinOp) (a b : Nat) : opN op a b < 18446744073709551616 := by
  unfold opN
  cases h : floatBits op .f64 a b with
  | none => decide
  | some r => exact (made_ofBits h).2
theorem xor_flip (a : Nat) (hA : a < 18446744073709551616) : bits .xor .u64 (a : Int) 9223372036854775808 = ((flip a : Nat) : Int) := by
  have := bits_xor_u64_nat a 9223372036854775808 hA (by decide)
  refine this.trans ?_
  congr 1
  unfold flip
  have e : (9223372036854775808 : Nat) = 2 ^ 63 := by decide
  split
  · rename_i h
    rw [e] at h ⊢
    have h1 := Nat.two_pow_add_eq_or_of_lt (i := 63) h 1
    have h2 : a ^^^ 2 ^ 63 = a ||| 2 ^ 63 := by
      apply Nat.eq_of_testBit_eq
      intro i
      rw [Nat.testBit_xor, Nat.testBit_or, Nat.testBit_two_pow]
      by_cases hi : 63 = i
      · subst hi; rw [Nat.testBit_lt_two_pow h]; simp
      · simp [hi]
    rw [h2, Nat.or_comm]
    simp only [Nat.mul_one] at h1
    omega
  · rename_i h
    obtain ⟨c, rfl⟩ : ∃ c, a = 9223372036854775808 + c := ⟨a - 9223372036854775808, by omega⟩
    have hc : c < 2 ^ 63 := by omega
    have h1 := Nat.two_pow_add_eq_or_of_lt (i := 63) hc 1
    simp only [Nat.mul_one] at h1
    have h3 : 9223372036854775808 + c - 9223372036854775808 = c := by omega
    rw [h3, e, h1]
    apply Nat.eq_of_testBit_eq
    intro i
    rw [Nat.testBit_xor, Nat.testBit_or, Nat.testBit_two_pow]
    by_cases hi : 63 = i
    · subst hi; rw [Nat.testBit_lt_two_pow hc]; simp
    · simp [hi]
theorem rank_flip (a : Nat) (hA : a < 18446744073709551616) : rank (flip a) = - rank a := by
  unfold rank; rw [flip_rung a hA, flip_sgn a hA]; cases sgn a <;> simp
theorem flip_inj (a b : Nat) (hA : a < 18446744073709551616) (hB : b < 18446744073709551616) : flip a = flip b ↔ a = b := by
  unfold flip; (repeat' split) <;> omega
theorem pick_lt (least : Bool) (a b : Nat) (hA : a < 18446744073709551616) (hB : b < 18446744073709551616) : pickN least a b < 18446744073709551616 := by
  unfold pickN quietN; (repeat' split) <;> omega
theorem pick_flip (a b : Nat) (hA : a < 18446744073709551616) (hB : b < 18446744073709551616) (ha : ¬ isNone a) (hb : ¬ isNone b) : pickN true (flip a) (flip b) = flip (pickN false a b) := by
  have ha' : ¬ isNone (flip a) := fun h => ha ((flip_none a hA).1 h)
  have hb' : ¬ isNone (flip b) := fun h => hb ((flip_none b hB).1 h)
  have hi := flip_inj a b hA hB
  unfold pickN
  rw [if_neg ha, if_neg hb, if_neg ha', if_neg hb', rank_flip a hA, rank_flip b hB]
  simp only [if_true, Bool.false_eq_true, if_false]
  by_cases h1 : rank a < rank b
  · rw [if_neg (show ¬ (-rank a < -rank b) by omega), if_pos (show -rank b < -rank a by omega), if_pos h1]
  by_cases h2 : rank b < rank a
  · rw [if_pos (show -rank a < -rank b by omega), if_neg h1, if_pos h2]
  rw [if_neg (show ¬ (-rank a < -rank b) by omega), if_neg (show ¬ (-rank b < -rank a) by omega), if_neg h1, if_neg h2]
  by_cases h3 : a = b
  · rw [if_pos h3, if_pos (hi.2 h3)]
  · rw [if_neg h3, if_neg (fun g => h3 (hi.1 g))]; decide
theorem op_mul_flip (a b : Nat) (hA : a < 18446744073709551616) (hB : b < 18446744073709551616) : opN .mul (flip a) (flip b) = opN .mul a b := by
  unfold opN; exact congrArg (fun o => Option.getD o quietN) (mul_flip a b hA hB)
theorem op_add_flip (a b : Nat) (hA : a < 18446744073709551616) (hB : b < 18446744073709551616) :
    (opN .add a b = 9221120237041090560 ∧ opN .add (flip a) (flip b) = 9221120237041090560) ∨
    (¬ isNone (opN .add a b) ∧ rung (opN .add a b) ≠ 0 ∧ opN .add (flip a) (flip b) = flip (opN .add a b)) ∨
    (rung (opN .add a b) = 0 ∧ rung (opN .add (flip a) (flip b)) = 0) := by
  have e : ∀ x y : Nat, opN .add x y = (Ieee.double.add x y).getD quietN := fun _ _ => rfl
  rw [e, e]
  rcases add_flip a b hA hB with ⟨h1, h2⟩ | ⟨r, r', h1, h2, h3, h4⟩
  · left; rw [h1, h2]; exact ⟨rfl, rfl⟩
  · right; rw [h1, h2]
    change (¬ isNone r ∧ rung r ≠ 0 ∧ r' = flip r) ∨ (rung r = 0 ∧ rung r' = 0)
    by_cases h : rung r = 0
    · right; exact ⟨h, by rw [h3, h]⟩
    · left; exact ⟨(add_some h1).1, h, h4 h⟩
end Go.Proofs.Ytlchjfdnkplmmaa
