/- What is proved here: a number's lowest bytes, read again, are its remainder; bytes read and written again are the same. -/
import Derived.Test.YtgdflobcbhnimaaGreatWPut
namespace Go.Proofs.YtgdflobcbhnimaaGreat.W
open Go.RowKit
set_option linter.unusedVariables false
set_option linter.unusedSimpArgs false
set_option maxRecDepth 100000
theorem foldl_from (l : List UInt8) : ∀ v : Nat, l.foldl (fun v c => v * 256 + c.toNat) v = v * 256 ^ l.length + beL l := by
  induction l with
  | nil => intro v; simp [beL]
  | cons c m ih =>
    intro v
    have h1 := ih (v * 256 + c.toNat)
    have h2 := ih (0 * 256 + c.toNat)
    simp only [beL, List.foldl_cons, List.length_cons] at h1 h2 ⊢
    rw [h1, h2, Nat.pow_succ, Nat.add_mul, Nat.add_mul, Nat.zero_mul, Nat.mul_comm (256 ^ m.length) 256, Nat.mul_assoc]
    omega
theorem beL_append (l m : List UInt8) : beL (l ++ m) = beL l * 256 ^ m.length + beL m := by
  rw [beL, List.foldl_append, foldl_from]; rfl
theorem pow256 (k : Nat) : 256 ^ k = 2 ^ (8 * k) := by rw [Nat.pow_mul]
theorem beL_one (c : UInt8) : beL [c] = c.toNat := by simp [beL]
theorem beL_leB (v k : Nat) : beL (leB v k).reverse = v % 2 ^ (8 * k) := by
  induction k with
  | zero => simp [leB, beL, Nat.mod_one]
  | succ k ih =>
    have h : (UInt8.ofNat (byteAt v k)).toNat = byteAt v k := by simp [Nat.mod_eq_of_lt (byteAt_lt v k)]
    rw [leB, List.reverse_append, List.reverse_singleton, beL_append, beL_one, ih, h, List.length_reverse, leB_length, pow256, Nat.mul_add, Nat.pow_add, Nat.mod_mul, byteAt, Nat.mul_comm, show 2 ^ (8 * 1) = 256 from rfl]
    omega

/-- The two strings of SwapBack. -/
theorem byteAt_zero (v : Nat) : byteAt v 0 = v % 256 := by simp [byteAt]
theorem byteAt_succ (v k : Nat) : byteAt v (k + 1) = byteAt (v / 256) k := by
  unfold byteAt
  rw [Nat.div_div_eq_div_mul, Nat.mul_add, Nat.pow_add, Nat.mul_comm]
theorem leB_cons (v k : Nat) : leB v (k + 1) = UInt8.ofNat (v % 256) :: leB (v / 256) k := by
  induction k with
  | zero => simp [leB, byteAt_zero]
  | succ k ih => rw [leB, ih, leB, byteAt_succ]; simp
theorem leB_beL (m : List UInt8) : ∀ l : List UInt8, m = l.reverse → leB (beL l) l.length = m := by
  induction m with
  | nil => intro l h; have : l = [] := by simpa using h.symm
           subst this; rfl
  | cons c m ih =>
    intro l h
    have hl : l = m.reverse ++ [c] := by rw [← List.reverse_reverse l, ← h]; simp
    subst hl
    have hc := c.toNat_lt
    have e1 : (beL m.reverse * 256 + c.toNat) % 256 = c.toNat := by omega
    have e2 : (beL m.reverse * 256 + c.toNat) / 256 = beL m.reverse := by omega
    rw [beL_snoc, List.length_append, List.length_singleton, leB_cons, e1, e2, ih m.reverse (by simp)]
    simp
theorem leB_beL' (l : List UInt8) : leB (beL l) l.length = l.reverse := leB_beL l.reverse l rfl
end Go.Proofs.YtgdflobcbhnimaaGreat.W
