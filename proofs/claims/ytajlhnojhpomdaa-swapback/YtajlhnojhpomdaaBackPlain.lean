/- What is proved here: plain facts for the laws SwapBack and SwapHalves: a number's lowest bytes, read again, are its remainder. -/
import Derived.Test.YtajlhnojhpomdaaRef
namespace Go.Proofs.Ytajlhnojhpomdaa
open Go.RowKit

theorem foldl_from (l : List UInt8) : ∀ v : Nat, l.foldl (fun v c => v * 256 + c.toNat) v = v * 256 ^ l.length + beL l := by
  induction l with
  | nil => intro v; simp [beL]
  | cons c m ih =>
    intro v
    have h1 := ih (v * 256 + c.toNat)
    have h2 := ih (0 * 256 + c.toNat)
    simp only [beL, List.foldl_cons, List.length_cons] at h1 h2 ⊢
    rw [h1, h2, Nat.pow_succ, Nat.add_mul, Nat.add_mul, Nat.zero_mul, Nat.mul_comm (256 ^ m.length) 256, Nat.mul_assoc]
    omega
theorem beL_append (l m : List UInt8) : beL (l ++ m) = beL l * 256 ^ m.length + beL m := by
  rw [beL, List.foldl_append, foldl_from]; rfl
theorem pow256 (k : Nat) : 256 ^ k = 2 ^ (8 * k) := by rw [Nat.pow_mul]
theorem beL_one (c : UInt8) : beL [c] = c.toNat := by simp [beL]
theorem beL_leB (v k : Nat) : beL (leB v k).reverse = v % 2 ^ (8 * k) := by
  induction k with
  | zero => simp [leB, beL, Nat.mod_one]
  | succ k ih =>
    have h : (UInt8.ofNat (byteAt v k)).toNat = byteAt v k := by simp [Nat.mod_eq_of_lt (byteAt_lt v k)]
    rw [leB, List.reverse_append, List.reverse_singleton, beL_append, beL_one, ih, h, List.length_reverse, leB_length, pow256, Nat.mul_add, Nat.pow_add, Nat.mod_mul, byteAt, Nat.mul_comm, show 2 ^ (8 * 1) = 256 from rfl]
    omega

/-- The two strings of SwapBack. -/
theorem put_size (v k : Nat) (hk : k ≤ 8) : (putBeS v (k : Int)).size = k ∧ (putLeS v (k : Int)).size = k := by
  rw [putBeS, putLeS, if_pos (by omega), if_pos (by omega), Int.toNat_natCast]
  constructor
  · show (leB v k).reverse.toArray.size = k
    simp [leB_length]
  · show (leB v k).toArray.size = k
    simp [leB_length]
theorem put_turn (v k : Nat) (hk : k ≤ 8) (i j : Nat) (hij : i + j + 1 = k) (h1 : i < (putBeS v (k : Int)).size) (h2 : j < (putLeS v (k : Int)).size) : (putBeS v (k : Int))[i] = (putLeS v (k : Int))[j] := by
  have e1 : putBeS v (k : Int) = ⟨(leB v k).reverse.toArray⟩ := by rw [putBeS, if_pos (by omega), Int.toNat_natCast]
  have e2 : putLeS v (k : Int) = ⟨(leB v k).toArray⟩ := by rw [putLeS, if_pos (by omega), Int.toNat_natCast]
  generalize putBeS v (k : Int) = A at *
  generalize putLeS v (k : Int) = B at *
  subst e1 e2
  show (leB v k).reverse.toArray[i]'h1 = (leB v k).toArray[j]'h2
  simp only [List.getElem_toArray, List.getElem_reverse, leB_get, leB_length]
  rw [show k - 1 - i = j from by omega]
theorem be_put (v k : Nat) (hk : k ≤ 8) : beS (putBeS v (k : Int)) = v % 2 ^ (8 * k) ∧ leS (putLeS v (k : Int)) = v % 2 ^ (8 * k) := by
  obtain ⟨h1, h2⟩ := put_size v k hk
  rw [beS, leS, h1, h2, if_pos hk, if_pos hk, putBeS, putLeS, if_pos (by omega), if_pos (by omega), Int.toNat_natCast]
  exact ⟨beL_leB v k, beL_leB v k⟩
theorem mask64 (v k : Nat) (hv : v < 18446744073709551616) (hk : k ≤ 7) : bits .and .u64 (v : Int) (IntKind.u64.wrap (IntKind.u64.wrap (2 ^ (8 * k)) - 1)) = ((v % 2 ^ (8 * k) : Nat) : Int) := by
  have hq : 2 ^ (8 * k) ≤ 2 ^ 56 := Nat.pow_le_pow_right (show 1 ≤ 2 by decide) (by omega)
  have hq0 := Nat.pow_pos (n := 8 * k) (show 0 < 2 by decide)
  have e : IntKind.u64.wrap (IntKind.u64.wrap ((2 : Int) ^ (8 * k)) - 1) = ((2 ^ (8 * k) - 1 : Nat) : Int) := by
    have e2 : ((2 : Int) ^ (8 * k)) = ((2 ^ (8 * k) : Nat) : Int) := by simp
    rw [e2, IntKind.wrap_u64, IntKind.wrap_u64]; omega
  rw [e, u64_and_nat _ _ hv (by omega), Nat.and_two_pow_sub_one_eq_mod]
end Go.Proofs.Ytajlhnojhpomdaa
